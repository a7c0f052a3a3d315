import Derived.Test.YtgbpbfnpeeciaaaP39
import Derived.Test.YtgbpbfnpeeciaaaP01
namespace Go.Proofs.Ytgbpbfnpeeciaaa
open Go.RowKit
set_option maxRecDepth 100000
set_option maxHeartbeats 4000000
def mdE (d : DS) (x : Mv) (t : Int) : Int := if t = 0 then d.putE 0 x.va x.m else if t = 1 then d.cutE 0 x.va else if t = 2 then d.addE 0 (x.va / 4194304) x.m.p else if t = 3 then -1 - d.atE 0 x.va else if t = 4 then -1 - d.slotE 0 x.va else -1 - d.folE 0
def mdD (d : DS) (x : Mv) (t : Int) : DS := if t = 0 then d.put 0 x.va x.m else if t = 1 then d.cut 0 x.va else if t = 2 then d.add 0 (x.va / 4194304) x.m.p else if t = 3 then d.look 0 x.va else if t = 4 then d.look 0 x.va else d.folD 0
theorem made_any (W : World) (p : Dp) (d : DS) (h : DB W p d) (hU : d.m.U) (x : Mv) (v0 : 0 ≤ x.va) (v1 : x.va < 4294967296) (turn : Int) (t0 : 0 ≤ turn) (hE : 0 ≤ d.atE 0 x.va ∧ d.atE 0 x.va ≤ 1000 ∧ 0 ≤ d.slotE 0 x.va ∧ d.slotE 0 x.va ≤ 1000 ∧ 0 ≤ d.folE 0 ∧ d.folE 0 ≤ 1000) :
    Calls Try.prog 25 #[ptr p.g, .agg #[.bool x.cut, .int .u32 x.va, .bool x.m.s, .int .i64 x.m.p, .bool x.m.wr, .bool x.m.ex], .int .i64 turn] W fun y W' => y = .returned (.int .i64 (mdE d x (turn % 6))) ∧ DB W' p (mdD d x (turn % 6)) ∧ ButL p.f.w W W' := by
  have D0 := hid ((DG.startw h).new 42 [.bool x.cut, .int .u32 x.va, .bool x.m.s, .int .i64 x.m.p, .bool x.m.wr, .bool x.m.ex])
  have HCu := hid (fun w (hw : DB w p d) => cut_any w p d hw hU 0 x.va v0 v1)
  have HPu := hid (fun w (hw : DB w p d) => put_any w p d hw hU 0 x.va x.m v0 v1)
  have HAd := hid (fun w (hw : DB w p d) => addTable_any w p d hw hU 0 (x.va / 4194304) x.m.p)
  have HAt := hid (fun w (hw : DB w p d) => at_any2 w p d hw hU 0 x.va v0 v1)
  have HSl := hid (fun w (hw : DB w p d) => slot_any w p d hw hU 0 x.va v0 v1)
  have HTb := hid (fun w (hw : DB w p d) => table_any w p d hw hU 0)
  have HTu := hid (fun w => turned_l w x.m)
  obtain ⟨e1, e2, e3, e4, e5, e6⟩ := hE
  have et : turn.tmod 6 = turn % 6 := Int.tmod_eq_emod_of_nonneg t0
  have r0 : 0 ≤ turn % 6 := Int.emod_nonneg _ (by decide)
  have r1 : turn % 6 < 6 := Int.emod_lt_of_pos _ (by decide)
  clear h
  simp only [ptr, Mp.v] at *
  generalize turn % 6 = r at *
  go_enter Try.func25, Try.ntmps25
  go_upto_region 1 with fail
  generalize World.alloc _ _ = X at *
  generalize W.heap.size = g5 at D0 ⊢
  have hr : r = 0 ∨ r = 1 ∨ r = 2 ∨ r = 3 ∨ r = 4 ∨ r = 5 := by omega
  clear r0 r1
  have c1 := (D0.out.get 0 rfl).cell 1
  have c3 := (D0.out.get 0 rfl).cell 3
  simp only [List.getElem?_cons_zero, List.getElem?_cons_succ] at c1 c3
  rcases hr with rfl | rfl | rfl | rfl | rfl | rfl
  · go_upto_region 3 with fail
    have D1 := hid (D0.out.on (Below.refl _ _).drew)
    clear D0 c1 c3
    refine wp_region_held_drew (S := fun w => Cel w g5 42 [.bool x.cut, .int .u32 x.va, .bool x.m.s, .int .i64 x.m.p, .bool x.m.wr, .bool x.m.ex]) (by kernel_rfl) (D1.out.get 0 rfl) (fun hHeld => ?_)
    refine tk 0 ⟨some 15, .move (.tmp 0), 34, "outright.go:222", #[], none⟩ (.pointer (some ⟨p.g, 0, none⟩)) ?_
    simp only [Act.put, List.setIfInBounds_toArray, List.set_cons_zero, List.set_cons_succ]
    refine tk 1 ⟨some 16, .fieldAddr 42 (.tmp 4) 1, 0, "outright.go:222", #[], none⟩ (.pointer (some ⟨g5, 1, none⟩)) ?_
    simp only [Act.put, List.setIfInBounds_toArray, List.set_cons_zero, List.set_cons_succ]
    refine tk 2 ⟨some 17, .load 22 (.tmp 16), 22, "outright.go:222", #[⟨1, .data⟩], none⟩ (.int .u32 x.va) ?_ (hy := Or.inl ⟨by rfl, by intro w hSw; have hc := Cel.cell hSw 1; simp only [List.getElem?_cons_zero, List.getElem?_cons_succ] at hc; go_simp⟩)
    simp only [Act.put, List.setIfInBounds_toArray, List.set_cons_zero, List.set_cons_succ]
    refine tk 3 ⟨some 18, .fieldAddr 42 (.tmp 4) 2, 0, "outright.go:222", #[], none⟩ (.pointer (some ⟨g5, 2, none⟩)) ?_
    simp only [Act.put, List.setIfInBounds_toArray, List.set_cons_zero, List.set_cons_succ]
    refine tk 4 ⟨some 19, .load 40 (.tmp 18), 40, "outright.go:222", #[⟨3, .data⟩], none⟩ (.agg #[.bool x.m.s, .int .i64 x.m.p, .bool x.m.wr, .bool x.m.ex]) ?_ (hy := Or.inl ⟨by rfl, by intro w hSw; have h2 := Cel.cell hSw 2; have h3 := Cel.cell hSw 3; have h4 := Cel.cell hSw 4; have h5 := Cel.cell hSw 5; simp only [List.getElem?_cons_zero, List.getElem?_cons_succ] at h2 h3 h4 h5; go_simp⟩)
    simp only [Act.put, List.setIfInBounds_toArray, List.set_cons_zero, List.set_cons_succ]
    refine wpAnyH_ready (rs := [5]) (by kernel_rfl) (by simp) (AllReadyH.cons (o := ⟨some 20, .call { callee := .value (.func 17), args := #[.tmp 19], argTypes := #[40] }, 49, "outright.go:222", #[⟨4, .data⟩], none⟩) rfl (fun KQ hK => ?_) AllReadyH.nil)
    go_simp
    refine (HTu.out _).mono ?_
    rintro y w1 ⟨rfl, hb⟩
    have D2 := hid (D1.out.on hb)
    clear hb
    go_wp2_with fail
    refine hK.out _ _ (D2.out.get 0 rfl) (fun hHeld => ?_)
    clear hK KQ
    try simp only [Act.put, List.setIfInBounds_toArray, List.set_cons_zero, List.set_cons_succ]
    refine wpAnyH_ready (rs := [6]) (by kernel_rfl) (by simp) (AllReadyH.cons (o := ⟨some 21, .call { callee := .value (.func 18), args := #[.tmp 15, .const (.int .i64 0), .tmp 17, .tmp 20], argTypes := #[34, 3, 22, 49] }, 27, "outright.go:222", #[⟨0, .data⟩, ⟨2, .data⟩, ⟨5, .data⟩, ⟨5, .chain⟩], none⟩) rfl (fun KQ hK => ?_) AllReadyH.nil)
    go_simp
    refine (HPu.out _ D2.out.db).mono ?_
    rintro y w2 ⟨rfl, hd, hb⟩
    have D3 := hid (D2.out.step hd hb (fun _ hk => hk))
    clear hd hb
    go_wp2_with fail
    refine hK.out _ _ (D3.out.get 0 rfl) (fun hHeld => ?_)
    clear hK KQ
    try simp only [Act.put, List.setIfInBounds_toArray, List.set_cons_zero, List.set_cons_succ]
    refine wpAnyH_ready (rs := [7]) (by kernel_rfl) (by simp) (AllReadyH.cons (o := ⟨some 6, .assign (.tmp 21), 3, "outright.go:222", #[⟨6, .data⟩, ⟨6, .chain⟩, ⟨0, .phase⟩, ⟨1, .phase⟩, ⟨2, .phase⟩, ⟨3, .phase⟩, ⟨4, .phase⟩, ⟨5, .phase⟩, ⟨6, .phase⟩], none⟩) rfl (fun KQ hK => ?_) AllReadyH.nil)
    go_simp
    refine hK.out _ _ (D3.out.get 0 rfl) (fun hHeld => ?_)
    clear hK KQ
    try simp only [Act.put, List.setIfInBounds_toArray, List.set_cons_zero, List.set_cons_succ]
    refine wpAnyH_done (by kernel_rfl) ?_ _
    clear hHeld
    go_wp2_with fail
    go_ret
    exact ⟨rfl, D3.out.db, D3.out.but⟩
  · go_wp2_with (go_at_call 16; refine (HCu.out _ D0.out.db).mono ?_; rintro y w2 ⟨rfl, hd, hb⟩; have D2 := hid (D0.out.step hd hb (fun _ hk => hk)); clear hd hb)
    go_ret
    exact ⟨rfl, D2.out.db, D2.out.but⟩
  · go_wp2_with (go_at_call 33; refine (HAd.out _ D0.out.db).mono ?_; rintro y w2 ⟨rfl, hd, hb⟩; have D2 := hid (D0.out.step hd hb (fun _ hk => hk)); clear hd hb)
    go_ret
    exact ⟨rfl, D2.out.db, D2.out.but⟩
  · go_wp2_with (go_at_call 13; refine (HAt.out _ D0.out.db).mono ?_; rintro y w2 ⟨rfl, hd, hb⟩; have D2 := hid (D0.out.step hd hb (fun _ hk => hk)); clear hd hb)
    go_ret
    have D3 := D2.out.on (below_one w2 (.cells [Value.bool (d.atM 0 x.va).s, .int .i64 (d.atM 0 x.va).p, .bool (d.atM 0 x.va).wr, .bool (d.atM 0 x.va).ex].toArray 49))
    exact ⟨rfl, D3.db, D3.but⟩
  · go_wp2_with (go_at_call 57; refine (HSl.out _ D0.out.db).mono ?_; rintro y w2 ⟨rfl, hd, hb⟩; have D2 := hid (D0.out.step hd hb (fun _ hk => hk)); clear hd hb)
    go_ret
    exact ⟨rfl, D2.out.db, D2.out.but⟩
  · go_wp2_with (go_at_call 19; refine (HTb.out _ D0.out.db).mono ?_; rintro y w2 ⟨rfl, hd, hb⟩; have D2 := hid (D0.out.step hd hb (fun _ hk => hk)); clear hd hb)
    go_ret
    exact ⟨rfl, D2.out.db, D2.out.but⟩
end Go.Proofs.Ytgbpbfnpeeciaaa
namespace Go.Proofs.Ytgbpbfnpeeciaaa
open Go.RowKit
variable {d : DS}
def mdQ (d : DS) (x : Mv) (t : Int) : Int := if t = 2 then 1 else pf (d.w1 0 x.va)
def mdO (x : Mv) (t : Int) : Int := if t = 2 then x.va / 4194304 else spJ x.va
theorem fndE_range (h : TI d) (va : Int) : 0 ≤ d.fndE 0 va ∧ d.fndE 0 va ≤ 1000 := by
  unfold DS.fndE
  rw [if_neg (by rw [h.folE]; decide)]
  rcases spE_cases va with hs | hs
  · rw [if_neg (fun hh => hh hs)]
    split <;> decide
  · rw [hs, if_pos (by decide)]
    decide
theorem TI.bnd (h : TI d) (va : Int) : 0 ≤ d.atE 0 va ∧ d.atE 0 va ≤ 1000 ∧ 0 ≤ d.slotE 0 va ∧ d.slotE 0 va ≤ 1000 ∧ 0 ≤ d.folE 0 ∧ d.folE 0 ≤ 1000 := by
  obtain ⟨a, b⟩ := fndE_range h va
  have h1 : 0 ≤ d.atE 0 va ∧ d.atE 0 va ≤ 1000 := by
    unfold DS.atE
    split
    · unfold MS.mE psE
      split <;> split <;> (try split) <;> (try split) <;> simp_all
    · exact ⟨a, b⟩
  have h2 : 0 ≤ d.slotE 0 va ∧ d.slotE 0 va ≤ 1000 := by
    unfold DS.slotE
    split
    · split <;> decide
    · exact ⟨a, b⟩
  exact ⟨h1.1, h1.2, h2.1, h2.2, by rw [h.folE]; decide, by rw [h.folE]; decide⟩
theorem TI.md (h : TI d) (x : Mv) (v0 : 0 ≤ x.va) (t : Int) : Eff d (mdD d x t) (mdE d x t) (mdQ d x t) (mdO x t) := by
  obtain ⟨a1, _, b1, _, c1, _⟩ := h.bnd x.va
  unfold mdD mdE mdQ mdO
  by_cases h0 : t = 0
  · subst h0
    exact h.put v0 x.m
  · rw [if_neg h0, if_neg h0]
    by_cases h1 : t = 1
    · subst h1
      exact h.cut v0
    · rw [if_neg h1, if_neg h1]
      by_cases h2 : t = 2
      · rw [if_pos h2, if_pos h2, if_pos h2, if_pos h2]
        exact h.add _ _
      · rw [if_neg h2, if_neg h2, if_neg h2, if_neg h2]
        by_cases h3 : t = 3
        · rw [if_pos h3, if_pos h3]
          exact h.look v0 _ (by omega) _ _
        · rw [if_neg h3, if_neg h3]
          by_cases h4 : t = 4
          · rw [if_pos h4, if_pos h4]
            exact h.look v0 _ (by omega) _ _
          · rw [if_neg h4, if_neg h4]
            exact h.tab _ (by omega) _ _
theorem Eff.part {d' : DS} {e q o : Int} (h : Eff d d' e q o) : ∀ k j, k < 12 → j < 1024 → (wk d.m k j = wk d'.m k j ↔ ¬ (decide (e = 0) = true ∧ k = q.toNat ∧ j = o.toNat)) := by
  intro k j hk hj
  unfold wk
  by_cases he : e = 0
  · obtain ⟨⟨q0, q1, o0, o1⟩, hne, hoth⟩ := h.one he
    simp only [he, decide_true, true_and]
    by_cases hc : k = q.toNat ∧ j = o.toNat
    · obtain ⟨rfl, rfl⟩ := hc
      have e1 : fsec q.toNat = true := decide_eq_true (by omega)
      have e2 : fpg q.toNat = q := by unfold fpg; rw [if_pos (by omega)]; omega
      have e3 : ((o.toNat : Nat) : Int) = o := by omega
      rw [e1, e2, e3]
      simp
      exact fun e => hne e.symm
    · have := hoth (fsec k) (fpg k) (j : Int) (fun hh => hc (by
        obtain ⟨h1, h2, h3⟩ := hh
        have h8 : k < 8 := of_decide_eq_true h1
        unfold fpg at h2
        rw [if_pos h8] at h2
        omega))
      rw [this]
      simpa using hc
  · rw [h.same he]
    simp [he]
theorem Eff.ws {d' : DS} {e q o : Int} (h : Eff d d' e q o) (hd : TI d) : d'.ws = d.ws ∧ d'.m.ns = d.m.ns := by
  unfold DS.ws
  rw [h.b, h.ti.E, hd.E, h.ti.mf.ns, hd.mf.ns]
  exact ⟨rfl, rfl⟩
end Go.Proofs.Ytgbpbfnpeeciaaa
