import Derived.Test.YtgbpbfnpeeciaaaP10
import Derived.Test.YtgbpbfnpeeciaaaP01
namespace Go.Proofs.Ytgbpbfnpeeciaaa
open Go.RowKit
theorem getD_take {α : Type} (l : List α) (d : α) (n k : Nat) (h : k < n) : (l.take n).getD k d = l.getD k d := by
  rw [List.getD_eq_getElem?_getD, List.getElem?_take_of_lt h, ← List.getD_eq_getElem?_getD]
theorem getD_drop {α : Type} (l : List α) (d : α) (n k : Nat) : (l.drop n).getD k d = l.getD (n + k) d := by
  rw [List.getD_eq_getElem?_getD, List.getElem?_drop, ← List.getD_eq_getElem?_getD]
theorem Mem.rs {w : World} {f : Fp} {m : MS} (h : Mem w f m) : RP w f.gs (f.bs.take m.ns) (m.P.take m.ns) := by
  have := h.ns0
  refine ⟨h.sec, by rw [List.length_take, List.length_take, h.len], fun k hk => ?_, fun k hk => ?_⟩
  · rw [List.length_take] at hk
    rw [getD_take _ _ _ _ (by omega), getD_take _ _ _ _ (by omega)]
    exact h.pg k (by omega)
  · rw [List.length_take] at hk
    rw [getD_take _ _ _ _ (by omega)]
    exact h.full k (by omega)
theorem Mem.ri {w : World} {f : Fp} {m : MS} (h : Mem w f m) : RP w f.gi (f.bs.drop m.ns) (m.P.drop m.ns) := by
  have := h.ns0
  refine ⟨h.ins, by rw [List.length_drop, List.length_drop, h.len], fun k hk => ?_, fun k hk => ?_⟩
  · rw [List.length_drop] at hk
    rw [getD_drop, getD_drop]
    exact h.pg _ (by omega)
  · rw [List.length_drop] at hk
    rw [getD_drop]
    exact h.full _ (by omega)
theorem mem_of2 {w w1 w2 w3 : World} {g1 g2 gm : Nat} {bs1 bs2 : List Nat} {m : MS} (h1 : CP w w1 g1 bs1 (m.P.take m.ns)) (h2 : CP w1 w2 g2 bs2 (m.P.drop m.ns)) (hm : m.P.length ≤ 128) (hs : m.ns ≤ m.P.length) (hb : Below w2.heap.size w2 w3) (hgm : w.heap.size ≤ gm)
    (hc : Cel w3 gm 127 [.slice (some ⟨g1, 0, none⟩) m.ns m.ns, .slice (some ⟨g2, 0, none⟩) (m.P.length - m.ns) (m.P.length - m.ns), .int .i64 m.c]) :
    Mem w3 ⟨gm, g1, g2, bs1 ++ bs2⟩ m ∧ (∀ k ∈ (⟨gm, g1, g2, bs1 ++ bs2⟩ : Fp).all, w.heap.size ≤ k) := by
  have h1' := (h1.on h2.below).on hb
  have h2' := h2.on hb
  have l1 : bs1.length = m.ns := by rw [h1.len, List.length_take]; omega
  have l2 : bs2.length = m.P.length - m.ns := by rw [h2.len, List.length_drop]
  have key : ∀ k, k < m.P.length → (k < m.ns ∧ (bs1 ++ bs2).getD k 0 = bs1.getD k 0 ∧ m.P.getD k [] = (m.P.take m.ns).getD k [] ∧ k < (m.P.take m.ns).length) ∨ (∃ j, k = m.ns + j ∧ (bs1 ++ bs2).getD k 0 = bs2.getD j 0 ∧ m.P.getD k [] = (m.P.drop m.ns).getD j [] ∧ j < (m.P.drop m.ns).length) := by
    intro k hk
    by_cases hlt : k < m.ns
    · refine .inl ⟨hlt, ?_, (getD_take _ _ _ _ hlt).symm, by rw [List.length_take]; omega⟩
      rw [List.getD_eq_getElem?_getD, List.getElem?_append_left (by omega), ← List.getD_eq_getElem?_getD]
    · refine .inr ⟨k - m.ns, by omega, ?_, ?_, by rw [List.length_drop]; omega⟩
      · rw [List.getD_eq_getElem?_getD, List.getElem?_append_right (by omega), ← List.getD_eq_getElem?_getD, l1]
      · rw [getD_drop]; congr 1; omega
  refine ⟨⟨hc, ?_, ?_, ?_, hs, hm, ?_, ?_, ?_⟩, ?_⟩
  · have := h1'.cel
    simpa [List.take_left' l1] using this
  · have := h2'.cel
    simpa [List.drop_left' l1] using this
  · simp [l1, l2]; omega
  · intro k hk
    show Cel w3 ((bs1 ++ bs2).getD k 0) 170 (u32s (m.P.getD k []))
    rcases key k hk with ⟨_, e1, e2, e3⟩ | ⟨j, _, e1, e2, e3⟩
    · rw [e1, e2]; exact (h1'.pages k e3).2
    · rw [e1, e2]; exact (h2'.pages j e3).2
  · intro k hk
    show (m.P.getD k []).length = 1024
    rcases key k hk with ⟨_, e1, e2, e3⟩ | ⟨j, _, e1, e2, e3⟩
    · rw [e2]; exact h1.full k e3
    · rw [e2]; exact h2.full j e3
  · rw [List.nodup_append]
    refine ⟨h1.nodup, h2.nodup, ?_⟩
    intro a ha b hb' e
    subst e
    obtain ⟨i, hi, rfl⟩ := List.mem_iff_getElem.1 ha
    obtain ⟨j, hj, hij⟩ := List.mem_iff_getElem.1 hb'
    have a1 := (h1.pages i (by rw [← h1.len]; exact hi)).2.lt
    have a2 := (h2.pages j (by rw [← h2.len]; exact hj)).1
    rw [List.getD_eq_getElem?_getD, List.getElem?_eq_getElem hi] at a1
    rw [List.getD_eq_getElem?_getD, List.getElem?_eq_getElem hj] at a2
    simp only [Option.getD_some] at a1 a2
    omega
  · intro k hk
    have s1 := h1.below.size
    simp only [Fp.all, List.mem_cons, List.mem_append] at hk
    rcases hk with rfl | rfl | rfl | hk | hk
    · exact hgm
    · exact h1.hg
    · have := h2.hg; omega
    · obtain ⟨i, hi, rfl⟩ := List.mem_iff_getElem.1 hk
      have a1 := (h1.pages i (by rw [← h1.len]; exact hi)).1
      rw [List.getD_eq_getElem?_getD, List.getElem?_eq_getElem hi] at a1
      exact a1
    · obtain ⟨i, hi, rfl⟩ := List.mem_iff_getElem.1 hk
      have a1 := (h2.pages i (by rw [← h2.len]; exact hi)).1
      rw [List.getD_eq_getElem?_getD, List.getElem?_eq_getElem hi] at a1
      simp only [Option.getD_some] at a1
      omega
theorem CP.from {w w0 w' : World} {g : Nat} {bs : List Nat} {Q : List (List Int)} (h : CP w0 w' g bs Q) (hb : Below w.heap.size w w0) : CP w w' g bs Q :=
  ⟨below_on hb h.below, Nat.le_trans hb.size h.hg, h.cel, h.len, fun k hk => ⟨Nat.le_trans hb.size (h.pages k hk).1, (h.pages k hk).2⟩, h.full, h.nodup⟩
set_option maxRecDepth 40000 in
set_option maxHeartbeats 4000000 in
theorem clone_any (w : World) (f : Fp) (m : MS) (h : Mem w f m) :
    Calls Try.prog 55 #[ptr f.gm] w fun x w' => ∃ f', x = .returned (ptr f'.gm) ∧ NewMem w w' f' m := by
  have F1 : Hid (∀ x, Below w.heap.size w x → Calls Try.prog 91 #[.slice (some ⟨f.gs, 0, none⟩) m.ns m.ns] x fun y x' => ∃ g' bs', y = .returned (.slice (some ⟨g', 0, none⟩) m.ns m.ns) ∧ CP x x' g' bs' (m.P.take m.ns)) := hid (fun x hx => by
    have e : (m.P.take m.ns).length = m.ns := by rw [List.length_take]; have := h.ns0; omega
    have := clonePages_any x f.gs _ _ (h.on hx).rs (by rw [e]; have := h.most; have := h.ns0; omega) m.ns
    rw [e] at this
    exact this)
  have F2 : Hid (∀ x, Below w.heap.size w x → Calls Try.prog 91 #[.slice (some ⟨f.gi, 0, none⟩) (m.P.length - m.ns) (m.P.length - m.ns)] x fun y x' => ∃ g' bs', y = .returned (.slice (some ⟨g', 0, none⟩) (m.P.length - m.ns) (m.P.length - m.ns)) ∧ CP x x' g' bs' (m.P.drop m.ns)) := hid (fun x hx => by
    have e : (m.P.drop m.ns).length = m.P.length - m.ns := List.length_drop
    have := clonePages_any x f.gi _ _ (h.on hx).ri (by rw [e]; have := h.most; omega) (m.P.length - m.ns)
    rw [e] at this
    exact this)
  have HX : Hid (∀ x, Below w.heap.size w x → x.cell? ⟨f.gm, 0, none⟩ = some (.slice (some ⟨f.gs, 0, none⟩) m.ns m.ns) ∧ x.cell? ⟨f.gm, 1, none⟩ = some (.slice (some ⟨f.gi, 0, none⟩) (m.P.length - m.ns) (m.P.length - m.ns)) ∧ x.cell? ⟨f.gm, 2, none⟩ = some (.int .i64 m.c)) := hid (fun x hx => ⟨(h.on hx).cel.cell 0, (h.on hx).cel.cell 1, (h.on hx).cel.cell 2⟩)
  have HM := hid h.most
  have HS := hid h.ns0
  clear h
  generalize hn2 : m.P.length - m.ns = n2 at *
  have HN2 := hid hn2
  clear hn2
  simp only [ptr]
  go_enter Try.func55, Try.ntmps55
  go_wp2_with fail
  refine wp_region_held_drew (S := fun x => Below w.heap.size w x) (by kernel_rfl) ((Below.refl _ _).drew) (fun hHeld => ?_)
  refine tk 0 ⟨some 3, .move (.tmp 0), 65, "mem.go:39", #[], none⟩ (.pointer (some ⟨f.gm, 0, none⟩)) ?_
  simp only [Act.put, List.setIfInBounds_toArray, List.set_cons_zero, List.set_cons_succ]
  refine tk 1 ⟨some 4, .nilCheck (.tmp 3), 0, "mem.go:39", #[⟨0, .data⟩], none⟩ (.pointer (some ⟨f.gm, 0, none⟩)) ?_
  simp only [Act.put, List.setIfInBounds_toArray, List.set_cons_zero, List.set_cons_succ]
  refine tk 2 ⟨some 5, .fieldAddr 127 (.tmp 4) 0, 0, "mem.go:39", #[⟨1, .data⟩], none⟩ (.pointer (some ⟨f.gm, 0, none⟩)) ?_
  simp only [Act.put, List.setIfInBounds_toArray, List.set_cons_zero, List.set_cons_succ]
  refine tk 3 ⟨some 6, .load 125 (.tmp 5), 125, "mem.go:39", #[⟨2, .data⟩], none⟩ (.slice (some ⟨f.gs, 0, none⟩) m.ns m.ns) ?_ (hy := Or.inl ⟨by rfl, by intro w hSw; have hcc := (HX.out w hSw).1; go_simp⟩)
  simp only [Act.put, List.setIfInBounds_toArray, List.set_cons_zero, List.set_cons_succ]
  refine tk 5 ⟨some 8, .move (.tmp 0), 65, "mem.go:39", #[], none⟩ (.pointer (some ⟨f.gm, 0, none⟩)) ?_
  simp only [Act.put, List.setIfInBounds_toArray, List.set_cons_zero, List.set_cons_succ]
  refine tk 6 ⟨some 9, .nilCheck (.tmp 8), 0, "mem.go:39", #[⟨5, .data⟩], none⟩ (.pointer (some ⟨f.gm, 0, none⟩)) ?_
  simp only [Act.put, List.setIfInBounds_toArray, List.set_cons_zero, List.set_cons_succ]
  refine tk 7 ⟨some 10, .fieldAddr 127 (.tmp 9) 1, 0, "mem.go:39", #[⟨6, .data⟩], none⟩ (.pointer (some ⟨f.gm, 1, none⟩)) ?_
  simp only [Act.put, List.setIfInBounds_toArray, List.set_cons_zero, List.set_cons_succ]
  refine tk 8 ⟨some 11, .load 125 (.tmp 10), 125, "mem.go:39", #[⟨7, .data⟩], none⟩ (.slice (some ⟨f.gi, 0, none⟩) n2 n2) ?_ (hy := Or.inl ⟨by rfl, by intro w hSw; have hcc := (HX.out w hSw).2.1; go_simp⟩)
  simp only [Act.put, List.setIfInBounds_toArray, List.set_cons_zero, List.set_cons_succ]
  refine tk 10 ⟨some 13, .move (.tmp 0), 65, "mem.go:39", #[], none⟩ (.pointer (some ⟨f.gm, 0, none⟩)) ?_
  simp only [Act.put, List.setIfInBounds_toArray, List.set_cons_zero, List.set_cons_succ]
  refine tk 11 ⟨some 14, .nilCheck (.tmp 13), 0, "mem.go:39", #[⟨10, .data⟩], none⟩ (.pointer (some ⟨f.gm, 0, none⟩)) ?_
  simp only [Act.put, List.setIfInBounds_toArray, List.set_cons_zero, List.set_cons_succ]
  refine tk 12 ⟨some 15, .fieldAddr 127 (.tmp 14) 2, 0, "mem.go:39", #[⟨11, .data⟩], none⟩ (.pointer (some ⟨f.gm, 2, none⟩)) ?_
  simp only [Act.put, List.setIfInBounds_toArray, List.set_cons_zero, List.set_cons_succ]
  refine tk 13 ⟨some 16, .load 2 (.tmp 15), 2, "mem.go:39", #[⟨12, .data⟩], none⟩ (.int .i64 m.c) ?_ (hy := Or.inl ⟨by rfl, by intro w hSw; have hcc := (HX.out w hSw).2.2; go_simp⟩)
  simp only [Act.put, List.setIfInBounds_toArray, List.set_cons_zero, List.set_cons_succ]
  refine wpAnyH_ready (rs := [4]) (by kernel_rfl) (by simp) (AllReadyH.cons (o := ⟨some 7, .call { callee := .value (.func 91), args := #[.tmp 6], argTypes := #[125] }, 125, "mem.go:39", #[⟨3, .data⟩], none⟩) rfl (fun KQ hK => ?_) AllReadyH.nil)
  go_simp
  refine (F1.out _ ((Below.refl _ _).drew)).mono ?_
  rintro x wa ⟨ga, bsa, rfl, hca⟩
  have hS1 := below_on ((Below.refl _ _).drew) hca.below
  go_wp2_with fail
  refine hK.out _ _ hS1 (fun hHeld => ?_)
  clear hK KQ
  try simp only [Act.put, List.setIfInBounds_toArray, List.set_cons_zero, List.set_cons_succ]
  refine wpAnyH_ready (rs := [9]) (by kernel_rfl) (by simp) (AllReadyH.cons (o := ⟨some 12, .call { callee := .value (.func 91), args := #[.tmp 11], argTypes := #[125] }, 125, "mem.go:39", #[⟨8, .data⟩, ⟨4, .chain⟩], none⟩) rfl (fun KQ hK => ?_) AllReadyH.nil)
  go_simp
  refine (F2.out _ hS1).mono ?_
  rintro x wb ⟨gb, bsb, rfl, hcb⟩
  have hS2 := below_on hS1 hcb.below
  go_wp2_with fail
  refine hK.out _ _ hS2 (fun hHeld => ?_)
  clear hK KQ
  try simp only [Act.put, List.setIfInBounds_toArray, List.set_cons_zero, List.set_cons_succ]
  refine tk 14 ⟨some 17, .build 127 #[(0, .tmp 7), (1, .tmp 12), (2, .tmp 16)], 127, "mem.go:39", #[⟨4, .data⟩, ⟨9, .data⟩, ⟨13, .data⟩], none⟩ (.agg #[.slice (some ⟨ga, 0, none⟩) m.ns m.ns, .slice (some ⟨gb, 0, none⟩) n2 n2, .int .i64 m.c]) ?_
  simp only [Act.put, List.setIfInBounds_toArray, List.set_cons_zero, List.set_cons_succ]
  refine wpAnyH_ready (rs := [15]) (by kernel_rfl) (by simp) (AllReadyH.cons (o := ⟨some 18, .box 127 (.tmp 17), 65, "mem.go:39", #[⟨14, .data⟩], none⟩) rfl (fun KQ hK => ?_) AllReadyH.nil)
  go_simp
  refine hK.out _ _ (below_on hS2 (below_one _ _)) (fun hHeld => ?_)
  clear hK KQ
  try simp only [Act.put, List.setIfInBounds_toArray, List.set_cons_zero, List.set_cons_succ]
  refine wpAnyH_ready (rs := [16]) (by kernel_rfl) (by simp) (AllReadyH.cons (o := ⟨some 2, .assign (.tmp 18), 65, "mem.go:39", #[⟨15, .data⟩, ⟨9, .chain⟩, ⟨0, .phase⟩, ⟨1, .phase⟩, ⟨2, .phase⟩, ⟨3, .phase⟩, ⟨4, .phase⟩, ⟨5, .phase⟩, ⟨6, .phase⟩, ⟨7, .phase⟩, ⟨8, .phase⟩, ⟨9, .phase⟩, ⟨10, .phase⟩, ⟨11, .phase⟩, ⟨12, .phase⟩, ⟨13, .phase⟩, ⟨14, .phase⟩, ⟨15, .phase⟩], none⟩) rfl (fun KQ hK => ?_) AllReadyH.nil)
  go_simp
  refine hK.out _ _ (below_on hS2 (below_one _ _)) (fun hHeld => ?_)
  clear hK KQ
  try simp only [Act.put, List.setIfInBounds_toArray, List.set_cons_zero, List.set_cons_succ]
  refine wpAnyH_done (by kernel_rfl) ?_ _
  clear hHeld
  have HCA := hid hca
  have HCB := hid hcb
  have HS1 := hid hS1
  have HS2 := hid hS2
  clear hca hcb hS1 hS2 F1 F2 HX
  go_wp2_with fail
  go_ret
  have h := mem_of2 (w := w) (m := m) (w3 := wb.alloc (.cells #[.slice (some ⟨ga, 0, none⟩) m.ns m.ns, .slice (some ⟨gb, 0, none⟩) n2 n2, .int .i64 m.c] 127)) (gm := wb.heap.size) (CP.from HCA.out (Below.refl _ _).drew) HCB.out HM.out HS.out (below_one _ _) HS2.out.size (by rw [HN2.out]; exact Cel.new _ _ [.slice (some ⟨ga, 0, none⟩) m.ns m.ns, .slice (some ⟨gb, 0, none⟩) n2 n2, .int .i64 m.c])
  exact ⟨⟨wb.heap.size, ga, gb, bsa ++ bsb⟩, rfl, h.1, below_on HS2.out (below_one _ _), h.2⟩
def MS.same (m o : MS) : Bool := decide (m.P.take m.ns = o.P.take o.ns) && decide (m.P.drop m.ns = o.P.drop o.ns)
end Go.Proofs.Ytgbpbfnpeeciaaa
namespace Go.Proofs.Ytgbpbfnpeeciaaa
open Go.RowKit
theorem MS.read_eq (m : MS) (s : Bool) (p o : Int) : m.read s p o = if m.err s p o = 0 then m.tick 1 else m := by
  unfold MS.read MS.err
  cases m.at s p with
  | none => rfl
  | some k => by_cases h : In o <;> simp [h]
def MS.wc (m : MS) (c : Int) : MS := { m with c := c }
def MS.wkD (m : MS) (l va : Int) : Int := if spE va = 0 then (if m.f1E l (spI va) = 0 then 2 else if m.err true l (spI va) = 0 then 1 else 0) else 0
theorem MS.U.wc {m : MS} (h : m.U) (c : Int) : (m.wc c).U := h
theorem MS.write_at (m : MS) (s : Bool) (p o v : Int) (s' : Bool) (p' : Int) : (m.write s p o v).at s' p' = m.at s' p' := by
  unfold MS.write
  split
  · rfl
  · split
    · unfold MS.at; simp only [MS.tick, List.length_set]; try rfl
    · rfl
theorem MS.at_inj {m : MS} {s s' : Bool} {p p' : Int} {k : Nat} (h0 : m.ns ≤ m.P.length) (h : m.at s p = some k) (h' : m.at s' p' = some k) : s = s' ∧ p = p' := by
  unfold MS.at at h h'
  cases s <;> cases s' <;> simp at h h'
  · exact ⟨rfl, by omega⟩
  · exfalso; omega
  · exfalso; omega
  · exact ⟨rfl, by omega⟩
theorem MS.write_word {m : MS} (h0 : m.ns ≤ m.P.length) (s : Bool) (p o v : Int) (s' : Bool) (p' o' : Int) (h : ¬ (s = s' ∧ p = p' ∧ o = o')) : (m.write s p o v).word s' p' o' = m.word s' p' o' := by
  unfold MS.word
  rw [MS.write_at]
  cases h1 : m.at s' p' with
  | none => rfl
  | some k =>
    simp only
    by_cases hi : In o'
    · rw [if_pos hi, if_pos hi]
      unfold MS.write
      cases h2 : m.at s p with
      | none => rfl
      | some q =>
        simp only
        by_cases hj : In o
        · rw [if_pos hj]
          simp only [MS.p, List.getD_eq_getElem?_getD, List.getElem?_set]
          by_cases hq : q = k
          · subst hq
            obtain ⟨e1, e2⟩ := MS.at_inj h0 h2 h1
            have hne : o ≠ o' := fun e => h ⟨e1, e2, e⟩
            by_cases hl : q < m.P.length
            · simp only [if_pos, hl, Option.getD_some]
              rw [wd_set, if_neg]
              rintro ⟨e, _⟩
              unfold In at hi hj
              omega
            · simp only [if_pos, hl, if_false]
              rw [List.getElem?_eq_none (by omega)]
          · simp only [if_neg hq]
        · rw [if_neg hj]
    · rw [if_neg hi, if_neg hi]
end Go.Proofs.Ytgbpbfnpeeciaaa
