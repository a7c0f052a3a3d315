/- SpaceWalks 5: the script; then the rest. -/
import Derived.Test.YtgbpbfnpeeciaaaXaXbXcXdXe
import Derived.Test.YtgbpbfnpeeciaaaX1
namespace Go.Proofs.Ytgbpbfnpeeciaaa
open Go.RowKit
set_option maxRecDepth 100000
set_option maxHeartbeats 8000000
theorem under42 : Try.prog.underlying 42 = some (.struct (Try.prog.fieldsOf 42)) := by kernel_rfl
theorem size42 : (Try.prog.info? 42).map (·.size) = some 6 := by kernel_rfl
theorem under40 : Try.prog.underlying 40 = some (.struct (Try.prog.fieldsOf 40)) := by kernel_rfl
theorem size40 : (Try.prog.info? 40).map (·.size) = some 4 := by kernel_rfl
theorem under55 : Try.prog.underlying 55 = some (.struct (Try.prog.fieldsOf 55)) := by kernel_rfl
theorem size55 : (Try.prog.info? 55).map (·.size) = some 5 := by kernel_rfl
theorem Cel.mv {w : World} {g : Nat} {t : TypeId} {x : Mv} (h : Cel w g t [.bool x.cut, .int .u32 x.va, .bool x.m.s, .int .i64 x.m.p, .bool x.m.wr, .bool x.m.ex]) : w.rangeAt g 2 [.bool x.m.s, .int .i64 x.m.p, .bool x.m.wr, .bool x.m.ex] := h.part 2 _ (fun j v hv => by
  match j with
  | 0 => simpa using hv
  | 1 => simpa using hv
  | 2 => simpa using hv
  | 3 => simpa using hv
  | j + 4 => simp at hv)
theorem Inv.put' {d : DS} {G : Int → Int → Int} (h : Inv d G) {va : Int} (v0 : 0 ≤ va) (m : Mp) : ∃ G', Inv (d.put 0 va m) G' := ⟨_, h.put v0 m⟩
theorem Inv.cut' {d : DS} {G : Int → Int → Int} (h : Inv d G) {va : Int} (v0 : 0 ≤ va) : ∃ G', Inv (d.cut 0 va) G' := ⟨_, h.cut v0⟩
theorem flat_get (A : List (Int × Mp)) (k : Nat) (x : Int × Mp) (hx : A[k]? = some x) (j : Nat) (v : Value) (hj : (atC x)[j]? = some v) : (flat A)[k * 5 + j]? = some v := by
  have hj5 : j < 5 := by have := (List.getElem?_eq_some_iff.1 hj).1; simpa [atC] using this
  induction A generalizing k with
  | nil => simp at hx
  | cons y A ih =>
    rw [show flat (y :: A) = atC y ++ flat A from rfl]
    cases k with
    | zero =>
      simp only [List.getElem?_cons_zero, Option.some.injEq] at hx
      subst hx
      rw [List.getElem?_append_left (by simp [atC]; omega)]
      simpa using hj
    | succ k =>
      rw [List.getElem?_append_right (by simp [atC]; omega)]
      have := ih k (by simpa using hx)
      rw [show (atC y).length = 5 from rfl, show (k + 1) * 5 + j - 5 = k * 5 + j by omega]
      exact this
theorem own_row {W : World} {b n : Nat} {ao : Option Addr} {c : Nat} {A : List (Int × Mp)} (h : W.ownsRow b 55 5 (.slice ao n c) A.length (flat A)) (k : Nat) (x : Int × Mp) (hx : A[k]? = some x) : ∃ g, ao = some ⟨g, 0, none⟩ ∧ b ≤ g ∧ g < W.heap.size ∧ W.rangeAt g (k * 5) (atC x) := by
  have hk := (List.getElem?_eq_some_iff.1 hx).1
  rcases h.2 with ⟨hv, hn⟩ | ⟨g, cap, cur, hv, hb, hg, _, _, _, htk⟩
  · omega
  · injection hv with hv
    refine ⟨g, hv, hb, (Array.getElem?_eq_some_iff.1 hg).1, fun j v hj => ?_⟩
    have hj5 : j < 5 := by have := (List.getElem?_eq_some_iff.1 hj).1; simpa [atC] using this
    have hfl := flat_get A k x hx j v hj
    rw [← htk, List.getElem?_take, if_pos (by omega)] at hfl
    rw [cell_of_row W g (k * 5 + j) _ 55 (0, 0) hg]
    simpa using hfl
theorem DS.fndD_wc (d : DS) (s va : Int) : ∃ c, d.fndD s va = d.wc c := by
  obtain ⟨c, hc⟩ := d.folD_wc s
  unfold DS.fndD
  split
  · exact ⟨c, hc⟩
  · split
    · exact ⟨c, hc⟩
    · rw [hc, DS.wc_rd]; exact ⟨_, rfl⟩
theorem DS.look_wc (d : DS) (s va : Int) : ∃ c, d.look s va = d.wc c := by
  obtain ⟨c, hc⟩ := d.fndD_wc s va
  unfold DS.look
  split
  · rw [hc, DS.wc_rd]; exact ⟨_, rfl⟩
  · exact ⟨c, hc⟩
theorem MS.wkS_wc (m : MS) (l va : Int) : ∃ c, m.wkS l va = m.wc c := by
  unfold MS.wkS
  split
  · split
    · exact ⟨_, by rw [MS.read_wc m, MS.read_wc (m.wc _)]; rfl⟩
    · exact ⟨_, MS.read_wc ..⟩
  · exact ⟨m.c, rfl⟩
theorem DS.und_wc (d : DS) (c a b : Int) (j : Nat) : (d.wc c).m.und a b j = d.m.und a b j := by
  induction j with
  | zero => rfl
  | succ j ih => simp only [MS.und, ih]; rfl
theorem DS.lsn_wc (d : DS) (c s : Int) (k : Nat) : (d.wc c).lsn s k = d.lsn s k := by
  induction k with
  | zero => rfl
  | succ k ih => rw [DS.lsn, DS.lsn, ih, DS.und_wc]; rfl
/-- The two lists. -/
theorem list0_l (w : World) (p : Dp) (d : DS) (G : Int → Int → Int) (h : DB w p d) (hI : Inv d G) : Calls Try.prog 12 #[ptr p.g, .int .i64 0] w fun x w' => ∃ ao cc c, x = .returned (.tuple #[.slice ao (d.lsn 0 256).length cc, .int .i64 0]) ∧ w'.ownsRow w.heap.size 55 5 (.slice ao (d.lsn 0 256).length cc) (d.lsn 0 256).length (flat (d.lsn 0 256)) ∧ DB w' p (d.wc c) ∧ ButL p.f.w w w' := by
  refine (list2_any w p d h hI.mf.U 0).mono ?_
  rintro x w' (⟨he, _⟩ | ⟨_, v, c, rfl, ho, hd, hb⟩)
  · exact absurd hI.folE he
  · obtain ⟨ao, cc, rfl⟩ := own_frm ho
    exact ⟨ao, cc, c, rfl, ho, hd, hb⟩
theorem wlist_l (w : World) (p : Dp) (d : DS) (G : Int → Int → Int) (h : DB w p d) (hI : Inv d G) : Calls Try.prog 20 #[ptr p.f.gm, .int .i64 1] w fun x w' => ∃ ao cc c, x = .returned (.tuple #[.slice ao (d.lsn 0 256).length cc, .int .i64 0]) ∧ w'.ownsRow w.heap.size 55 5 (.slice ao (d.lsn 0 256).length cc) (d.lsn 0 256).length (flat (d.lsn 0 256)) ∧ DB w' p (d.wc c) ∧ ButL p.f.w w w' := by
  refine (list_any w p.f d.m h.mem hI.mf.U 1).mono ?_
  rintro x w' (⟨he, _⟩ | ⟨_, v, rfl, ho, hr⟩)
  · rw [hI.mf.atS 1 (by decide) (by decide)] at he
    cases he
  · rw [hI.lst 256 (by decide)] at ho
    obtain ⟨ao, cc, rfl⟩ := own_frm ho
    exact ⟨ao, cc, _, rfl, ho, h.memory hr.mem hr.but rfl, hr.but⟩
theorem wwalk_l (w : World) (p : Dp) (d : DS) (G : Int → Int → Int) (h : DB w p d) (hI : Inv d G) (va : Int) (v0 : 0 ≤ va) (v1 : va < 4294967296) : Calls Try.prog 22 #[ptr p.f.gm, .int .i64 1, .int .u32 va] w fun x w' => ∃ c, x = .returned (.tuple #[(d.m.wk 1 va).v, .int .i64 (d.m.wkE 1 va)]) ∧ DB w' p (d.wc c) ∧ ButL p.f.w w w' := by
  refine (walk_any w p.f d.m h.mem hI.mf.U 1 va v0 v1).mono ?_
  rintro x w' ⟨rfl, hr⟩
  obtain ⟨c, hc⟩ := d.m.wkS_wc 1 va
  have hm := hr.mem
  rw [hc] at hm
  exact ⟨c, rfl, h.memory hm hr.but rfl, hr.but⟩
theorem own_but {W W' : World} {p : Dp} {d : DS} {b n : Nat} {v : Value} {L : List Value} (h : W.ownsRow b 55 5 v n L) (hd : DB W p d) (hb : ButL p.f.w W W') : W'.ownsRow b 55 5 v n L := by
  refine ⟨h.1, h.2.imp id ?_⟩
  rintro ⟨g, cap, cur, hv, a1, a2, a3⟩
  refine ⟨g, cap, cur, hv, a1, (hb.block g (Array.getElem?_eq_some_iff.1 a2).1 (fun hk => ?_)).trans a2, a3⟩
  exact hd.mem.off (g := g) (t := 55) (cs := cur.toList) (by unfold Cel; simpa using a2) (by decide) (Fp.w_all hk)
theorem rangeAt_dr {W : World} {g off : Nat} {cs : List Value} (h : W.rangeAt g off cs) : W.drew.rangeAt g off cs := h
theorem walks_l (W : World) (ao : Option Addr) (n cp : Nat) (q : Nat → Mv) (hq : MvAt W ao n q) (hn : (n : Int) ≤ 4611686018427387904) (va : Int) (v0 : 0 ≤ va) (v1 : va < 4294967296) :
    Calls Try.prog 5 #[.slice ao n cp, .int .u32 va] W fun x W' => x = .returned (.bool true) ∧ Below W.heap.size W W' := by
  have HB := hid (built_l W)
  have HQ := hid hq
  clear hq
  simp only [ptr] at HB
  go_enter Try.func5, Try.ntmps5
  go_upto_region 4 with (first | (go_at_call 10; refine HB.out.mono ?_; rintro x w1 ⟨p, rfl, hN⟩; have HN := hid hN; clear hN))
  clear HB
  go_wp2_with fail
  go_loopw [6] (fun i wr => ∃ (k : Nat) (d : DS) (G : Int → Int → Int), k ≤ n ∧ i = .int .i64 (k : Int) ∧ Hid (NewDB W wr p d ∧ Inv d G)) (fun i _ => n - (intOf i).toNat)
  case atStart => exact ⟨0, dB6, _, Nat.zero_le _, rfl, hid ⟨HN.out, dB6_inv⟩⟩
  case round =>
    obtain ⟨k, d, G, hk, rfl, HD⟩ := hrel
    clear HN
    by_cases hlt : k < n
    · have q1 : (k : Int) < (n : Int) := by omega
      have q2 : (k : Int) ≤ 4611686018427387904 := by omega
      obtain ⟨g, off, rfl, hgl, hr⟩ := HQ.out.at_ (by omega)
      have HR := hid (rangeAt_on (hr k hlt) hgl HD.out.1.below)
      have HV := hid (HQ.out.v k hlt)
      have HK : Hid (k < n) := hid hlt
      clear hlt hgl hr hk
      unfold Mv.cs at HR
      go_upto_region 8 with (first | (refine wpList_load_mid rfl 42 _ rfl g (off + k * 6) rfl _ _ HR.out under42 rfl (by rw [size42]; rfl) ?_))
      have HB7 := hid ((Bag.mk (W := wr) (L := []) (by simp) (Below.refl _ wr)).new 42 [.bool (q k).cut, .int .u32 (q k).va, .bool (q k).m.s, .int .i64 (q k).m.p, .bool (q k).m.wr, .bool (q k).m.ex])
      have HD7 := hid (HD.out.1.on (below_one wr (.cells #[.bool (q k).cut, .int .u32 (q k).va, .bool (q k).m.s, .int .i64 (q k).m.p, .bool (q k).m.wr, .bool (q k).m.ex] 42)))
      have HI := hid HD.out.2
      clear HD HR
      generalize wr.alloc _ = w2 at *
      generalize wr.heap.size = g7 at *
      have c0 := (HB7.out.get 0 rfl).cell 0
      have c1 := (HB7.out.get 0 rfl).cell 1
      simp only [List.getElem?_cons_zero, List.getElem?_cons_succ] at c0 c1
      have HCu := hid (fun w (hw : DB w p d) => cut_any w p d hw HI.out.mf.U 0 (q k).va HV.out.1 HV.out.2)
      have HPu := hid (fun w (hw : DB w p d) => put_any w p d hw HI.out.mf.U 0 (q k).va (q k).m HV.out.1 HV.out.2)
      have HTu := hid (fun w => turned_l w (q k).m)
      have HRd := hid (fun w => readable_l w (q k).m)
      simp only [ptr, Mp.v] at HCu HPu HTu HRd
      cases hcut : (q k).cut with
      | true =>
        rw [hcut] at c0
        go_wp2_with (first | (go_at_call 16; refine (HCu.out _ HD7.out.db).mono ?_; rintro x w3 ⟨rfl, hd, hb⟩; have HD8 := hid (HD7.out.step hd hb); clear hd hb))
        obtain ⟨G', hG'⟩ := HI.out.cut' HV.out.1
        go_roundw
        case measure => have := HK.out; simp [intOf] <;> omega
        case rel => exact ⟨k + 1, _, G', by have := HK.out; omega, by simp, hid ⟨HD8.out, hG'⟩⟩
      | false =>
        rw [hcut] at c0
        cases hrd : (q k).m.rdb with
        | false =>
          rw [hrd] at HRd
          go_wp2_with (first | (go_at_call 17; refine (HTu.out _).mono ?_; rintro x w3 ⟨rfl, hb⟩; have HD8 := hid (HD7.out.on hb); clear hb) | (go_at_call 14; refine (HRd.out _).mono ?_; rintro x w4 ⟨rfl, hb⟩; have HD9 := hid (HD8.out.on hb); clear hb) | (refine wpList_load_gm rfl 40 _ rfl g7 2 rfl _ _ (HB7.out.get 0 rfl).mv under40 rfl size40 ?_))
          go_roundw
          case measure => have := HK.out; simp [intOf] <;> omega
          case rel => exact ⟨k + 1, _, G, by have := HK.out; omega, by simp, hid ⟨HD9.out, HI.out⟩⟩
        | true =>
          rw [hrd] at HRd
          go_upto_region 11 with (first | (go_at_call 17; refine (HTu.out _).mono ?_; rintro x w3 ⟨rfl, hb⟩; have HD8 := hid (HD7.out.on hb); have HB8 := hid (HB7.out.on hb); clear hb) | (go_at_call 14; refine (HRd.out _).mono ?_; rintro x w4 ⟨rfl, hb⟩; have HD9 := hid (HD8.out.on hb); have HB9 := hid (HB8.out.on hb); clear hb) | (refine wpList_load_gm rfl 40 _ rfl g7 2 rfl _ _ (HB7.out.get 0 rfl).mv under40 rfl size40 ?_))
          clear HD7 HD8 HB7 HB8 c0 c1 HRd
          refine wp_region_held_drew (S := fun w => Cel w g7 42 [.bool (q k).cut, .int .u32 (q k).va, .bool (q k).m.s, .int .i64 (q k).m.p, .bool (q k).m.wr, .bool (q k).m.ex]) (by kernel_rfl) (HB9.out.get 0 rfl) (fun hHeld => ?_)
          have HD9b := hid (HD9.out.on (Below.refl _ _).drew)
          have HB9b := hid (HB9.out.on (Below.refl _ _).drew)
          clear HD9 HB9
          have HD9 := HD9b
          have HB9 := HB9b
          clear HD9b HB9b
          generalize World.drew _ = w5 at *
          have HOff : Hid (∀ w, DB w p d → Cel w g7 42 [.bool (q k).cut, .int .u32 (q k).va, .bool (q k).m.s, .int .i64 (q k).m.p, .bool (q k).m.wr, .bool (q k).m.ex] → g7 ∉ p.f.w) := hid (fun w hw hc hk => hw.mem.off hc (by decide) (Fp.w_all hk))
          refine wpAnyH_take (i := 0) (oi := { dst := some 44, op := Op.move (Operand.tmp 5), type := 34, pos := "outright.go:165", after := #[], guard := none }) (v := .pointer (some ⟨p.g, 0, none⟩)) rfl (by kernel_rfl) (by kernel_rfl) (by kernel_rfl) (fun _ _ _ h => h) (Or.inl ⟨by rfl, by intro w hSw; go_simp⟩) (by assumption) ?_
          simp only [Act.put, List.setIfInBounds_toArray, List.set_cons_zero, List.set_cons_succ]
          refine wpAnyH_take (i := 1) (oi := { dst := some 45, op := Op.fieldAddr 42 (Operand.tmp 7) 1, type := 0, pos := "outright.go:165", after := #[], guard := none }) (v := .pointer (some ⟨g7, 1, none⟩)) rfl (by kernel_rfl) (by kernel_rfl) (by kernel_rfl) (fun _ _ _ h => h) (Or.inl ⟨by rfl, by intro w hSw; go_simp⟩) (by assumption) ?_
          simp only [Act.put, List.setIfInBounds_toArray, List.set_cons_zero, List.set_cons_succ]
          refine wpAnyH_take (i := 2) (oi := { dst := some 46, op := Op.load 22 (Operand.tmp 45), type := 22, pos := "outright.go:165", after := #[{ on := 1, ground := Ground.data }], guard := none }) (v := .int .u32 (q k).va) rfl (by kernel_rfl) (by kernel_rfl) (by kernel_rfl) (fun _ _ _ h => h) (Or.inl ⟨by rfl, by intro w hSw; have hc := hSw.cell 1; simp only [List.getElem?_cons_zero, List.getElem?_cons_succ] at hc; go_simp⟩) (by assumption) ?_
          simp only [Act.put, List.setIfInBounds_toArray, List.set_cons_zero, List.set_cons_succ]
          refine wpAnyH_take (i := 3) (oi := { dst := some 47, op := Op.fieldAddr 42 (Operand.tmp 7) 2, type := 0, pos := "outright.go:165", after := #[], guard := none }) (v := .pointer (some ⟨g7, 2, none⟩)) rfl (by kernel_rfl) (by kernel_rfl) (by kernel_rfl) (fun _ _ _ h => h) (Or.inl ⟨by rfl, by intro w hSw; go_simp⟩) (by assumption) ?_
          simp only [Act.put, List.setIfInBounds_toArray, List.set_cons_zero, List.set_cons_succ]
          refine wpAnyH_take (i := 4) (oi := { dst := some 48, op := Op.load 40 (Operand.tmp 47), type := 40, pos := "outright.go:165", after := #[{ on := 3, ground := Ground.data }], guard := none }) (v := .agg #[.bool (q k).m.s, .int .i64 (q k).m.p, .bool (q k).m.wr, .bool (q k).m.ex]) rfl (by kernel_rfl) (by kernel_rfl) (by kernel_rfl) (fun _ _ _ h => h) (yieldsIf_load_mid (by rfl) _ _ rfl _ _ rfl _ _ (fun w hSw => hSw.mv) under40 rfl (by rw [size40]; rfl)) (by assumption) ?_
          simp only [Act.put, List.setIfInBounds_toArray, List.set_cons_zero, List.set_cons_succ]
          refine wpAnyH_ready (rs := [5]) (by kernel_rfl) (by simp) (AllReadyH.cons (o := { dst := some 49, op := Op.call { callee := Callee.value (Operand.func 17), args := #[Operand.tmp 48], argTypes := #[40] }, type := 49, pos := "outright.go:165", after := #[{ on := 4, ground := Ground.data }], guard := none }) rfl (fun KQ hK => ?_) AllReadyH.nil)
          go_simp
          refine (HTu.out _).mono ?_
          rintro e w6 ⟨rfl, hb⟩
          have HDa := hid (HD9.out.on hb)
          have HBa := hid (HB9.out.on hb)
          clear hb HD9 HB9 HTu
          go_wp2_with fail
          refine hK.out _ _ (HBa.out.get 0 rfl) (fun hHeld => ?_)
          clear hK KQ
          try simp only [Act.put, List.setIfInBounds_toArray, List.set_cons_zero, List.set_cons_succ]
          refine wpAnyH_ready (rs := [6]) (by kernel_rfl) (by simp) (AllReadyH.cons (o := { dst := some 50, op := Op.call { callee := Callee.value (Operand.func 18), args := #[Operand.tmp 44, Operand.const (Value.int IntKind.i64 0), Operand.tmp 46, Operand.tmp 49], argTypes := #[34, 3, 22, 49] }, type := 27, pos := "outright.go:165", after := #[{ on := 0, ground := Ground.data }, { on := 2, ground := Ground.data }, { on := 5, ground := Ground.data }, { on := 5, ground := Ground.chain }], guard := none }) rfl (fun KQ hK => ?_) AllReadyH.nil)
          go_simp
          refine (HPu.out _ HDa.out.db).mono ?_
          rintro e w7 ⟨rfl, hd, hb⟩
          have HDb := hid (HDa.out.step hd hb)
          have HCb := hid ((HBa.out.get 0 rfl).but hb (HOff.out _ HDa.out.db (HBa.out.get 0 rfl)))
          clear hb hd HDa HBa HPu
          go_wp2_with fail
          refine hK.out _ _ HCb.out (fun hHeld => ?_)
          clear hK KQ
          try simp only [Act.put, List.setIfInBounds_toArray, List.set_cons_zero, List.set_cons_succ]
          refine wpAnyH_done (by kernel_rfl) ?_ _
          obtain ⟨G', hG'⟩ := HI.out.put' HV.out.1 (q k).m
          go_wp2_with fail
          go_roundw
          case measure => have := HK.out; simp [intOf] <;> omega
          case rel => exact ⟨k + 1, _, G', by have := HK.out; omega, by simp, hid ⟨HDb.out, hG'⟩⟩
    · have hkn : (n : Int) ≤ (k : Int) := by omega
      clear hlt hk
      have HD1 := hid HD.out.1
      have HI := hid HD.out.2
      clear HD HQ
      have HTb := hid (fun w (hw : DB w p d) => table_any w p d hw HI.out.mf.U 0)
      rw [show d.tab 0 = 1 by unfold DS.tab; rw [if_pos HI.out.folE, HI.out.fst], HI.out.folE] at HTb
      have HI1 := hid HI.out.folD
      generalize d.folD 0 = d1 at *
      clear HI
      have HLs := hid (fun w (hw : DB w p d1) => list0_l w p d1 G hw HI1.out)
      have HMe := hid (fun w (c : Int) (hw : DB w p (d1.wc c)) => memory_any w p (d1.wc c) hw)
      have HWl := hid (fun w (c : Int) (hw : DB w p (d1.wc c)) => wlist_l w p (d1.wc c) G hw (HI1.out.wc c))
      simp only [DS.lsn_wc] at HWl
      simp only [show ∀ c c', (d1.wc c).wc c' = d1.wc c' from fun _ _ => rfl] at HWl
      have HAl := hid (d1.lsn_len 0 256)
      generalize hA : d1.lsn 0 256 = A at *
      clear hA
      simp only [ptr] at HTb HLs HMe HWl
      go_upto_region 15 with (first | (go_at_call 19; refine (HTb.out _ HD1.out.db).mono ?_; rintro x w2 ⟨rfl, hd, hb⟩; have HD2 := hid (HD1.out.step hd hb); clear hd hb HTb) | (go_at_call 12; refine (HLs.out _ HD2.out.db).mono ?_; rintro x w3 ⟨ao1, cc1, c1, rfl, ho, hd, hb⟩; have HD3 := hid (HD2.out.step hd hb); have HO3 := hid ho; have hb12 : Hid (w2.heap.size ≤ w3.heap.size) := hid hb.size; clear hd hb ho HLs) | (go_at_call 21; refine (HMe.out _ c1 HD3.out.db).mono ?_; rintro x w4 ⟨rfl, rfl⟩) | (go_at_call 20; refine (HWl.out _ c1 HD3.out.db).mono ?_; rintro x w5 ⟨ao2, cc2, c2, rfl, ho, hd, hb⟩; have HD5 := hid (HD3.out.step hd hb); have HO5 := hid (And.intro (own_but HO3.out HD3.out.db hb) ho); clear hd hb ho HWl))
      clear HD1 HD2 HD3 HO3 HMe hb12
      generalize w2.heap.size = b1 at *
      go_upto_region 17 with fail
      go_wp2_with fail
      have hAl : (A.length : Int) ≤ 262144 := by have := HAl.out; omega
      go_loopw [14] (fun i wr2 => ∃ k2 : Nat, k2 ≤ A.length ∧ i = .int .i64 (k2 : Int) ∧ Hid (Below w5.heap.size w5 wr2)) (fun i _ => A.length - (intOf i).toNat)
      case atStart => exact ⟨0, Nat.zero_le _, rfl, hid (Below.refl _ _)⟩
      case round =>
        obtain ⟨k2, hk2, rfl, HBe⟩ := hrel
        by_cases hlt : k2 < A.length
        · have q1 : (k2 : Int) < (A.length : Int) := by omega
          obtain ⟨x, hx⟩ : ∃ x, A[k2]? = some x := ⟨_, List.getElem?_eq_getElem hlt⟩
          obtain ⟨gA, rfl, _, la, ra⟩ := own_row HO5.out.1 k2 x hx
          obtain ⟨gB, rfl, _, lb, rb⟩ := own_row HO5.out.2 k2 x hx
          have HRa := hid (And.intro (rangeAt_on ra la HBe.out) (rangeAt_on rb lb HBe.out))
          have HK2 : Hid (k2 < A.length) := hid hlt
          unfold atC at HRa
          clear ra rb la lb hx hk2 hlt
          go_upto_region 20 with fail
          have HRb := hid (And.intro (rangeAt_dr HRa.out.1) (rangeAt_dr HRa.out.2))
          have HBf := hid (below_on HBe.out (Below.refl _ _).drew)
          refine wp_region_held_drew (S := fun w => w.rangeAt gA (k2 * 5) [.int .u32 x.1, .bool x.2.s, .int .i64 x.2.p, .bool x.2.wr, .bool x.2.ex] ∧ w.rangeAt gB (k2 * 5) [.int .u32 x.1, .bool x.2.s, .int .i64 x.2.p, .bool x.2.wr, .bool x.2.ex]) (by kernel_rfl) HRb.out (fun hHeld => ?_)
          generalize World.drew _ = w6 at *
          refine wpAnyH_take (i := 0) (oi := { dst := some 95, op := Op.move (Operand.tmp 10), type := 43, pos := "outright.go:175", after := #[], guard := none }) (v := .slice (some ⟨gA, 0, none⟩) A.length cc1) rfl (by kernel_rfl) (by kernel_rfl) (by kernel_rfl) (fun _ _ _ h => h) (Or.inl ⟨by rfl, by intro w hSw; go_simp⟩) (by assumption) ?_
          simp only [Act.put, List.setIfInBounds_toArray, List.set_cons_zero, List.set_cons_succ]
          refine wpAnyH_take (i := 1) (oi := { dst := some 96, op := Op.move (Operand.tmp 14), type := 3, pos := "outright.go:175", after := #[], guard := none }) (v := .int .i64 (k2 : Int)) rfl (by kernel_rfl) (by kernel_rfl) (by kernel_rfl) (fun _ _ _ h => h) (Or.inl ⟨by rfl, by intro w hSw; go_simp⟩) (by assumption) ?_
          simp only [Act.put, List.setIfInBounds_toArray, List.set_cons_zero, List.set_cons_succ]
          refine wpAnyH_take (i := 2) (oi := { dst := some 97, op := Op.indexAddr 43 (Operand.tmp 95) (Operand.tmp 96), type := 0, pos := "outright.go:175", after := #[{ on := 0, ground := Ground.data }, { on := 1, ground := Ground.data }], guard := none }) (v := .pointer (some ⟨gA, k2 * 5, none⟩)) rfl (by kernel_rfl) (by kernel_rfl) (by kernel_rfl) (fun _ _ _ h => h) (Or.inl ⟨by rfl, by intro w hSw; go_simp⟩) (by assumption) ?_
          simp only [Act.put, List.setIfInBounds_toArray, List.set_cons_zero, List.set_cons_succ]
          refine wpAnyH_take (i := 3) (oi := { dst := some 98, op := Op.load 55 (Operand.tmp 97), type := 55, pos := "outright.go:175", after := #[{ on := 2, ground := Ground.data }], guard := none }) (v := .agg #[.int .u32 x.1, .bool x.2.s, .int .i64 x.2.p, .bool x.2.wr, .bool x.2.ex]) rfl (by kernel_rfl) (by kernel_rfl) (by kernel_rfl) (fun _ _ _ h => h) (yieldsIf_load_mid (by rfl) _ _ rfl _ _ rfl _ _ (fun w hSw => hSw.1) under55 rfl (by rw [size55]; rfl)) (by assumption) ?_
          simp only [Act.put, List.setIfInBounds_toArray, List.set_cons_zero, List.set_cons_succ]
          refine wpAnyH_take (i := 4) (oi := { dst := some 99, op := Op.move (Operand.tmp 12), type := 43, pos := "outright.go:175", after := #[], guard := none }) (v := .slice (some ⟨gB, 0, none⟩) A.length cc2) rfl (by kernel_rfl) (by kernel_rfl) (by kernel_rfl) (fun _ _ _ h => h) (Or.inl ⟨by rfl, by intro w hSw; go_simp⟩) (by assumption) ?_
          simp only [Act.put, List.setIfInBounds_toArray, List.set_cons_zero, List.set_cons_succ]
          refine wpAnyH_take (i := 5) (oi := { dst := some 100, op := Op.move (Operand.tmp 14), type := 3, pos := "outright.go:175", after := #[], guard := none }) (v := .int .i64 (k2 : Int)) rfl (by kernel_rfl) (by kernel_rfl) (by kernel_rfl) (fun _ _ _ h => h) (Or.inl ⟨by rfl, by intro w hSw; go_simp⟩) (by assumption) ?_
          simp only [Act.put, List.setIfInBounds_toArray, List.set_cons_zero, List.set_cons_succ]
          refine wpAnyH_take (i := 6) (oi := { dst := some 101, op := Op.indexAddr 43 (Operand.tmp 99) (Operand.tmp 100), type := 0, pos := "outright.go:175", after := #[{ on := 4, ground := Ground.data }, { on := 5, ground := Ground.data }], guard := none }) (v := .pointer (some ⟨gB, k2 * 5, none⟩)) rfl (by kernel_rfl) (by kernel_rfl) (by kernel_rfl) (fun _ _ _ h => h) (Or.inl ⟨by rfl, by intro w hSw; go_simp⟩) (by assumption) ?_
          simp only [Act.put, List.setIfInBounds_toArray, List.set_cons_zero, List.set_cons_succ]
          refine wpAnyH_take (i := 7) (oi := { dst := some 102, op := Op.load 55 (Operand.tmp 101), type := 55, pos := "outright.go:175", after := #[{ on := 6, ground := Ground.data }], guard := none }) (v := .agg #[.int .u32 x.1, .bool x.2.s, .int .i64 x.2.p, .bool x.2.wr, .bool x.2.ex]) rfl (by kernel_rfl) (by kernel_rfl) (by kernel_rfl) (fun _ _ _ h => h) (yieldsIf_load_mid (by rfl) _ _ rfl _ _ rfl _ _ (fun w hSw => hSw.2) under55 rfl (by rw [size55]; rfl)) (by assumption) ?_
          simp only [Act.put, List.setIfInBounds_toArray, List.set_cons_zero, List.set_cons_succ]
          refine wpAnyH_take (i := 8) (oi := { dst := some 103, op := Op.binOp BinOp.neq 55 (Operand.tmp 98) (Operand.tmp 102) 55, type := 4, pos := "outright.go:175", after := #[{ on := 3, ground := Ground.data }, { on := 7, ground := Ground.data }], guard := none }) (v := .bool false) rfl (by kernel_rfl) (by kernel_rfl) (by kernel_rfl) (fun _ _ _ h => h) (Or.inl ⟨by rfl, by intro w hSw; go_simp⟩) (by assumption) ?_
          simp only [Act.put, List.setIfInBounds_toArray, List.set_cons_zero, List.set_cons_succ]
          refine wpAnyH_done (by kernel_rfl) ?_ _
          go_wp2_with fail
          go_roundw
          case measure => have := HK2.out; simp [intOf] <;> omega
          case rel => exact ⟨k2 + 1, HK2.out, by simp, HBf⟩
        · have hkn2 : (A.length : Int) ≤ (k2 : Int) := by omega
          clear hlt hk2 HO5
          have HD6 := hid (HD5.out.on HBe.out)
          clear HD5 HBe
          have HI5 := hid (HI1.out.wc c2)
          generalize d1.wc c2 = d5 at *
          have HAt := hid (fun w (hw : DB w p d5) => at_any2 w p d5 hw HI5.out.mf.U 0 va v0 v1)
          obtain ⟨c3, hc3⟩ := d5.look_wc 0 va
          rw [hc3] at HAt
          have HMe := hid (fun w (c : Int) (hw : DB w p (d5.wc c)) => memory_any w p (d5.wc c) hw)
          have HWk := hid (fun w (c : Int) (hw : DB w p (d5.wc c)) => wwalk_l w p (d5.wc c) G hw (HI5.out.wc c) va v0 v1)
          simp only [show ∀ c, (d5.wc c).m.wk 1 va = d5.m.wk 1 va from fun _ => rfl, show ∀ c, (d5.wc c).m.wkE 1 va = d5.m.wkE 1 va from fun _ => rfl, show ∀ c c', (d5.wc c).wc c' = d5.wc c' from fun _ _ => rfl] at HWk
          have HPu := hid (fun w (c : Int) (hw : DB w p (d5.wc c)) => put_any w p (d5.wc c) hw (HI5.out.wc c).mf.U 0 0 m3 (by decide) (by decide))
          have HA3 := hid (fun (c : Int) (he : (d5.wc c).putE 0 0 m3 = 0) => (HI5.out.wc c).put3 he)
          have HI6 := hid (fun (c : Int) => (HI5.out.wc c).put' (va := 0) (by decide) m3)
          have HAt3 := hid (fun w (c : Int) (hw : DB w p ((d5.wc c).put 0 0 m3)) => at_any2 w p _ hw (HI6.out c).choose_spec.mf.U 0 4092 (by decide) (by decide))
          obtain ⟨hk1, hk2⟩ := HI5.out.walk v0
          rw [hk1] at HWk
          clear hc3 hk1 v0 v1 HI5 HI6 HI1
          generalize d5.atM 0 va = M at *
          generalize d5.atE 0 va = E1 at *
          generalize d5.m.wkE 1 va = E2 at *
          have he12 : (E1 == 0) = (E2 == 0) := by
            by_cases h : E1 = 0
            · rw [h, hk2.2 h]
            · rw [beq_false_of_ne h, beq_false_of_ne (fun e => h (hk2.1 e))]
          clear hk2
          unfold m3 at HPu HA3 HAt3
          simp only [ptr, Mp.v] at HAt HMe HWk HPu HAt3
          go_upto_region 24 with (first | (go_at_call 13; refine (HAt.out _ HD6.out.db).mono ?_; rintro x w7 ⟨rfl, hd, hb⟩; have HD7 := hid ((HD6.out.step hd hb).on (below_one w7 (.cells #[.bool M.s, .int .i64 M.p, .bool M.wr, .bool M.ex] 49))); have HC7 := hid (Cel.new w7 49 [.bool M.s, .int .i64 M.p, .bool M.wr, .bool M.ex]); clear hd hb HAt) | (go_at_call 21; refine (HMe.out _ c3 HD7.out.db).mono ?_; rintro x w8 ⟨rfl, rfl⟩) | (go_at_call 22; refine (HWk.out _ c3 HD7.out.db).mono ?_; rintro x w9 ⟨c4, rfl, hd, hb⟩; have HD9 := hid ((HD7.out.step hd hb).on (below_one w9 (.cells #[.bool M.s, .int .i64 M.p, .bool M.wr, .bool M.ex] 49))); have HC9 := hid (Cel.on (HC7.out.but hb (fun hk => HD7.out.db.mem.off HC7.out (by decide) (Fp.w_all hk))) (below_one w9 (.cells #[.bool M.s, .int .i64 M.p, .bool M.wr, .bool M.ex] 49))); have HC9b := hid (Cel.new w9 49 [.bool M.s, .int .i64 M.p, .bool M.wr, .bool M.ex]); clear hd hb HWk))
          clear HD6 HD7 HC7 HMe
          generalize w9.alloc _ = w10 at *
          generalize w9.heap.size = g17 at *
          generalize w7.heap.size = g15 at *
          by_cases hp : (d5.wc c4).putE 0 0 ⟨false, 3, false, false⟩ = 0
          · obtain ⟨ha1, ha2⟩ := HA3.out c4 hp
            have HPu4 := hid (fun w hw => HPu.out w c4 hw)
            have HAt4 := hid (fun w hw => HAt3.out w c4 hw)
            rw [hp] at HPu4
            rw [ha1, ha2] at HAt4
            clear HPu HAt3 HA3 hp ha1 ha2
            generalize (d5.wc c4).put 0 0 ⟨false, 3, false, false⟩ = d7 at *
            generalize d7.atM 0 4092 = M2 at *
            generalize d7.look 0 4092 = d8 at *
            go_upto_region 28 with (first | (go_at_call 18; refine (HPu4.out _ HD9.out.db).mono ?_; rintro x w11 ⟨rfl, hd, hb⟩; have HDb := hid (HD9.out.step hd hb); have HCb := hid (And.intro (HC9.out.but hb (fun hk => HD9.out.db.mem.off HC9.out (by decide) (Fp.w_all hk))) (HC9b.out.but hb (fun hk => HD9.out.db.mem.off HC9b.out (by decide) (Fp.w_all hk)))); clear hd hb) | (go_at_call 13; refine (HAt4.out _ HDb.out.db).mono ?_; rintro x w12 ⟨rfl, hd, hb⟩; have HDc := hid ((HDb.out.step hd hb).on (below_one w12 (.cells #[.bool M2.s, .int .i64 3, .bool M2.wr, .bool M2.ex] 49))); have HCc := hid (And.intro ((HCb.out.1.but hb (fun hk => HDb.out.db.mem.off HCb.out.1 (by decide) (Fp.w_all hk))).on (below_one w12 (.cells #[.bool M2.s, .int .i64 3, .bool M2.wr, .bool M2.ex] 49))) ((HCb.out.2.but hb (fun hk => HDb.out.db.mem.off HCb.out.2 (by decide) (Fp.w_all hk))).on (below_one w12 (.cells #[.bool M2.s, .int .i64 3, .bool M2.wr, .bool M2.ex] 49)))); have ca := (Cel.new w12 49 [.bool M2.s, .int .i64 3, .bool M2.wr, .bool M2.ex]).cell 1; simp only [List.getElem?_cons_zero, List.getElem?_cons_succ] at ca; clear hd hb))
            clear HDb HCb HD9 HC9 HC9b
            generalize w12.alloc _ = w13 at *
            go_wp2_with (first | (refine wpList_load_g rfl 49 _ rfl g15 rfl HCc.out.1 rfl under49 size49 ?_) | (refine wpList_load_g rfl 49 _ rfl g17 rfl HCc.out.2 rfl under49 size49 ?_))
            go_returns
            exact ⟨by simp, HDc.out.below⟩
          · have HPu4 := hid (fun w hw => HPu.out w c4 hw)
            clear HPu HAt3 HA3
            generalize (d5.wc c4).put 0 0 ⟨false, 3, false, false⟩ = d7 at *
            generalize (d5.wc c4).putE 0 0 ⟨false, 3, false, false⟩ = PE at *
            have hpe : (PE == 0) = false := by simp [hp]
            go_wp2_with (first | (go_at_call 18; refine (HPu4.out _ HD9.out.db).mono ?_; rintro x w11 ⟨rfl, hd, hb⟩; have HDb := hid (HD9.out.step hd hb); have HCb := hid (And.intro (HC9.out.but hb (fun hk => HD9.out.db.mem.off HC9.out (by decide) (Fp.w_all hk))) (HC9b.out.but hb (fun hk => HD9.out.db.mem.off HC9b.out (by decide) (Fp.w_all hk)))); clear hd hb) | (refine wpList_load_g rfl 49 _ rfl g15 rfl HCb.out.1 rfl under49 size49 ?_) | (refine wpList_load_g rfl 49 _ rfl g17 rfl HCb.out.2 rfl under49 size49 ?_))
            go_returns
            exact ⟨by simp, HDb.out.below⟩
end Go.Proofs.Ytgbpbfnpeeciaaa
