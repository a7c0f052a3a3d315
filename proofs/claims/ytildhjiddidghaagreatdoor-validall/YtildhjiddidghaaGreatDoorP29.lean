import Derived.Test.YtildhjiddidghaaGreatDoorP27
import Derived.Test.YtildhjiddidghaaGreatDoorP01
import Derived.Test.YtildhjiddidghaaGreatDoorP28
namespace Go.Proofs.YtildhjiddidghaaGreatDoor
open Go.RowKit
set_option maxHeartbeats 4000000
set_option maxRecDepth 100000
def DS.firsts (d : DS) (k n : Nat) : List Int := ((List.range n).filter (fun j => d.isOf j 3 (k : Int))).map (fun j : Nat => (j : Int))
theorem firsts_yes {d : DS} {k j : Nat} (h : d.isOf j 3 (k : Int) = true) : d.firsts k (j + 1) = d.firsts k j ++ [(j : Int)] := by
  simp [DS.firsts, List.range_succ, h]
theorem firsts_no {d : DS} {k j : Nat} (h : d.isOf j 3 (k : Int) = false) : d.firsts k (j + 1) = d.firsts k j := by
  simp [DS.firsts, List.range_succ, h]
theorem firsts_len (d : DS) (k n : Nat) : (d.firsts k n).length ≤ n := by
  unfold DS.firsts
  rw [List.length_map]
  exact Nat.le_trans (List.length_filter_le _ _) (by simp)
def DS.one1 (d : DS) (k : Nat) : Bool := if (d.at k).s = 3 then true else ((d.firsts k d.m.ns).length == 1) && ((d.firsts k d.m.ns).getD 0 0 == d.w k 0)
theorem oneFirst_v (w : World) (v : Vp) (p : Dp) (d : DS) (h : VS w v p d) (k : Nat) (hk : k < d.m.ns) :
    Calls Tryz.prog 101 #[.pointer (some ⟨v.g, 0, none⟩), .int .i64 (k : Int)] w fun e w' => e = .returned (.bool (d.one1 k)) ∧ Below w.heap.size w w' := by
  have HV := hid h
  have HW : Hid (∀ w, VS w v p d → Calls Tryz.prog 143 #[.pointer (some ⟨v.g, 0, none⟩), .int .i64 (k : Int), .int .i64 0] w fun e w' => e = .returned (.int .u32 (d.w k 0)) ∧ Below w.heap.size w w') := hid (fun w h => word_v w v p d h (k : Int) 0)
  have HI := hid (fun w h j => isOf_v w v p d h j 3 (k : Int))
  have x2 := h.c2
  have x3 := (h.row k hk).2.2.2.1
  have HC2 := hid (fun w (h : VS w v p d) => h.c2)
  have n64 := h.db.ok.n64
  have HN := hid (And.intro hk n64)
  have q1 : (k : Int) < (d.m.ns : Int) := by omega
  have HY := hid (fun j => @firsts_yes d k j)
  have HO := hid (fun j => @firsts_no d k j)
  have HL := hid (fun j => firsts_len d k j)
  have HF0 : Hid (d.firsts k 0 = []) := hid rfl
  unfold DS.one1
  clear h hk
  generalize d.w k 0 = u at *
  generalize hs : (d.at k).s = s at *
  clear hs
  by_cases h3 : s = 3
  · subst h3
    rw [if_pos rfl]
    generalize d.m.ns = n at *
    go_enter Tryz.func101, Tryz.ntmps101
    go_wp2_with fail
    go_ret
    exact ⟨rfl, Below.refl _ _⟩
  · rw [if_neg h3]
    have h3' : (s == 3) = false := by simpa using h3
    clear h3
    generalize hz : (((d.firsts k d.m.ns).length == 1) && ((d.firsts k d.m.ns).getD 0 0 == u)) = z
    have HZ := hid hz
    clear hz
    generalize hn : d.m.ns = n at *
    clear hn
    go_enter Tryz.func101, Tryz.ntmps101
    go_upto_region 5 with fail
    clear x2 x3
    go_loopw [5, 21] (fun t i wr => ∃ (j : Nat) (T : Value), j ≤ n ∧ i = .int .i64 (j : Int) ∧ t = T ∧ Hid (Hl w wr T (d.firsts k j))) (fun _ i _ => n - (intOf i).toNat)
    case atStart => exact ⟨0, _, Nat.zero_le _, rfl, rfl, hid (by rw [HF0.out]; exact Hl.start w)⟩
    case round =>
      obtain ⟨j, T, hj, rfl, hT, HQ⟩ := hrel
      obtain ⟨ao, c, hv, hf⟩ := HQ.out.form
      subst hv
      subst hT
      have HFm := hid hf
      clear hf
      by_cases hlt : j < n
      · have q2 : (j : Int) < (n : Int) := by omega
        have hh := HN.out
        have q3 : (j : Int) ≤ 64 := by omega
        have wj : IntKind.wrap .u32 (j : Int) = (j : Int) := wr32 _ (by omega) (by omega)
        have HJ := hid (And.intro hlt hh.2)
        have HIj := hid (HI.out _ (HV.out.on HQ.out.below) j)
        clear hlt hj hh
        cases hi : d.isOf j 3 (k : Int)
        · rw [hi] at HIj
          have HS := hid (HO.out j hi)
          clear hi
          go_wp2_with (go_at_call 139; refine HIj.out.mono ?_; rintro e wx ⟨rfl, hw⟩; subst wx)
          go_roundw
          case measure => have := HJ.out; simp [intOf] <;> omega
          case rel => exact ⟨j + 1, _, HJ.out.1, by simp, rfl, hid (by rw [HS.out]; exact HQ.out)⟩
        · rw [hi] at HIj
          have HS := hid (HY.out j hi)
          clear hi
          have HQ1 : Hid (Hl w (wr.alloc (.cells #[.int .u32 (j : Int)] 22)) (.slice ao (d.firsts k j).length c) (d.firsts k j)) := hid (HQ.out.on (below_one _ _))
          have HLj := hid (HL.out j)
          go_wp2_with (first | (go_at_call 139; refine HIj.out.mono ?_; rintro e wx ⟨rfl, hw⟩; subst wx) | (at_builtin; refine wpList_append_w (W := w) rfl _ _ rfl (.slice ao (d.firsts k j).length c) (d.firsts k j) rfl HQ1.out ⟨wr.heap.size, 0, none⟩ 1 1 [(j : Int)] rfl rfl (Cel.new wr 22 [.int .u32 (j : Int)]).src (by have a := HLj.out; have b := HJ.out; omega) ?_; intro v' w' h' hgr; have HQ2 := hid h'; clear h' hgr))
          go_roundw
          case measure => have := HJ.out; simp [intOf] <;> omega
          case rel => exact ⟨j + 1, _, HJ.out.1, by simp, rfl, hid (by rw [HS.out]; exact HQ2.out)⟩
      · have hjn : j = n := by omega
        subst hjn
        clear hlt hj
        generalize hA : d.firsts k j = A at *
        clear hA
        cases h1 : (A.length == 1)
        · have hl : ((A.length : Int) == 1) = false := by
            have := beq_eq_false_iff_ne.1 h1
            rw [beq_eq_false_iff_ne]; omega
          rw [h1, Bool.false_and] at HZ
          clear h1
          go_upto_region 10 with fail
          have HB := hid (below_on HQ.out.below (Below.refl _ _).drew)
          refine wp_region_held_drew (S := fun _ => True) (by kernel_rfl) trivial (fun hHeld => ?_)
          generalize World.drew _ = x1 at *
          refine tk 0 (some 34) (.slice ao A.length c) ?_
          simp only [Act.put, tqA, tqZ, tqS]
          refine tk 1 (some 35) (.int .i64 (A.length : Int)) ?_
          simp only [Act.put, tqA, tqZ, tqS]
          refine tk 2 (some 36) (.bool false) ?_
          simp only [Act.put, tqA, tqZ, tqS]
          refine tk 3 (some 37) (.bool false) ?_
          simp only [Act.put, tqA, tqZ, tqS]
          refine tk 4 (some 38) undef ?_ (hy := Or.inr ⟨by rfl, rfl⟩)
          simp only [Act.put, tqA, tqZ, tqS]
          refine tk 5 (some 39) undef ?_ (hy := Or.inr ⟨by rfl, rfl⟩)
          simp only [Act.put, tqA, tqZ, tqS]
          refine tk 6 (some 40) undef ?_ (hy := Or.inr ⟨by rfl, rfl⟩)
          simp only [Act.put, tqA, tqZ, tqS]
          refine tk 7 (some 41) undef ?_ (hy := Or.inr ⟨by rfl, rfl⟩)
          simp only [Act.put, tqA, tqZ, tqS]
          refine tk 8 (some 42) undef ?_ (hy := Or.inr ⟨by rfl, rfl⟩)
          simp only [Act.put, tqA, tqZ, tqS]
          refine tk 9 (some 43) undef ?_ (hy := Or.inr ⟨by rfl, rfl⟩)
          simp only [Act.put, tqA, tqZ, tqS]
          refine tk 10 (some 44) undef ?_ (hy := Or.inr ⟨by rfl, rfl⟩)
          simp only [Act.put, tqA, tqZ, tqS]
          refine tk 11 (some 45) (.bool false) ?_
          simp only [Act.put, tqA, tqZ, tqS]
          refine wpAnyH_ready (rs := [12]) (by kernel_rfl) (by simp) (AllReadyH.cons (o := ⟨some 4, .assign (.tmp 45), 4, "space.go:59", #[⟨11, .data⟩, ⟨9, .chain⟩, ⟨0, .phase⟩, ⟨1, .phase⟩, ⟨2, .phase⟩, ⟨3, .phase⟩, ⟨4, .phase⟩, ⟨5, .phase⟩, ⟨6, .phase⟩, ⟨7, .phase⟩, ⟨8, .phase⟩, ⟨9, .phase⟩, ⟨10, .phase⟩, ⟨11, .phase⟩], none⟩) rfl (fun KQ hK => ?_) AllReadyH.nil)
          go_simp
          refine hK.out _ _ trivial (fun hHeld => ?_)
          clear hK KQ
          try simp only [Act.put, tqA, tqZ, tqS]
          refine wpAnyH_done (by kernel_rfl) ?_ _
          go_wp2_with fail
          go_ret
          rw [← HZ.out]
          exact ⟨rfl, HB.out⟩
        · have hl1 : A.length = 1 := by simpa using h1
          rw [h1, Bool.true_and] at HZ
          obtain ⟨g, rfl, _, hg, _, hc⟩ := HFm.out (by omega)
          have hc0 := hc 0 (.int .u32 (A.getD 0 0)) (by
            rw [u32s, List.getElem?_map, List.getD_eq_getElem?_getD, List.getElem?_eq_getElem (by omega)]
            rfl)
          have HC : Hid (∀ w', Below wr.heap.size wr w' → w'.cell? ⟨g, 0, none⟩ = some (.int .u32 (A.getD 0 0))) := hid (fun w' hb => by
            have := hc0
            unfold World.cell? at this ⊢
            rw [hb.block g hg]
            exact this)
          clear hc hc0 HFm h1
          rw [hl1]
          generalize A.getD 0 0 = a at *
          go_upto_region 10 with fail
          have HB := hid (And.intro HQ.out.below ((Below.refl wr.heap.size wr).drew))
          refine wp_region_held_drew (S := fun w => Below wr.heap.size wr w) (by kernel_rfl) HB.out.2 (fun hHeld => ?_)
          generalize World.drew _ = x1 at *
          refine tk 0 (some 34) (.slice (some ⟨g, 0, none⟩) 1 c) ?_
          simp only [Act.put, tqA, tqZ, tqS]
          refine tk 1 (some 35) (.int .i64 1) ?_
          simp only [Act.put, tqA, tqZ, tqS]
          refine tk 2 (some 36) (.bool true) ?_
          simp only [Act.put, tqA, tqZ, tqS]
          refine tk 3 (some 37) (.bool true) ?_
          simp only [Act.put, tqA, tqZ, tqS]
          refine tk 4 (some 38) (.slice (some ⟨g, 0, none⟩) 1 c) ?_
          simp only [Act.put, tqA, tqZ, tqS]
          refine tk 5 (some 39) (.pointer (some ⟨g, 0, none⟩)) ?_
          simp only [Act.put, tqA, tqZ, tqS]
          refine tk 6 (some 40) (.int .u32 a) ?_ (hy := Or.inl ⟨by rfl, by intro w hSw; have hc := HC.out w hSw; go_simp⟩)
          simp only [Act.put, tqA, tqZ, tqS]
          refine tk 7 (some 41) (.pointer (some ⟨v.g, 0, none⟩)) ?_
          simp only [Act.put, tqA, tqZ, tqS]
          refine tk 8 (some 42) (.int .i64 (k : Int)) ?_
          simp only [Act.put, tqA, tqZ, tqS]
          refine wpAnyH_ready (rs := [9]) (by kernel_rfl) (by simp) (AllReadyH.cons (o := ⟨some 43, .call { callee := .value (.func 143), args := #[.tmp 41, .tmp 42, .const (.int .i64 0)], argTypes := #[102, 3, 3] }, 22, "space.go:59", #[⟨7, .data⟩, ⟨8, .data⟩, ⟨3, .chain⟩, ⟨3, .guard⟩], some (3, true)⟩) rfl (fun KQ hK => ?_) AllReadyH.nil)
          go_simp
          refine (HW.out _ (HV.out.on (below_on HB.out.1 HB.out.2))).mono ?_
          rintro e w2 ⟨rfl, hb⟩
          have HB2 := hid (below_on (below_on HB.out.1 HB.out.2) hb)
          have HB3 := hid (below_on HB.out.2 hb)
          clear hb
          go_wp2_with fail
          refine hK.out _ _ HB3.out (fun hHeld => ?_)
          clear hK KQ
          try simp only [Act.put, tqA, tqZ, tqS]
          refine tk 10 (some 44) (.bool (a == u)) ?_
          simp only [Act.put, tqA, tqZ, tqS]
          refine tk 11 (some 45) (.bool (a == u)) ?_
          simp only [Act.put, tqA, tqZ, tqS]
          refine wpAnyH_ready (rs := [12]) (by kernel_rfl) (by simp) (AllReadyH.cons (o := ⟨some 4, .assign (.tmp 45), 4, "space.go:59", #[⟨11, .data⟩, ⟨9, .chain⟩, ⟨0, .phase⟩, ⟨1, .phase⟩, ⟨2, .phase⟩, ⟨3, .phase⟩, ⟨4, .phase⟩, ⟨5, .phase⟩, ⟨6, .phase⟩, ⟨7, .phase⟩, ⟨8, .phase⟩, ⟨9, .phase⟩, ⟨10, .phase⟩, ⟨11, .phase⟩], none⟩) rfl (fun KQ hK => ?_) AllReadyH.nil)
          go_simp
          refine hK.out _ _ HB3.out (fun hHeld => ?_)
          clear hK KQ
          try simp only [Act.put, tqA, tqZ, tqS]
          refine wpAnyH_done (by kernel_rfl) ?_ _
          go_wp2_with fail
          go_ret
          rw [← HZ.out]
          exact ⟨rfl, HB2.out⟩
theorem under57 : Tryz.prog.underlying 57 = some (.struct (Tryz.prog.fieldsOf 57)) := by kernel_rfl
theorem size57 : (Tryz.prog.info? 57).map (·.size) = some 2 := by kernel_rfl
def DS.may (d : DS) (s : Bool) (n : Nat) (o : Int) : Bool := if s = true then d.isOf n 5 o else (d.m.at false (n : Int)).isSome
theorem mayBe_v (w : World) (v : Vp) (p : Dp) (d : DS) (h : VS w v p d) (s : Bool) (n : Nat) (o : Int) :
    Calls Tryz.prog 149 #[.pointer (some ⟨v.g, 0, none⟩), .agg #[.bool s, .int .i64 (n : Int)], .int .i64 o] w fun e w' => e = .returned (.bool (d.may s n o)) ∧ Below w.heap.size w w' := by
  have HV : Hid (VS (w.alloc (.cells #[.bool s, .int .i64 (n : Int)] 57)) v p d) := hid (h.on (below_one _ _))
  have HC : Hid (Cel (w.alloc (.cells #[.bool s, .int .i64 (n : Int)] 57)) w.heap.size 57 [.bool s, .int .i64 (n : Int)]) := hid (Cel.new w 57 [.bool s, .int .i64 (n : Int)])
  have HB : Hid (Below w.heap.size w (w.alloc (.cells #[.bool s, .int .i64 (n : Int)] 57))) := hid (below_one _ _)
  have HI := hid (fun w h => isOf_v w v p d h n 5 o)
  have HH := hid (fun w (h : VS w v p d) => has_any w p.f d.m h.db.mem false (n : Int))
  have HC1 := hid (fun w (h : VS w v p d) => h.c1)
  unfold DS.may
  clear h
  generalize d.isOf n 5 o = z at *
  generalize (d.m.at false (n : Int)).isSome = y at *
  simp only [ptr, fr] at *
  cases s
  · rw [if_neg (by decide)]
    go_enter Tryz.func149, Tryz.ntmps149
    go_upto_region 1 with fail
    generalize World.alloc _ _ = X at *
    generalize hg : w.heap.size = g4 at HC ⊢
    have HG := hid hg
    clear hg
    have y0 : X.cell? ⟨g4, 0, none⟩ = some (.bool false) := HC.out.cell 0
    go_upto_region 3 with fail
    clear y0
    have K1 := hid (And.intro (HV.out.on (Below.refl _ _).drew) (HC.out.on (Below.refl _ _).drew))
    have B1 := hid (below_on HB.out (Below.refl _ _).drew)
    refine wp_region_held_drew (S := fun w => VS w v p d ∧ Cel w g4 57 [.bool false, .int .i64 (n : Int)]) (by kernel_rfl) K1.out (fun hHeld => ?_)
    generalize World.drew _ = x1 at *
    refine tk 0 (some 14) (.pointer (some ⟨v.g, 0, none⟩)) ?_
    simp only [Act.put, tqA, tqZ, tqS]
    refine tk 1 (some 15) (.pointer (some ⟨v.g, 0, none⟩)) ?_
    simp only [Act.put, tqA, tqZ, tqS]
    refine tk 2 (some 16) (.pointer (some ⟨v.g, 1, none⟩)) ?_
    simp only [Act.put, tqA, tqZ, tqS]
    refine tk 3 (some 17) (.pointer (some ⟨p.f.gm, 0, none⟩)) ?_ (hy := Or.inl ⟨by rfl, by intro w hSw; have hc := HC1.out w hSw.1; go_simp⟩)
    simp only [Act.put, tqA, tqZ, tqS]
    refine tk 4 (some 18) (.agg #[.bool false, .int .i64 (n : Int)]) ?_ (hy := yieldsIf_load_mid (by rfl) _ _ rfl _ _ rfl _ _ (fun w hSw => hSw.2.range) under57 rfl (by rw [size57]; rfl))
    simp only [Act.put, tqA, tqZ, tqS]
    refine wpAnyH_ready (rs := [5]) (by kernel_rfl) (by simp) (AllReadyH.cons (o := ⟨some 19, .call { callee := .value (.func 170), args := #[.tmp 17, .tmp 18], argTypes := #[30, 57] }, 4, "table.go:52", #[⟨3, .data⟩, ⟨4, .data⟩], none⟩) rfl (fun KQ hK => ?_) AllReadyH.nil)
    go_simp
    refine (HH.out _ K1.out.1).mono ?_
    rintro e w2 ⟨rfl, hb⟩
    have K2 := hid (And.intro (K1.out.1.on hb) (K1.out.2.on hb))
    have B2 := hid (below_on B1.out hb)
    clear hb K1
    go_wp2_with fail
    refine hK.out _ _ K2.out (fun hHeld => ?_)
    clear hK KQ
    try simp only [Act.put, tqA, tqZ, tqS]
    refine wpAnyH_ready (rs := [6]) (by kernel_rfl) (by simp) (AllReadyH.cons (o := ⟨some 6, .assign (.tmp 19), 4, "table.go:52", #[⟨5, .data⟩, ⟨5, .chain⟩, ⟨0, .phase⟩, ⟨1, .phase⟩, ⟨2, .phase⟩, ⟨3, .phase⟩, ⟨4, .phase⟩, ⟨5, .phase⟩], none⟩) rfl (fun KQ hK => ?_) AllReadyH.nil)
    go_simp
    refine hK.out _ _ K2.out (fun hHeld => ?_)
    clear hK KQ
    try simp only [Act.put, tqA, tqZ, tqS]
    refine wpAnyH_done (by kernel_rfl) ?_ _
    go_wp2_with fail
    go_ret
    have hgg := HG.out
    subst hgg
    exact ⟨rfl, B2.out⟩
  · rw [if_pos rfl]
    go_enter Tryz.func149, Tryz.ntmps149
    go_upto_region 1 with fail
    generalize World.alloc _ _ = X at *
    generalize hg : w.heap.size = g4 at HC ⊢
    have HG := hid hg
    clear hg
    have y0 : X.cell? ⟨g4, 0, none⟩ = some (.bool true) := HC.out.cell 0
    have y1 : X.cell? ⟨g4, 1, none⟩ = some (.int .i64 (n : Int)) := HC.out.cell 1
    go_wp2_with (go_at_call 139; refine (HI.out _ HV.out).mono ?_; rintro e wx ⟨rfl, hw⟩; subst wx)
    go_ret
    have hgg := HG.out
    subst hgg
    exact ⟨rfl, HB.out⟩
end Go.Proofs.YtildhjiddidghaaGreatDoor
namespace Go.Proofs.YtildhjiddidghaaGreatDoor
open Go.RowKit
set_option maxHeartbeats 4000000
set_option maxRecDepth 100000
theorem size180 : (Tryz.prog.info? 180).map (·.size) = some 4 := by kernel_rfl
theorem cel_pre2 {w : World} {g : Nat} {t : TypeId} {a b c e : Value} (h : Cel w g t [a, b, c, e]) : w.rangeAt g 0 [a, b] := fun j u hu => by
  match j, hu with
  | 0, hu => simp only [List.getElem?_cons_zero, Option.some.injEq] at hu; subst hu; exact h.cell 0
  | 1, hu => simp only [List.getElem?_cons_succ, List.getElem?_cons_zero, Option.some.injEq] at hu; subst hu; exact h.cell 1
  | j + 2, hu => simp at hu
theorem wds_at (d : DS) (k n j : Nat) (hj : j < n) : (u32s (d.wds (k : Int) 0 n))[j]? = some (.int .u32 (d.w k j)) := by
  rw [u32s, List.getElem?_map, DS.wds, List.getElem?_map, List.getElem?_range hj]
  simp [DS.w]
theorem psE_cases (u : Int) : psE u = 92 ∨ psE u = 0 ∨ psE u = 90 := by
  unfold psE
  split
  · exact .inl rfl
  · split
    · exact .inr (.inl rfl)
    · exact .inr (.inr rfl)
theorem ps_nat {u : Int} (h0 : 0 ≤ u) : (ps u).p = (((ps u).p.toNat : Nat) : Int) := by
  have : 0 ≤ (ps u).p := by
    unfold ps
    split
    · show 0 ≤ u / 256; omega
    · exact Int.le_refl 0
  omega
def DS.mp1 (d : DS) (k j : Nat) : Bool := (psE (d.w k j) == 92) || ((psE (d.w k j) == 0) && d.may (ps (d.w k j)).s (ps (d.w k j)).p.toNat (d.at k).o)
def DS.mays (d : DS) (k : Nat) : Bool := (List.range 1024).all (d.mp1 k)
theorem all_yes {n : Nat} {f : Nat → Bool} (h : ∀ j, j < n → f j = true) : (List.range n).all f = true := List.all_eq_true.2 (fun j hj => h j (List.mem_range.1 hj))
theorem all_no {n j : Nat} {f : Nat → Bool} (h : j < n) (hf : f j = false) : (List.range n).all f = false := by
  cases ha : (List.range n).all f
  · rfl
  · have := List.all_eq_true.1 ha j (List.mem_range.2 h)
    rw [hf] at this
    exact this.symm
theorem mapsMay_v (w : World) (v : Vp) (p : Dp) (d : DS) (h : VS w v p d) (hu : d.m.U) (k : Nat) (hk : k < d.m.ns) :
    Calls Tryz.prog 104 #[.pointer (some ⟨v.g, 0, none⟩), .int .i64 (k : Int)] w fun e w' => e = .returned (.bool (d.mays k)) ∧ Below w.heap.size w w' := by
  have HV := hid h
  have HWd := hid (words_v w v p d h (k : Int) 0 1024 (by decide))
  have HPs := hid (fun w j => ps_any w (d.w k j) (hu.word true (k : Int) (j : Int)).1 (hu.word true (k : Int) (j : Int)).2)
  have HNat := hid (fun j => ps_nat (u := d.w k j) (hu.word true (k : Int) (j : Int)).1)
  have HMy := hid (fun w h s n => mayBe_v w v p d h s n (d.at k).o)
  have HC2 := hid (fun w (h : VS w v p d) => And.intro h.c2 (h.row k hk).2.1)
  have HAt := hid (fun j hj => wds_at d k 1024 j hj)
  have HA : Hid (∀ j, d.mp1 k j = ((psE (d.w k j) == 92) || ((psE (d.w k j) == 0) && d.may (ps (d.w k j)).s (ps (d.w k j)).p.toNat (d.at k).o))) := hid (fun _ => rfl)
  have HZ : Hid (d.mays k = (List.range 1024).all (d.mp1 k)) := hid rfl
  have q1 : (k : Int) < (d.m.ns : Int) := by omega
  clear h hu hk
  generalize d.mays k = z at *
  generalize hA : d.mp1 k = A at *
  clear hA
  generalize (d.at k).o = ow at *
  generalize d.m.ns = n at *
  generalize d.wds (k : Int) 0 1024 = L at *
  simp only [Nat.zero_add] at HWd
  go_enter Tryz.func104, Tryz.ntmps104
  go_upto_region 2 with (go_at_call 137; refine HWd.out.mono ?_; rintro e w1 ⟨g, rfl, hc, _, hb⟩; have C1 := hid (And.intro hc hb); clear hc hb)
  go_loopw [13] (fun i wr => ∃ j : Nat, j ≤ 1024 ∧ i = .int .i64 (j : Int) ∧ Hid (Cel wr g 22 (u32s L) ∧ Below w.heap.size w wr ∧ ∀ q, q < j → A q = true)) (fun i _ => 1024 - (intOf i).toNat)
  case atStart => exact ⟨0, Nat.zero_le _, rfl, hid ⟨C1.out.1, C1.out.2, by intro q hq; omega⟩⟩
  case round =>
    obtain ⟨j, hj, rfl, HQ⟩ := hrel
    clear C1
    by_cases hlt : j < 1024
    · have q2 : (j : Int) < 1024 := by omega
      have z0 : wr.cell? ⟨g, j, none⟩ = some (.int .u32 (d.w k j)) := by rw [HQ.out.1.cell]; exact HAt.out j hlt
      have HPj := hid (HPs.out · j)
      have HNj := HNat.out j
      have HAj := hid (HA.out j)
      have hE := psE_cases (d.w k j)
      have HJ := hid hlt
      have HVj := hid (HV.out.on HQ.out.2.1)
      clear hlt hj
      generalize psE (d.w k j) = E at *
      generalize hM : ps (d.w k j) = M at *
      clear hM
      generalize d.w k j = u at *
      obtain ⟨pn, hpn⟩ : ∃ pn, M.p.toNat = pn := ⟨_, rfl⟩
      rw [hpn] at HNj HAj
      simp only [Mp.v] at HPj
      rw [HNj] at HPj
      clear HNj hpn
      go_upto_region 5 with (first | (go_at_call 138; refine (HPj.out _).mono ?_; rintro e w2 ⟨rfl, hb⟩; have K2 := hid (And.intro (HQ.out.1.on hb) (And.intro (below_on HQ.out.2.1 hb) (HVj.out.on hb))); clear hb z0) | (refine wpList_store_st rfl 180 _ _ rfl w2.heap.size [.bool M.s, .int .i64 (pn : Int), .bool M.wr, .bool M.ex] rfl rfl (Cel.new w2 180 [.bool false, .int .i64 0, .bool false, .bool false]) size180 rfl rfl ?_; intro w3 hc hb hs; have hbb := (below_one w2 (.cells #[.bool false, .int .i64 0, .bool false, .bool false] 180)).trans (hb.below (B := w2.heap.size) (by simp) (by simp)); have K3 := hid (And.intro (K2.out.1.on hbb) (And.intro (below_on K2.out.2.1 hbb) (And.intro (K2.out.2.2.on hbb) hc))); clear hc hb hs hbb K2))
      generalize w2.heap.size = g7 at *
      rcases hE with rfl | rfl | rfl
      · have hA : A j = true := by rw [HAj.out]; rfl
        have HAt2 := hid hA
        clear hA
        go_wp2_with fail
        go_roundw
        case measure => have := HJ.out; simp [intOf] <;> omega
        case rel => exact ⟨j + 1, HJ.out, by simp, hid ⟨K3.out.1, K3.out.2.1, fun q hq => by
          by_cases e : q = j
          · rw [e]; exact HAt2.out
          · exact HQ.out.2.2 q (by omega)⟩⟩
      · have HAj2 : Hid (A j = d.may M.s pn ow) := hid (by rw [HAj.out]; simp)
        have HMj := hid (HMy.out · · M.s pn)
        generalize d.may M.s pn ow = y at *
        go_upto_region 6 with fail
        have K4 := hid (And.intro (K3.out.2.2.1.on (Below.refl _ _).drew) (K3.out.2.2.2.on (Below.refl _ _).drew))
        have B4 := hid (And.intro (K3.out.1.on (Below.refl _ _).drew) (below_on K3.out.2.1 (Below.refl _ _).drew))
        cases y
        · refine wp_region_held_drew (S := fun w => VS w v p d ∧ Cel w g7 180 [.bool M.s, .int .i64 (pn : Int), .bool M.wr, .bool M.ex]) (by kernel_rfl) K4.out (fun hHeld => ?_)
          generalize World.drew _ = x1 at *
          refine tk 0 (some 24) (.int .i64 0) ?_
          simp only [Act.put, tqA, tqZ, tqS]
          refine tk 1 (some 25) (.bool false) ?_
          simp only [Act.put, tqA, tqZ, tqS]
          refine tk 2 (some 26) (.bool false) ?_
          simp only [Act.put, tqA, tqZ, tqS]
          refine tk 3 (some 27) (.pointer (some ⟨v.g, 0, none⟩)) ?_
          simp only [Act.put, tqA, tqZ, tqS]
          refine tk 4 (some 28) (.pointer (some ⟨g7, 0, none⟩)) ?_
          simp only [Act.put, tqA, tqZ, tqS]
          refine tk 5 (some 29) (.agg #[.bool M.s, .int .i64 (pn : Int)]) ?_ (hy := yieldsIf_load_mid (by rfl) _ _ rfl _ _ rfl _ _ (fun w hSw => cel_pre2 hSw.2) under57 rfl (by rw [size57]; rfl))
          simp only [Act.put, tqA, tqZ, tqS]
          refine tk 6 (some 30) (.pointer (some ⟨v.g, 0, none⟩)) ?_
          simp only [Act.put, tqA, tqZ, tqS]
          refine tk 7 (some 31) (.pointer (some ⟨v.g, 0, none⟩)) ?_
          simp only [Act.put, tqA, tqZ, tqS]
          refine tk 8 (some 32) (.pointer (some ⟨v.g, 2, none⟩)) ?_
          simp only [Act.put, tqA, tqZ, tqS]
          refine tk 9 (some 33) (.slice (some ⟨v.ge, 0, none⟩) n v.ce) ?_ (hy := Or.inl ⟨by rfl, by intro w hSw; have hc := (HC2.out w hSw.1).1; go_simp⟩)
          simp only [Act.put, tqA, tqZ, tqS]
          refine tk 10 (some 34) (.int .i64 (k : Int)) ?_
          simp only [Act.put, tqA, tqZ, tqS]
          refine tk 11 (some 35) (.pointer (some ⟨v.ge, k * 5, none⟩)) ?_
          simp only [Act.put, tqA, tqZ, tqS]
          refine tk 12 (some 36) (.pointer (some ⟨v.ge, k * 5 + 1, none⟩)) ?_
          simp only [Act.put, tqA, tqZ, tqS]
          refine tk 13 (some 37) (.int .i64 ow) ?_ (hy := Or.inl ⟨by rfl, by intro w hSw; have hc := (HC2.out w hSw.1).2; go_simp⟩)
          simp only [Act.put, tqA, tqZ, tqS]
          refine wpAnyH_ready (rs := [14]) (by kernel_rfl) (by simp) (AllReadyH.cons (o := ⟨some 38, .call { callee := .value (.func 149), args := #[.tmp 27, .tmp 29, .tmp 37], argTypes := #[102, 57, 3] }, 4, "table.go:41", #[⟨3, .data⟩, ⟨5, .data⟩, ⟨13, .data⟩, ⟨2, .chain⟩, ⟨2, .guard⟩], some (2, false)⟩) rfl (fun KQ hK => ?_) AllReadyH.nil)
          go_simp
          refine (HMj.out _ K4.out.1).mono ?_
          rintro e w5 ⟨rfl, hb⟩
          have K5 := hid (And.intro (K4.out.1.on hb) (K4.out.2.on hb))
          have B5 := hid (And.intro (B4.out.1.on hb) (below_on B4.out.2 hb))
          clear hb K4 B4
          go_wp2_with fail
          refine hK.out _ _ K5.out (fun hHeld => ?_)
          clear hK KQ
          try simp only [Act.put, tqA, tqZ, tqS]
          refine tk 15 (some 39) (.bool true) ?_
          simp only [Act.put, tqA, tqZ, tqS]
          refine tk 16 (some 40) (.bool true) ?_
          simp only [Act.put, tqA, tqZ, tqS]
          refine wpAnyH_done (by kernel_rfl) ?_ _
          go_wp2_with fail
          go_ret
          have HF : z = false := by rw [HZ.out]; exact all_no HJ.out HAj2.out
          rw [HF]
          exact ⟨rfl, B5.out.2⟩
        · refine wp_region_held_drew (S := fun w => VS w v p d ∧ Cel w g7 180 [.bool M.s, .int .i64 (pn : Int), .bool M.wr, .bool M.ex]) (by kernel_rfl) K4.out (fun hHeld => ?_)
          generalize World.drew _ = x1 at *
          refine tk 0 (some 24) (.int .i64 0) ?_
          simp only [Act.put, tqA, tqZ, tqS]
          refine tk 1 (some 25) (.bool false) ?_
          simp only [Act.put, tqA, tqZ, tqS]
          refine tk 2 (some 26) (.bool false) ?_
          simp only [Act.put, tqA, tqZ, tqS]
          refine tk 3 (some 27) (.pointer (some ⟨v.g, 0, none⟩)) ?_
          simp only [Act.put, tqA, tqZ, tqS]
          refine tk 4 (some 28) (.pointer (some ⟨g7, 0, none⟩)) ?_
          simp only [Act.put, tqA, tqZ, tqS]
          refine tk 5 (some 29) (.agg #[.bool M.s, .int .i64 (pn : Int)]) ?_ (hy := yieldsIf_load_mid (by rfl) _ _ rfl _ _ rfl _ _ (fun w hSw => cel_pre2 hSw.2) under57 rfl (by rw [size57]; rfl))
          simp only [Act.put, tqA, tqZ, tqS]
          refine tk 6 (some 30) (.pointer (some ⟨v.g, 0, none⟩)) ?_
          simp only [Act.put, tqA, tqZ, tqS]
          refine tk 7 (some 31) (.pointer (some ⟨v.g, 0, none⟩)) ?_
          simp only [Act.put, tqA, tqZ, tqS]
          refine tk 8 (some 32) (.pointer (some ⟨v.g, 2, none⟩)) ?_
          simp only [Act.put, tqA, tqZ, tqS]
          refine tk 9 (some 33) (.slice (some ⟨v.ge, 0, none⟩) n v.ce) ?_ (hy := Or.inl ⟨by rfl, by intro w hSw; have hc := (HC2.out w hSw.1).1; go_simp⟩)
          simp only [Act.put, tqA, tqZ, tqS]
          refine tk 10 (some 34) (.int .i64 (k : Int)) ?_
          simp only [Act.put, tqA, tqZ, tqS]
          refine tk 11 (some 35) (.pointer (some ⟨v.ge, k * 5, none⟩)) ?_
          simp only [Act.put, tqA, tqZ, tqS]
          refine tk 12 (some 36) (.pointer (some ⟨v.ge, k * 5 + 1, none⟩)) ?_
          simp only [Act.put, tqA, tqZ, tqS]
          refine tk 13 (some 37) (.int .i64 ow) ?_ (hy := Or.inl ⟨by rfl, by intro w hSw; have hc := (HC2.out w hSw.1).2; go_simp⟩)
          simp only [Act.put, tqA, tqZ, tqS]
          refine wpAnyH_ready (rs := [14]) (by kernel_rfl) (by simp) (AllReadyH.cons (o := ⟨some 38, .call { callee := .value (.func 149), args := #[.tmp 27, .tmp 29, .tmp 37], argTypes := #[102, 57, 3] }, 4, "table.go:41", #[⟨3, .data⟩, ⟨5, .data⟩, ⟨13, .data⟩, ⟨2, .chain⟩, ⟨2, .guard⟩], some (2, false)⟩) rfl (fun KQ hK => ?_) AllReadyH.nil)
          go_simp
          refine (HMj.out _ K4.out.1).mono ?_
          rintro e w5 ⟨rfl, hb⟩
          have K5 := hid (And.intro (K4.out.1.on hb) (K4.out.2.on hb))
          have B5 := hid (And.intro (B4.out.1.on hb) (below_on B4.out.2 hb))
          clear hb K4 B4
          go_wp2_with fail
          refine hK.out _ _ K5.out (fun hHeld => ?_)
          clear hK KQ
          try simp only [Act.put, tqA, tqZ, tqS]
          refine tk 15 (some 39) (.bool false) ?_
          simp only [Act.put, tqA, tqZ, tqS]
          refine tk 16 (some 40) (.bool false) ?_
          simp only [Act.put, tqA, tqZ, tqS]
          refine wpAnyH_done (by kernel_rfl) ?_ _
          go_wp2_with fail
          go_roundw
          case measure => have := HJ.out; simp [intOf] <;> omega
          case rel => exact ⟨j + 1, HJ.out, by simp, hid ⟨B5.out.1, B5.out.2, fun q hq => by
            by_cases e : q = j
            · rw [e]; exact HAj2.out
            · exact HQ.out.2.2 q (by omega)⟩⟩
      · have HAj2 : Hid (A j = false) := hid (by rw [HAj.out]; simp)
        go_upto_region 6 with fail
        have K4 := hid (And.intro (K3.out.2.2.1.on (Below.refl _ _).drew) (K3.out.2.2.2.on (Below.refl _ _).drew))
        have B5 := hid (And.intro (K3.out.1.on (Below.refl _ _).drew) (below_on K3.out.2.1 (Below.refl _ _).drew))
        refine wp_region_held_drew (S := fun w => VS w v p d ∧ Cel w g7 180 [.bool M.s, .int .i64 (pn : Int), .bool M.wr, .bool M.ex]) (by kernel_rfl) K4.out (fun hHeld => ?_)
        generalize World.drew _ = x1 at *
        refine tk 0 (some 24) (.int .i64 90) ?_
        simp only [Act.put, tqA, tqZ, tqS]
        refine tk 1 (some 25) (.bool true) ?_
        simp only [Act.put, tqA, tqZ, tqS]
        refine tk 2 (some 26) (.bool true) ?_
        simp only [Act.put, tqA, tqZ, tqS]
        refine tk 3 (some 27) undef ?_ (hy := Or.inr ⟨by rfl, rfl⟩)
        simp only [Act.put, tqA, tqZ, tqS]
        refine tk 4 (some 28) undef ?_ (hy := Or.inr ⟨by rfl, rfl⟩)
        simp only [Act.put, tqA, tqZ, tqS]
        refine tk 5 (some 29) undef ?_ (hy := Or.inr ⟨by rfl, rfl⟩)
        simp only [Act.put, tqA, tqZ, tqS]
        refine tk 6 (some 30) undef ?_ (hy := Or.inr ⟨by rfl, rfl⟩)
        simp only [Act.put, tqA, tqZ, tqS]
        refine tk 7 (some 31) undef ?_ (hy := Or.inr ⟨by rfl, rfl⟩)
        simp only [Act.put, tqA, tqZ, tqS]
        refine tk 8 (some 32) undef ?_ (hy := Or.inr ⟨by rfl, rfl⟩)
        simp only [Act.put, tqA, tqZ, tqS]
        refine tk 9 (some 33) undef ?_ (hy := Or.inr ⟨by rfl, rfl⟩)
        simp only [Act.put, tqA, tqZ, tqS]
        refine tk 10 (some 34) undef ?_ (hy := Or.inr ⟨by rfl, rfl⟩)
        simp only [Act.put, tqA, tqZ, tqS]
        refine tk 11 (some 35) undef ?_ (hy := Or.inr ⟨by rfl, rfl⟩)
        simp only [Act.put, tqA, tqZ, tqS]
        refine tk 12 (some 36) undef ?_ (hy := Or.inr ⟨by rfl, rfl⟩)
        simp only [Act.put, tqA, tqZ, tqS]
        refine tk 13 (some 37) undef ?_ (hy := Or.inr ⟨by rfl, rfl⟩)
        simp only [Act.put, tqA, tqZ, tqS]
        refine tk 14 (some 38) undef ?_ (hy := Or.inr ⟨by rfl, rfl⟩)
        simp only [Act.put, tqA, tqZ, tqS]
        refine tk 15 (some 39) undef ?_ (hy := Or.inr ⟨by rfl, rfl⟩)
        simp only [Act.put, tqA, tqZ, tqS]
        refine tk 16 (some 40) (.bool true) ?_
        simp only [Act.put, tqA, tqZ, tqS]
        refine wpAnyH_done (by kernel_rfl) ?_ _
        go_wp2_with fail
        go_ret
        have HF : z = false := by rw [HZ.out]; exact all_no HJ.out HAj2.out
        rw [HF]
        exact ⟨rfl, B5.out.2⟩
    · have hj4 : j = 1024 := by omega
      subst hj4
      have HF : Hid (z = true) := hid (by rw [HZ.out]; exact all_yes HQ.out.2.2)
      clear hlt hj
      go_wp2_with fail
      go_ret
      rw [HF.out]
      exact ⟨rfl, HQ.out.2.1⟩
end Go.Proofs.YtildhjiddidghaaGreatDoor
namespace Go.Proofs.YtildhjiddidghaaGreatDoor
open Go.RowKit
set_option maxHeartbeats 4000000
set_option maxRecDepth 100000
theorem under96 : Tryz.prog.underlying 96 = some (.slice 3) := by kernel_rfl
theorem pfE_cases (u : Int) : pfE u = 92 ∨ pfE u = 0 ∨ pfE u = 90 := by
  unfold pfE
  split
  · exact .inl rfl
  · split
    · exact .inr (.inl rfl)
    · exact .inr (.inr rfl)
theorem pf_nat {u : Int} (h0 : 0 ≤ u) : pf u = (((pf u).toNat : Nat) : Int) := by
  have : 0 ≤ pf u := by
    unfold pf
    split
    · show 0 ≤ u / 256; omega
    · exact Int.le_refl 0
  omega
def DS.nm1 (d : DS) (k j : Nat) : Bool := (pfE (d.w k j) == 92) || ((pfE (d.w k j) == 0) && d.isOf (pf (d.w k j)).toNat 4 (d.at k).o)
def DS.nmd (d : DS) (k : Nat) : Nat → Nat → Nat
  | 0, _ => 0
  | n + 1, q => d.nmd k n q + (if pfE (d.w k n) = 0 ∧ (pf (d.w k n)).toNat = q then 1 else 0)
def DS.nmL (d : DS) (k j : Nat) : List Nat := (List.range d.m.ns).map (d.nmd k j)
def DS.nq (d : DS) (k q : Nat) : Bool := !(d.isOf q 4 (d.at k).o && (d.nmd k 256 q != 1))
def DS.names (d : DS) (k : Nat) : Bool := d.zr (k : Int) 256 1024 && ((List.range 256).all (d.nm1 k) && (List.range d.m.ns).all (d.nq k))
theorem nmL_len (d : DS) (k j : Nat) : (d.nmL k j).length = d.m.ns := by simp [DS.nmL]
theorem nmL_at (d : DS) (k j q : Nat) (hq : q < d.m.ns) : (d.nmL k j)[q]? = some (d.nmd k j q) := by
  rw [DS.nmL, List.getElem?_map, List.getElem?_range hq]; rfl
theorem nmL_skip {d : DS} {k j : Nat} (h : pfE (d.w k j) ≠ 0) : d.nmL k (j + 1) = d.nmL k j := by
  unfold DS.nmL
  apply List.map_congr_left
  intro q _
  simp [DS.nmd, h]
theorem nmL_hit {d : DS} {k j q : Nat} (h : pfE (d.w k j) = 0) (hq : (pf (d.w k j)).toNat = q) (hn : q < d.m.ns) : d.nmL k (j + 1) = (d.nmL k j).set q (d.nmd k j q + 1) := by
  apply List.ext_getElem?
  intro i
  rw [List.getElem?_set]
  by_cases hi : i < d.m.ns
  · rw [nmL_at d k (j + 1) i hi]
    by_cases e : q = i
    · subst e
      rw [if_pos rfl, if_pos (by rw [nmL_len]; exact hi)]
      simp [DS.nmd, h, hq]
    · rw [if_neg e, nmL_at d k j i hi]
      have : ¬ (pf (d.w k j)).toNat = i := by omega
      simp [DS.nmd, this]
  · rw [List.getElem?_eq_none (by rw [nmL_len]; omega)]
    by_cases e : q = i
    · omega
    · rw [if_neg e, List.getElem?_eq_none (by rw [nmL_len]; omega)]
theorem ints_at (C : List Nat) (q a : Nat) (h : C[q]? = some a) : (ints C)[q]? = some (.int .i64 (a : Int)) := by
  rw [ints, List.getElem?_map, h]; rfl
theorem ints_set (C : List Nat) (q a : Nat) : (ints C).set q (.int .i64 (a : Int)) = ints (C.set q a) := by
  rw [ints, ints, List.map_set]
theorem nmL_zero (d : DS) (k : Nat) : ints (d.nmL k 0) = List.replicate d.m.ns (.int .i64 0) := by
  rw [DS.nmL, ints, List.map_map, List.eq_replicate_iff]
  refine ⟨by simp, fun b hb => ?_⟩
  simp only [List.mem_map, List.mem_range, Function.comp_apply] at hb
  obtain ⟨q, _, rfl⟩ := hb
  rfl
theorem nmd_le (d : DS) (k q : Nat) : ∀ n, d.nmd k n q ≤ n
  | 0 => Nat.le_refl _
  | n + 1 => by
    have := nmd_le d k q n
    unfold DS.nmd
    split <;> omega
theorem isOf_lt {d : DS} {q : Nat} {t o : Int} (h : d.isOf q t o = true) : q < d.m.ns := by
  unfold DS.isOf at h
  rw [Bool.and_eq_true] at h
  exact of_decide_eq_true h.1
theorem names_v (w : World) (v : Vp) (p : Dp) (d : DS) (h : VS w v p d) (hu : d.m.U) (k : Nat) (hk : k < d.m.ns) :
    Calls Tryz.prog 103 #[.pointer (some ⟨v.g, 0, none⟩), .int .i64 (k : Int)] w fun e w' => e = .returned (.bool (d.names k)) ∧ Below w.heap.size w w' := by
  have HV := hid h
  have HZr := hid (isZero_v w v p d h (k : Int) 256 1024 (by decide) (by decide))
  have HWd := hid (fun w h => words_v w v p d h (k : Int) 0 256 (by decide))
  have HPf := hid (fun w j => pf_any w (d.w k j) (hu.word true (k : Int) (j : Int)).1 (hu.word true (k : Int) (j : Int)).2)
  have HNat := hid (fun j => pf_nat (u := d.w k j) (hu.word true (k : Int) (j : Int)).1)
  have HI := hid (fun w h q => isOf_v w v p d h q 4 (d.at k).o)
  have HC2 := hid (fun w (h : VS w v p d) => And.intro h.c2 (h.row k hk).2.1)
  have HAt := hid (fun j hj => wds_at d k 256 j hj)
  have HN := hid (And.intro hk h.db.ok.n64)
  have HD : Hid (d.names k = (d.zr (k : Int) 256 1024 && ((List.range 256).all (d.nm1 k) && (List.range d.m.ns).all (d.nq k)))) := hid rfl
  have HA : Hid (∀ j, d.nm1 k j = ((pfE (d.w k j) == 92) || ((pfE (d.w k j) == 0) && d.isOf (pf (d.w k j)).toNat 4 (d.at k).o))) := hid (fun _ => rfl)
  have HB : Hid (∀ q, d.nq k q = !(d.isOf q 4 (d.at k).o && (d.nmd k 256 q != 1))) := hid (fun _ => rfl)
  have HLt := hid (fun q => @isOf_lt d q 4 (d.at k).o)
  have HL0 := hid (nmL_zero d k)
  have HLs := hid (fun j => @nmL_skip d k j)
  have HLh := hid (fun j q => @nmL_hit d k j q)
  have HLa := hid (fun j q hq => ints_at _ q _ (nmL_at d k j q hq))
  have HLe := hid (fun q j => nmd_le d k q j)
  have q1 : (k : Int) < (d.m.ns : Int) := by omega
  clear h hu hk
  generalize d.names k = z at *
  generalize hA : d.nm1 k = A at *
  generalize hB : d.nq k = B at *
  clear hA hB
  generalize (d.at k).o = ow at *
  cases hz : d.zr (k : Int) 256 1024
  · rw [hz] at HZr
    rw [hz, Bool.false_and] at HD
    clear hz
    go_enter Tryz.func103, Tryz.ntmps103
    go_wp2_with (go_at_call 141; refine HZr.out.mono ?_; rintro e w1 ⟨rfl, hb⟩; have B1 := hid hb; clear hb)
    go_ret
    rw [HD.out]
    exact ⟨rfl, B1.out⟩
  · rw [hz] at HZr
    rw [hz, Bool.true_and] at HD
    clear hz
    generalize hn : d.m.ns = n at *
    clear hn
    simp only [Nat.zero_add] at HWd
    go_enter Tryz.func103, Tryz.ntmps103
    go_upto_region 3 with (go_at_call 141; refine HZr.out.mono ?_; rintro e w1 ⟨rfl, hb⟩; have B1 := hid hb; clear hb)
    obtain ⟨x2, x3⟩ := HC2.out _ (HV.out.on B1.out)
    go_upto_region 5 with (at_make; refine wpList_make_cel rfl _ _ 96 3 rfl (.int .i64 0) 8 under96 info3 rfl n _ _ rfl rfl rfl rfl (by have := HN.out; omega) (by have := HN.out; omega) ?_; intro w2 hc hb hs; have C2 := hid (And.intro hc (And.intro (below_on B1.out hb) B1.out.size)); clear hc hb hs)
    clear x2 x3
    generalize w1.heap.size = gN at *
    go_upto_region 6 with (go_at_call 137; refine (HWd.out _ (HV.out.on C2.out.2.1)).mono ?_; rintro e w3 ⟨g, rfl, hc, hg, hb⟩; have C3 := hid (And.intro (C2.out.1.on hb) (And.intro hc (And.intro (below_on C2.out.2.1 hb) (And.intro (show gN ≠ g by have := C2.out.1.lt; omega) C2.out.2.2)))); clear hc hg hb C2)
    have HNE := hid C3.out.2.2.2
    go_loopw [35] (fun i wr => ∃ j : Nat, j ≤ 256 ∧ i = .int .i64 (j : Int) ∧ Hid (Cel wr gN 3 (ints (d.nmL k j)) ∧ Cel wr g 22 (u32s (d.wds (k : Int) 0 256)) ∧ Below w.heap.size w wr ∧ ∀ q, q < j → A q = true)) (fun i _ => 256 - (intOf i).toNat)
    case atStart => exact ⟨0, Nat.zero_le _, rfl, hid ⟨by rw [HL0.out]; exact C3.out.1, C3.out.2.1, C3.out.2.2.1, by intro q hq; omega⟩⟩
    case round =>
      obtain ⟨j, hj, rfl, HQ⟩ := hrel
      clear C3
      by_cases hlt : j < 256
      · have q2 : (j : Int) < 256 := by omega
        have z0 : wr.cell? ⟨g, j, none⟩ = some (.int .u32 (d.w k j)) := by rw [HQ.out.2.1.cell]; exact HAt.out j hlt
        have HPj := hid (HPf.out · j)
        have HNj := HNat.out j
        have HAj := hid (HA.out j)
        have hE := pfE_cases (d.w k j)
        have HJ := hid hlt
        have HVj := hid (HV.out.on HQ.out.2.2.1)
        have HSj := hid (HLs.out j)
        have HHj := hid (HLh.out j)
        clear hlt hj
        generalize pfE (d.w k j) = E at *
        generalize hM : pf (d.w k j) = M at *
        clear hM
        generalize d.w k j = u at *
        obtain ⟨pn, hpn⟩ : ∃ pn, M.toNat = pn := ⟨_, rfl⟩
        rw [hpn] at HNj HAj HHj
        rw [HNj] at HPj
        clear HNj hpn
        rcases hE with rfl | rfl | rfl
        · have hA : A j = true := by rw [HAj.out]; rfl
          have HAt2 := hid hA
          have HSt := hid (HSj.out (by decide))
          clear hA
          go_wp2_with (go_at_call 148; refine (HPj.out _).mono ?_; rintro e wx ⟨rfl, hw⟩; subst wx)
          go_roundw
          case measure => have := HJ.out; simp [intOf] <;> omega
          case rel => exact ⟨j + 1, HJ.out, by simp, hid ⟨by rw [HSt.out]; exact HQ.out.1, HQ.out.2.1, HQ.out.2.2.1, fun q hq => by
            by_cases e : q = j
            · rw [e]; exact HAt2.out
            · exact HQ.out.2.2.2 q (by omega)⟩⟩
        · have HAj2 : Hid (A j = d.isOf pn 4 ow) := hid (by rw [HAj.out]; simp)
          have HIj := hid (HI.out _ HVj.out pn)
          cases hy : d.isOf pn 4 ow
          · rw [hy] at HIj HAj2
            clear hy
            go_wp2_with (first | (go_at_call 148; refine (HPj.out _).mono ?_; rintro e wx ⟨rfl, hw⟩; subst wx) | (go_at_call 139; refine HIj.out.mono ?_; rintro e wx ⟨rfl, hw⟩; subst wx))
            go_ret
            rw [HD.out, all_no HJ.out HAj2.out]
            exact ⟨rfl, HQ.out.2.2.1⟩
          · have hpn := HLt.out pn hy
            rw [hy] at HIj HAj2
            clear hy
            have HS := hid (HHj.out pn rfl rfl hpn)
            have y0 : wr.cell? ⟨gN, pn, none⟩ = some (.int .i64 (d.nmd k j pn : Int)) := by rw [HQ.out.1.cell]; exact HLa.out j pn hpn
            have y1 := HQ.out.1.free pn
            have hle := HLe.out pn j
            have hj6 := HJ.out
            have q4 : (pn : Int) < (n : Int) := by omega
            have q5 : (d.nmd k j pn : Int) ≤ 256 := by omega
            have HC5 := hid (HQ.out.1.setCell pn (.int .i64 ((d.nmd k j pn + 1 : Nat) : Int)))
            rw [ints_set, ← HS.out] at HC5
            have hcs : ((d.nmd k j pn + 1 : Nat) : Int) = (d.nmd k j pn : Int) + 1 := by omega
            rw [hcs] at HC5
            have HB5 := hid (ButL.setCell wr gN pn (.int .i64 ((d.nmd k j pn : Int) + 1)) (by simp : gN ∈ [gN]))
            clear hcs hle hj6 hpn
            generalize d.nmd k j pn = a at *
            go_wp2_with (first | (go_at_call 148; refine (HPj.out _).mono ?_; rintro e wx ⟨rfl, hw⟩; subst wx) | (go_at_call 139; refine HIj.out.mono ?_; rintro e wx ⟨rfl, hw⟩; subst wx))
            go_roundw
            case measure => have := HJ.out; simp [intOf] <;> omega
            case rel => exact ⟨j + 1, HJ.out, by simp, hid ⟨HC5.out, HQ.out.2.1.but HB5.out (by rw [List.mem_singleton]; exact fun e => HNE.out.1 e.symm), HQ.out.2.2.1.trans (HB5.out.below (B := w.heap.size) (fun q hq => by rw [List.mem_singleton] at hq; have := HNE.out.2; omega) HQ.out.2.2.1.size), fun q hq => by
              by_cases e : q = j
              · rw [e]; exact HAj2.out
              · exact HQ.out.2.2.2 q (by omega)⟩⟩
        · have HAj2 : Hid (A j = false) := hid (by rw [HAj.out]; simp)
          go_wp2_with (go_at_call 148; refine (HPj.out _).mono ?_; rintro e wx ⟨rfl, hw⟩; subst wx)
          go_ret
          rw [HD.out, all_no HJ.out HAj2.out]
          exact ⟨rfl, HQ.out.2.2.1⟩
      · have hj4 : j = 256 := by omega
        subst hj4
        rw [all_yes HQ.out.2.2.2, Bool.true_and] at HD
        have HQ2 := hid (And.intro HQ.out.1 HQ.out.2.2.1)
        clear hlt hj HQ
        go_upto_region 15 with fail
        go_loopw [64] (fun i wr => ∃ j : Nat, j ≤ n ∧ i = .int .i64 (j : Int) ∧ Hid (Cel wr gN 3 (ints (d.nmL k 256)) ∧ Below w.heap.size w wr ∧ ∀ q, q < j → B q = true)) (fun i _ => n - (intOf i).toNat)
        case atStart => exact ⟨0, Nat.zero_le _, rfl, hid ⟨HQ2.out.1, HQ2.out.2, by intro q hq; omega⟩⟩
        case round =>
          obtain ⟨j, hj, rfl, HR⟩ := hrel
          clear HQ2
          by_cases hlt : j < n
          · have q2 : (j : Int) < (n : Int) := by omega
            have hh := HN.out
            have q3 : (j : Int) ≤ 64 := by omega
            have z0 : wr.cell? ⟨gN, j, none⟩ = some (.int .i64 (d.nmd k 256 j : Int)) := by rw [HR.out.1.cell]; exact HLa.out 256 j hlt
            have HIj := hid (HI.out _ (HV.out.on HR.out.2.1) j)
            have HBj := hid (HB.out j)
            have HJ := hid hlt
            clear hlt hj hh
            generalize d.nmd k 256 j = a at *
            cases hy : d.isOf j 4 ow
            · rw [hy] at HIj
              have HB2 : Hid (B j = true) := hid (by rw [HBj.out, hy]; rfl)
              clear hy
              go_wp2_with (go_at_call 139; refine HIj.out.mono ?_; rintro e wx ⟨rfl, hw⟩; subst wx)
              go_roundw
              case measure => have := HJ.out; simp [intOf] <;> omega
              case rel => refine ⟨_, _, _, _, _, _, _, _, _, _, _, _, _, _, _, _, _, ?_, rfl⟩; exact ⟨j + 1, HJ.out, by simp, hid ⟨HR.out.1, HR.out.2.1, fun q hq => by
                by_cases e : q = j
                · rw [e]; exact HB2.out
                · exact HR.out.2.2 q (by omega)⟩⟩
            · rw [hy] at HIj
              by_cases ha : a = 1
              · subst ha
                have HB2 : Hid (B j = true) := hid (by rw [HBj.out, hy]; rfl)
                clear hy
                go_wp2_with (go_at_call 139; refine HIj.out.mono ?_; rintro e wx ⟨rfl, hw⟩; subst wx)
                go_roundw
                case measure => have := HJ.out; simp [intOf] <;> omega
                case rel => refine ⟨_, _, _, _, _, _, _, _, _, _, _, _, _, _, _, _, _, ?_, rfl⟩; exact ⟨j + 1, HJ.out, by simp, hid ⟨HR.out.1, HR.out.2.1, fun q hq => by
                  by_cases e : q = j
                  · rw [e]; exact HB2.out
                  · exact HR.out.2.2 q (by omega)⟩⟩
              · have HB2 : Hid (B j = false) := hid (by rw [HBj.out, hy]; simp [ha])
                have ha' : ((a : Int) != 1) = true := by rw [bne_iff_ne]; omega
                clear hy ha
                go_wp2_with (go_at_call 139; refine HIj.out.mono ?_; rintro e wx ⟨rfl, hw⟩; subst wx)
                go_ret
                rw [HD.out, all_no HJ.out HB2.out]
                exact ⟨rfl, HR.out.2.1⟩
          · have hjn : j = n := by omega
            subst hjn
            rw [all_yes HR.out.2.2] at HD
            clear hlt hj
            go_wp2_with fail
            go_ret
            rw [HD.out]
            exact ⟨rfl, HR.out.2.1⟩
end Go.Proofs.YtildhjiddidghaaGreatDoor
namespace Go.Proofs.YtildhjiddidghaaGreatDoor
open Go.RowKit
set_option maxHeartbeats 4000000
set_option maxRecDepth 100000
def DS.hit (d : DS) (k j q : Nat) : Bool := (psE (d.w k j) == 0) && ((ps (d.w k j)).s && (((ps (d.w k j)).p.toNat == q) && d.isOf q 5 (d.at k).o))
def DS.mc1 (d : DS) (k : Nat) : Nat → Nat → Nat
  | 0, _ => 0
  | j + 1, q => d.mc1 k j q + (if d.hit k j q = true then 1 else 0)
def DS.mc (d : DS) : Nat → Nat → Nat
  | 0, _ => 0
  | k + 1, q => d.mc k q + (if (d.at k).t = 4 then d.mc1 k 1024 q else 0)
def DS.mcL (d : DS) (k : Nat) : List Nat := (List.range d.m.ns).map (d.mc k)
def DS.mcI (d : DS) (k j : Nat) : List Nat := (List.range d.m.ns).map (fun q => d.mc k q + d.mc1 k j q)
theorem mcI_zero (d : DS) (k : Nat) : d.mcI k 0 = d.mcL k := by simp [DS.mcI, DS.mcL, DS.mc1]
theorem mcL_skip {d : DS} {k : Nat} (h : (d.at k).t ≠ 4) : d.mcL (k + 1) = d.mcL k := by
  unfold DS.mcL
  apply List.map_congr_left
  intro q _
  simp [DS.mc, h]
theorem mcL_next {d : DS} {k : Nat} (h : (d.at k).t = 4) : d.mcL (k + 1) = d.mcI k 1024 := by
  unfold DS.mcL DS.mcI
  apply List.map_congr_left
  intro q _
  simp [DS.mc, h]
theorem mcI_len (d : DS) (k j : Nat) : (d.mcI k j).length = d.m.ns := by simp [DS.mcI]
theorem mcI_at (d : DS) (k j q : Nat) (hq : q < d.m.ns) : (d.mcI k j)[q]? = some (d.mc k q + d.mc1 k j q) := by
  rw [DS.mcI, List.getElem?_map, List.getElem?_range hq]; rfl
theorem mcI_skip {d : DS} {k j : Nat} (h : ∀ q, d.hit k j q = false) : d.mcI k (j + 1) = d.mcI k j := by
  unfold DS.mcI
  apply List.map_congr_left
  intro q _
  simp [DS.mc1, h]
theorem mcI_hit {d : DS} {k j q : Nat} (h : d.hit k j q = true) (ho : ∀ i, i ≠ q → d.hit k j i = false) (hn : q < d.m.ns) : d.mcI k (j + 1) = (d.mcI k j).set q (d.mc k q + d.mc1 k j q + 1) := by
  apply List.ext_getElem?
  intro i
  rw [List.getElem?_set]
  by_cases hi : i < d.m.ns
  · rw [mcI_at d k (j + 1) i hi]
    by_cases e : q = i
    · subst e
      rw [if_pos rfl, if_pos (by rw [mcI_len]; exact hi)]
      simp [DS.mc1, h]
      omega
    · rw [if_neg e, mcI_at d k j i hi]
      simp [DS.mc1, ho i (fun h => e h.symm)]
  · rw [List.getElem?_eq_none (by rw [mcI_len]; omega)]
    by_cases e : q = i
    · omega
    · rw [if_neg e, List.getElem?_eq_none (by rw [mcI_len]; omega)]
theorem mc1_le (d : DS) (k q : Nat) : ∀ n, d.mc1 k n q ≤ n
  | 0 => Nat.le_refl _
  | n + 1 => by
    have := mc1_le d k q n
    unfold DS.mc1
    split <;> omega
theorem mc_le (d : DS) (q : Nat) : ∀ n, d.mc n q ≤ n * 1024
  | 0 => Nat.le_refl _
  | n + 1 => by
    have := mc_le d q n
    have := mc1_le d n q 1024
    unfold DS.mc
    split <;> omega
theorem mcL_zero (d : DS) : ints (d.mcL 0) = List.replicate d.m.ns (.int .i64 0) := by
  rw [DS.mcL, ints, List.map_map, List.eq_replicate_iff]
  refine ⟨by simp, fun b hb => ?_⟩
  simp only [List.mem_map, List.mem_range, Function.comp_apply] at hb
  obtain ⟨q, _, rfl⟩ := hb
  rfl
structure CM (w wr : World) (gN g5 gW : Nat) (C : List Nat) (X : En) (L : List Int) : Prop where
  c : Cel wr gN 3 (ints C)
  e : Cel wr g5 92 X.cs
  l : Cel wr gW 22 (u32s L)
  b : Below w.heap.size w wr
  n : w.heap.size ≤ gN
  ne : gN ≠ g5
  nw : gN ≠ gW
theorem CM.on {w wr w' : World} {gN g5 gW : Nat} {C : List Nat} {X : En} {L : List Int} (h : CM w wr gN g5 gW C X L) (hb : Below wr.heap.size wr w') : CM w w' gN g5 gW C X L := ⟨h.c.on hb, h.e.on hb, h.l.on hb, below_on h.b hb, h.n, h.ne, h.nw⟩
theorem CM.put {w wr : World} {gN g5 gW : Nat} {C : List Nat} {X : En} {L : List Int} (h : CM w wr gN g5 gW C X L) (q a : Nat) : CM w (wr.setCell ⟨gN, q, none⟩ (.int .i64 (a : Int))) gN g5 gW (C.set q a) X L := by
  have hb : ButL [gN] wr (wr.setCell ⟨gN, q, none⟩ (.int .i64 (a : Int))) := .setCell _ _ _ _ (by simp)
  refine ⟨by rw [← ints_set]; exact h.c.setCell q _, h.e.but hb (by rw [List.mem_singleton]; exact fun e => h.ne e.symm), h.l.but hb (by rw [List.mem_singleton]; exact fun e => h.nw e.symm), h.b.trans (hb.below (B := w.heap.size) (fun k hk => by rw [List.mem_singleton] at hk; have := h.n; omega) h.b.size), h.n, h.ne, h.nw⟩
theorem countMaps_v (w : World) (v : Vp) (p : Dp) (d : DS) (h : VS w v p d) (hu : d.m.U) :
    Calls Tryz.prog 92 #[.pointer (some ⟨v.g, 0, none⟩)] w fun e w' => ∃ gN, e = .returned (.slice (some ⟨gN, 0, none⟩) d.m.ns d.m.ns) ∧ Cel w' gN 3 (ints (d.mcL d.m.ns)) ∧ w.heap.size ≤ gN ∧ Below w.heap.size w w' := by
  have HV := hid h
  have HWd := hid (fun w h k => words_v w v p d h ((k : Nat) : Int) 0 1024 (by decide))
  have HPs := hid (fun w k j => ps_any w (d.w k j) (hu.word true (k : Int) (j : Int)).1 (hu.word true (k : Int) (j : Int)).2)
  have HNat := hid (fun k j => ps_nat (u := d.w k j) (hu.word true (k : Int) (j : Int)).1)
  have HI := hid (fun w h q o => isOf_v w v p d h q 5 o)
  have HC2 := hid (fun w (h : VS w v p d) => h.c2)
  have x2 := h.c2
  have HRg := hid (fun w (h : VS w v p d) k hk => h.rng k hk)
  have HAt := hid (fun k j hj => wds_at d k 1024 j hj)
  have HN := hid h.db.ok.n64
  have HH : Hid (∀ k j q, d.hit k j q = ((psE (d.w k j) == 0) && ((ps (d.w k j)).s && (((ps (d.w k j)).p.toNat == q) && d.isOf q 5 (d.at k).o)))) := hid (fun _ _ _ => rfl)
  have HLt := hid (fun q o => @isOf_lt d q 5 o)
  have HL0 := hid (mcL_zero d)
  have HI0 := hid (mcI_zero d)
  have HLs := hid (fun k => @mcL_skip d k)
  have HLn := hid (fun k => @mcL_next d k)
  have HIs := hid (fun k j => @mcI_skip d k j)
  have HIh := hid (fun k j q => @mcI_hit d k j q)
  have HIa := hid (fun k j q hq => ints_at _ q _ (mcI_at d k j q hq))
  have HLe := hid (fun k j q => And.intro (mc_le d q k) (mc1_le d k q j))
  have HOk := hid (fun k hk => (h.db.ok.onat (k := k) hk))
  clear h hu
  generalize hn : d.m.ns = n at *
  clear hn
  simp only [Nat.zero_add] at HWd
  go_enter Tryz.func92, Tryz.ntmps92
  go_upto_region 2 with (at_make; refine wpList_make_cel rfl _ _ 96 3 rfl (.int .i64 0) 8 under96 info3 rfl n _ _ rfl rfl rfl rfl (by have := HN.out; omega) (by have := HN.out; omega) ?_; intro w2 hc hb hs; have C2 := hid (And.intro hc hb); clear hc hb hs)
  clear x2
  have x2 := HC2.out _ (HV.out.on C2.out.2)
  go_upto_region 3 with fail
  clear x2
  generalize hg : w.heap.size = gN at C2 ⊢
  have HG := hid hg
  clear hg
  go_loopw [21] (fun i wr => ∃ j : Nat, j ≤ n ∧ i = .int .i64 (j : Int) ∧ Hid (Cel wr gN 3 (ints (d.mcL j)) ∧ Below w.heap.size w wr)) (fun i _ => n - (intOf i).toNat)
  case atStart => exact ⟨0, Nat.zero_le _, rfl, hid ⟨by rw [HL0.out]; exact C2.out.1, by rw [HG.out]; exact C2.out.2⟩⟩
  case round =>
    obtain ⟨j, hj, rfl, HQ⟩ := hrel
    clear C2
    by_cases hlt : j < n
    · have q1 : (j : Int) < (n : Int) := by omega
      have q64 := HN.out
      have q2 : (j : Int) ≤ 64 := by omega
      have HJ := hid hlt
      have HVj := hid (HV.out.on HQ.out.2)
      have HRj := hid (HRg.out _ HVj.out j hlt)
      have HSj := hid (HLs.out j)
      have HNj := hid (HLn.out j)
      have HHj := hid (HH.out j)
      have H5 : Hid (gN < wr.heap.size) := hid HQ.out.1.lt
      clear hlt hj q64
      generalize d.at j = X at *
      go_upto_region 5 with (first | (refine wpList_load_mid rfl 92 _ rfl v.ge (j * 5) rfl _ _ HRj.out underE rfl (by rw [sizeE]; rfl) ?_) | (refine wpList_store_st rfl 92 _ _ rfl wr.heap.size X.cs rfl rfl (Cel.new wr 92 En.zero.cs) sizeE rfl rfl ?_; intro w3 hc hb hs; have hbb := (below_one wr (.cells En.zero.cs.toArray 92)).trans (hb.below (B := wr.heap.size) (by simp) (by simp)); have K3 := hid (And.intro hc (And.intro (HQ.out.1.on hbb) (below_on HQ.out.2 hbb))); clear hc hb hs hbb))
      clear HRj
      generalize wr.heap.size = g5 at *
      have y0 : w3.cell? ⟨g5, 0, none⟩ = some (.int .i64 X.t) := K3.out.1.cell 0
      by_cases ht : X.t = 4
      · rw [ht] at y0
        have HN2 := hid (HNj.out ht)
        have HW3 := hid (HWd.out _ (HV.out.on K3.out.2.2) j)
        clear HSj HNj
        go_upto_region 7 with (go_at_call 137; refine HW3.out.mono ?_; rintro e w4 ⟨gW, rfl, hc, hgw, hb⟩; have K4 := hid (CM.mk (K3.out.2.1.on hb) (K3.out.1.on hb) hc (below_on K3.out.2.2 hb) (by have := HG.out; omega) (by have := H5.out; omega) (by have := H5.out; have := K3.out.1.lt; omega)); clear hc hgw hb)
        rw [← HI0.out] at K4
        clear y0 K3 HW3
        go_loopw [33] (fun i wr => ∃ m : Nat, m ≤ 1024 ∧ i = .int .i64 (m : Int) ∧ Hid (CM w wr gN g5 gW (d.mcI j m) X (d.wds (j : Int) 0 1024))) (fun i _ => 1024 - (intOf i).toNat)
        case atStart => exact ⟨0, Nat.zero_le _, rfl, K4⟩
        case round =>
          obtain ⟨m, hm, rfl, HK⟩ := hrel
          clear K4 HQ
          by_cases hlt : m < 1024
          · have q3 : (m : Int) < 1024 := by omega
            have z0 : wr.cell? ⟨gW, m, none⟩ = some (.int .u32 (d.w j m)) := by rw [HK.out.l.cell]; exact HAt.out j m hlt
            have HPj := hid (HPs.out · j m)
            have HNm := HNat.out j m
            have HHm := hid (HHj.out m)
            have HSm := hid (HIs.out j m)
            have HTm := hid (HIh.out j m)
            have HAm := hid (HIa.out j m)
            have HLm := hid (HLe.out j m)
            have HM := hid hlt
            clear hlt hm
            generalize d.hit j m = hh at *
            generalize psE (d.w j m) = E at *
            generalize hMM : ps (d.w j m) = M at *
            clear hMM
            generalize d.w j m = u at *
            obtain ⟨pn, hpn⟩ : ∃ pn, M.p.toNat = pn := ⟨_, rfl⟩
            rw [hpn] at HNm HHm
            simp only [Mp.v] at HPj
            rw [HNm] at HPj
            clear HNm hpn
            go_upto_region 10 with (first | (go_at_call 138; refine (HPj.out _).mono ?_; rintro e w5 ⟨rfl, hb⟩; have K5 := hid (HK.out.on hb); clear hb z0) | (refine wpList_store_st rfl 180 _ _ rfl w5.heap.size [.bool M.s, .int .i64 (pn : Int), .bool M.wr, .bool M.ex] rfl rfl (Cel.new w5 180 [.bool false, .int .i64 0, .bool false, .bool false]) size180 rfl rfl ?_; intro w6 hc hb hs; have hbb := (below_one w5 (.cells #[.bool false, .int .i64 0, .bool false, .bool false] 180)).trans (hb.below (B := w5.heap.size) (by simp) (by simp)); have K6 := hid (And.intro (K5.out.on hbb) hc); clear hc hb hs hbb K5))
            generalize w5.heap.size = g8 at *
            have y0 : w6.cell? ⟨g8, 0, none⟩ = some (.bool M.s) := K6.out.2.cell 0
            have y1 : w6.cell? ⟨g8, 1, none⟩ = some (.int .i64 (pn : Int)) := K6.out.2.cell 1
            have y2 : w6.cell? ⟨g5, 1, none⟩ = some (.int .i64 X.o) := K6.out.1.e.cell 1
            by_cases hE : E = 0
            · subst hE
              cases hs : M.s
              · rw [hs] at y0
                have HS := hid (HSm.out (fun q => by rw [HHm.out, hs]; rfl))
                go_wp2_with fail
                go_roundw
                case measure => have := HM.out; simp [intOf] <;> omega
                case rel => exact ⟨m + 1, HM.out, by simp, hid (by rw [HS.out]; exact K6.out.1)⟩
              · rw [hs] at y0
                have HIj := hid (HI.out _ (HV.out.on K6.out.1.b) pn X.o)
                cases hy : d.isOf pn 5 X.o
                · rw [hy] at HIj
                  have HS := hid (HSm.out (fun q => by
                    rw [HHm.out, hs]
                    by_cases e : pn = q
                    · rw [← e, hy]; simp
                    · simp [e]))
                  clear hy
                  go_wp2_with (go_at_call 139; refine HIj.out.mono ?_; rintro e wx ⟨rfl, hw⟩; subst wx)
                  go_roundw
                  case measure => have := HM.out; simp [intOf] <;> omega
                  case rel => exact ⟨m + 1, HM.out, by simp, hid (by rw [HS.out]; exact K6.out.1)⟩
                · have hpn := HLt.out pn X.o hy
                  rw [hy] at HIj
                  have HS := hid (HTm.out pn (by rw [HHm.out, hs, hy]; simp) (fun q hq => by
                    rw [HHm.out, hs]
                    have : ¬ pn = q := fun e => hq e.symm
                    simp [this]) hpn)
                  clear hy
                  have z1 : w6.cell? ⟨gN, pn, none⟩ = some (.int .i64 ((d.mc j pn + d.mc1 j m pn : Nat) : Int)) := by rw [K6.out.1.c.cell]; exact HAm.out pn hpn
                  have z2 := K6.out.1.c.free pn
                  have hle := HLm.out pn
                  have hmm := HM.out
                  have q4 : (pn : Int) < (n : Int) := by omega
                  have q5 : ((d.mc j pn + d.mc1 j m pn : Nat) : Int) ≤ 1000000 := by omega
                  have K7 := hid (K6.out.1.put pn (d.mc j pn + d.mc1 j m pn + 1))
                  rw [← HS.out] at K7
                  have hcs : ((d.mc j pn + d.mc1 j m pn + 1 : Nat) : Int) = ((d.mc j pn + d.mc1 j m pn : Nat) : Int) + 1 := by omega
                  rw [hcs] at K7
                  have kw : IntKind.wrap .i64 (((d.mc j pn + d.mc1 j m pn : Nat) : Int) + 1) = ((d.mc j pn + d.mc1 j m pn : Nat) : Int) + 1 := wr64 _ (by omega) (by omega)
                  clear hcs hle hmm hpn
                  generalize ((d.mc j pn + d.mc1 j m pn : Nat) : Int) = a at *
                  go_wp2_with (go_at_call 139; refine HIj.out.mono ?_; rintro e wx ⟨rfl, hw⟩; subst wx)
                  go_roundw
                  case measure => have := HM.out; simp [intOf] <;> omega
                  case rel => exact ⟨m + 1, HM.out, by simp, K7⟩
            · have hE' : (E == 0) = false := by simpa using hE
              have HS := hid (HSm.out (fun q => by rw [HHm.out, hE']; rfl))
              clear hE
              go_wp2_with fail
              go_roundw
              case measure => have := HM.out; simp [intOf] <;> omega
              case rel => exact ⟨m + 1, HM.out, by simp, hid (by rw [HS.out]; exact K6.out.1)⟩
          · have hm4 : m = 1024 := by omega
            subst hm4
            clear hlt hm
            go_wp2_with fail
            go_roundw
            case measure => have := HJ.out; simp [intOf] <;> omega
            case rel => exact ⟨j + 1, HJ.out, by simp, hid ⟨by rw [HN2.out]; exact HK.out.c, HK.out.b⟩⟩
      · have ht' : (X.t != 4) = true := by simpa using ht
        have HS := hid (HSj.out ht)
        clear ht
        go_wp2_with fail
        go_roundw
        case measure => have := HJ.out; simp [intOf] <;> omega
        case rel => exact ⟨j + 1, HJ.out, by simp, hid ⟨by rw [HS.out]; exact K3.out.2.1, K3.out.2.2⟩⟩
    · have hjn : j = n := by omega
      subst hjn
      clear hlt hj
      go_wp2_with fail
      go_ret
      exact ⟨gN, rfl, HQ.out.1, by have := HG.out; omega, HQ.out.2⟩
end Go.Proofs.YtildhjiddidghaaGreatDoor
