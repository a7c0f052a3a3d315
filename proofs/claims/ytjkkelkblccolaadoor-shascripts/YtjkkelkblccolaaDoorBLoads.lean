import Derived.Test.YtjkkelkblccolaaDoorBench
namespace Go.Proofs.YtjkkelkblccolaaDoor
open Go.RowKit

theorem Cel.range {w : World} {g : Nat} {t : TypeId} {cs : List Value} (h : Cel w g t cs) : w.rangeAt g 0 cs := fun j v hv => by rw [Nat.zero_add, h.cell j, hv]
theorem Mine.cel {w : World} {g : Nat} {k : IntKind} {e : TypeId} {L : List Int} (h : Mine w g k e L) : ∃ cs, Cel w g e cs := by
  obtain ⟨cs, hc, _⟩ := h
  exact ⟨cs, hc⟩
theorem wds_take {ys : List Int} (h : Wds ys) (n : Nat) : Wds (ys.take n) := fun i => by
  by_cases hi : i < n
  · rw [getD_take hi]; exact h i
  · simp only [List.getD_eq_getElem?_getD, List.getElem?_take, if_neg hi]; simp
theorem wds_waitL {ys : List Int} (h : Wds ys) : Wds (waitL ys) := fun i => by
  unfold waitL
  by_cases hi : i < numL ys % 16
  · rw [getD_take hi, getD_drop]; exact h _
  · simp only [List.getD_eq_getElem?_getD, List.getElem?_take, if_neg hi]; simp
attribute [-simp] Tryd.isAgg59 Tryd.sizeOf59 Tryd.zeroValue59 Tryd.isAgg27 Tryd.sizeOf27 Tryd.zeroValue27 Tryd.isAgg62 Tryd.sizeOf62 Tryd.zeroValue62
set_option maxRecDepth 20000 in
set_option maxHeartbeats 8000000 in
theorem loads_no (W w0 : World) (gb k : Nat) (ps : List Value) (rs : List (List Value)) (B0 : Ben W w0 gb 6 ps rs) (ao : Option Addr) (n c : Nat) (xs : List Int) (hx : xs.length = n) (wx : Wds xs) (hat : At w0 .u32 ao xs) (hn : 4 * n ≤ 140737488351232) (hno : ¬ (n = 26 ∧ LoadOk xs)) :
    Calls Tryd.prog 54 #[.pointer (some ⟨gb, 0, none⟩), .int .i64 (k : Int), .slice ao n c] w0 fun e w => e = .returned (.bool true) ∧ Ben W w gb 6 ps rs := by
  obtain ⟨Z, hZ⟩ : ∃ Z : List Value, Z = zero59 := ⟨_, rfl⟩
  have hz : ∀ w, (zeroValue 59).run Tryd.prog w = .ok (.agg Z.toArray) w := fun w => by rw [Tryd.zeroValue59, hZ]; rfl
  have hZl : Z.length = 10 := by rw [hZ]; rfl
  have HZ1 : Hid (∀ u ∈ Z, u.oneCell' = true) := by unfold Hid; rw [hZ]; exact zero59_one
  have L23 : Hid (∀ w b cc, w0.heap.size ≤ b → b < w.heap.size → Row w .u32 b 0 xs → n ≤ cc → Calls Tryd.prog 23 #[.slice (some ⟨b, 0, none⟩) n cc] w fun e w' => e = .returned (.tuple #[.pointer none, .int .i64 20]) ∧ Below w.heap.size w w') := fun w b cc _ hb hr hcc => by
    by_cases h26 : n = 26
    · subst h26
      refine (load_any w b 0 cc xs hx wx hr hb hcc).mono ?_
      rintro e w' ⟨hw, ⟨h, _⟩ | ⟨_, rfl⟩⟩
      · exact absurd ⟨rfl, h⟩ hno
      · exact ⟨rfl, hw⟩
    · refine (load_len w (some ⟨b, 0, none⟩) n cc h26).mono ?_
      rintro e w' ⟨rfl, rfl⟩
      exact ⟨rfl, Below.refl _ _⟩
  have L57 : Hid (∀ w, Below w0.heap.size w0 w → Calls Tryd.prog 57 #[.slice ao n c] w fun e w' => e = .returned (.tuple #[.agg Z.toArray, .int .i64 20]) ∧ Below w.heap.size w w') := fun w hw => by
    rw [hZ]
    by_cases h26 : n = 26
    · subst h26
      rcases hat with h0 | ⟨b, off, rfl, hb, hr⟩
      · rw [h0] at hx; simp at hx
      · have := hw.size
        refine (rload_any w b off c xs hx wx (hr.below hw hb) (by omega)).mono ?_
        rintro e w' ⟨hw', ⟨h, _⟩ | ⟨_, rfl⟩⟩
        · exact absurd ⟨rfl, h⟩ hno
        · exact ⟨rfl, hw'⟩
    · exact rload_len w ao n c h26
  clear hZ
  have i1 : (n : Int) ≤ 35184372087808 := by omega
  have HAT : Hid (At w0 .u32 ao xs) := hat
  have HB0 : Hid (Ben W w0 gb 6 ps rs) := B0
  clear hat B0 wx hno
  go_enter Tryd.func54, Tryd.ntmps54
  go_wp2_with fail
  refine (lent_mine w0 ao n c xs hx HAT.out hn).mono ?_
  rintro e w1 ⟨gl, cl, rfl, hcl, hgl, M1, hb1⟩
  have c1 : (n : Int) ≤ (cl : Int) := by omega
  go_wp2_with fail
  refine (L23.out w1 gl cl hgl M1.lt M1.row.head (by omega)).mono ?_
  rintro e w2 ⟨rfl, hb2⟩
  have M2 := M1.on hb2
  have hw2 := hb1.trans (hb2.mono hb1.size)
  clear M1 hb1 hb2
  go_wp2_with fail
  refine (L57.out w2 hw2).mono ?_
  rintro e w3 ⟨rfl, hb3⟩
  have M3 := M2.on hb3
  have hw3 := hw2.trans (hb3.mono hw2.size)
  clear M2 hw2 hb3
  have CN : Hid (Cel (w3.alloc (Obj.cells Z.toArray 59)) w3.heap.size 59 Z) := heap_alloc_new _ _
  go_wp2_with (first | (refine wpList_store_cel rfl 59 _ _ rfl w3.heap.size Z rfl rfl CN.out (by rw [hZl]; exact size59) rfl HZ1.out ?_; intro w4 hc4 hb4 hs4))
  have hb34 : Below w3.heap.size w3 w4 := (below_one w3 _).trans (hb4.below (Nat.le_refl _) (by simp))
  have M4 := M3.on hb34
  have hw4 := hw3.trans (hb34.mono hw3.size)
  clear M3 hw3 hb34 hb4 hs4 hc4 CN
  refine (num_any w4 20).mono ?_
  rintro e w' ⟨rfl, rfl⟩
  go_wp2_with fail
  refine (whole_yes w4 (some ⟨gl, 0, none⟩) cl ao n c xs hx M4.at (HAT.out.below hw4) hn).mono ?_
  rintro e w5 ⟨rfl, hb5⟩
  have M5 := M4.on hb5
  have hw5 := hw4.trans (hb5.mono hw4.size)
  have hlen : (xs ++ markW 120).length = n + 120 := by rw [List.length_append, hx, markW_length]
  clear M4 hw4 hb5
  generalize xs ++ markW 120 = L0 at *
  have M5' : Hid (Mine w5 gl .u32 26 L0) := M5
  have HW5 : Hid (Below w0.heap.size w0 w5) := hw5
  clear M5 hw5
  go_wp2_with fail
  go_loopw [12] (fun i wr => ∃ (t : Nat) (L : List Int), t ≤ n + 120 ∧ i = .int .i64 (t : Int) ∧ L.length = n + 120 ∧ Mine wr gl .u32 26 L ∧ Below w0.heap.size w0 wr) (fun i _ => n + 120 - (intOf i).toNat)
  case atStart => exact ⟨0, L0, Nat.zero_le _, rfl, hlen, M5'.out, HW5.out⟩
  case round =>
    clear M5' HW5
    obtain ⟨t, L, ht, rfl, hLl, M, hb⟩ := hrel
    by_cases hlt : t < n + 120
    · have ct := M.cell t (by omega)
      have ft := M.free t
      have MN : Hid (Mine (wr.setCell ⟨gl, t, none⟩ (.int .u32 5)) gl .u32 26 (L.set t 5)) := M.set t 5
      have BN : Hid (Below w0.heap.size w0 (wr.setCell ⟨gl, t, none⟩ (.int .u32 5))) := hb.setCell (show w0.heap.size ≤ gl from hgl) _
      have q0 : (t : Int) < (n : Int) + 120 := by omega
      clear M hb
      go_wp2
      go_roundw
      case rel => exact ⟨t + 1, _, by omega, by go_num, by rw [List.length_set]; exact hLl, MN.out, BN.out⟩
      case measure => simp [intOf]; omega
    · obtain rfl : t = n + 120 := by omega
      have BN : Hid (Ben W wr gb 6 ps rs) := HB0.out.below hb
      clear M hb
      go_wp2
      go_ret
      exact ⟨rfl, BN.out⟩
set_option maxRecDepth 20000 in
set_option maxHeartbeats 8000000 in
theorem loads_yes (W w0 : World) (gb k : Nat) (ps : List Value) (rs : List (List Value)) (B0 : Ben W w0 gb 6 ps rs) (ao : Option Addr) (n c : Nat) (xs : List Int) (hx : xs.length = n) (wx : Wds xs) (hat : At w0 .u32 ao xs) (hk : k < 6) (hn26 : n = 26) (hok : LoadOk xs) :
    Calls Tryd.prog 54 #[.pointer (some ⟨gb, 0, none⟩), .int .i64 (k : Int), .slice ao n c] w0 fun e w => e = .returned (.bool true) ∧ ∃ ps' rs', Ben W w gb 6 ps' rs' := by
  have hn : 4 * n ≤ 140737488351232 := by omega
  obtain ⟨Z, hZ⟩ : ∃ Z : List Value, Z = zero59 := ⟨_, rfl⟩
  have hz : ∀ w, (zeroValue 59).run Tryd.prog w = .ok (.agg Z.toArray) w := fun w => by rw [Tryd.zeroValue59, hZ]; rfl
  have hZl : Z.length = 10 := by rw [hZ]; rfl
  have HZ1 : Hid (∀ u ∈ Z, u.oneCell' = true) := by unfold Hid; rw [hZ]; exact zero59_one
  have L23 : Hid (∀ w b cc, b < w.heap.size → Row w .u32 b 0 xs → n ≤ cc → Calls Tryd.prog 23 #[.slice (some ⟨b, 0, none⟩) n cc] w fun e w' => ∃ g, w.heap.size ≤ g ∧ e = .returned (.tuple #[.pointer (some ⟨g, 0, none⟩), .int .i64 0]) ∧ Dig w' g (xs.take 8) (numL xs) (waitL xs) ∧ Below w.heap.size w w') := fun w b cc hb hr hcc => by
    subst hn26
    refine (load_any w b 0 cc xs hx wx hr hb hcc).mono ?_
    rintro e w' ⟨hw, ⟨_, g, hg, rfl, D⟩ | ⟨h, _⟩⟩
    · exact ⟨g, hg, rfl, D, hw⟩
    · exact absurd hok h
  have L57 : Hid (∀ w, Below w0.heap.size w0 w → Calls Tryd.prog 57 #[.slice ao n c] w fun e w' => ∃ ao' c', e = .returned (.tuple #[.agg (rdC (xs.take 8) (.slice ao' (waitL xs).length c') (numL xs : Int)).toArray, .int .i64 0]) ∧ (waitL xs).length ≤ c' ∧ WatN w.heap.size w' ao' (waitL xs) ∧ Below w.heap.size w w') := fun w hw => by
    subst hn26
    rcases hat with h0 | ⟨b, off, rfl, hb, hr⟩
    · rw [h0] at hx; simp at hx
    · have := hw.size
      refine (rload_any w b off c xs hx wx (hr.below hw hb) (by omega)).mono ?_
      rintro e w' ⟨hw', ⟨_, ao', c', rfl, h1, h2⟩ | ⟨h, _⟩⟩
      · exact ⟨ao', c', rfl, h1, h2, hw'⟩
      · exact absurd hok h
  have WW : Hid (Wds (waitL xs) ∧ Wds (xs.take 8)) := ⟨wds_waitL wx, wds_take wx 8⟩
  clear hZ
  have i1 : (n : Int) ≤ 35184372087808 := by omega
  have HAT : Hid (At w0 .u32 ao xs) := hat
  have HB0 : Hid (Ben W w0 gb 6 ps rs) := B0
  clear hat B0 wx hok hn26
  go_enter Tryd.func54, Tryd.ntmps54
  go_wp2_with fail
  refine (lent_mine w0 ao n c xs hx HAT.out hn).mono ?_
  rintro e w1 ⟨gl, cl, rfl, hcl, hgl, M1, hb1⟩
  have c1 : (n : Int) ≤ (cl : Int) := by omega
  go_wp2_with fail
  refine (L23.out w1 gl cl M1.lt M1.row.head (by omega)).mono ?_
  rintro e w2 ⟨g, hg, rfl, D2, hb2⟩
  have M2 := M1.on hb2
  have hw2 := hb1.trans (hb2.mono hb1.size)
  have hg0 : w0.heap.size ≤ g := by have := hb1.size; omega
  have hgl2 : gl < w2.heap.size := M2.lt
  clear M1 hb1 hb2 hg
  go_wp2_with fail
  refine (L57.out w2 hw2).mono ?_
  rintro e w3 ⟨ao', c', rfl, hc', wat3, hb3⟩
  have M3 := M2.on hb3
  have D3 := D2.below hb3 D2.lt
  have hw3 := hw2.trans (hb3.mono hw2.size)
  clear M2 D2 hw2 hb3
  have D3l := D3.al
  obtain ⟨R, hR⟩ : ∃ R, R = rdC (xs.take 8) (.slice ao' (waitL xs).length c') (numL xs : Int) := ⟨_, rfl⟩
  have hRl : R.length = 10 := by rw [hR]; exact rdC_length _ _ _ D3l
  have HR1 : Hid (∀ u ∈ R, u.oneCell' = true) := by unfold Hid; rw [hR]; exact rdC_one _ _ _ _ _
  have HR : Hid (R = rdC (xs.take 8) (.slice ao' (waitL xs).length c') (numL xs : Int)) := hR
  rw [← hR]
  clear hR
  have CN : Hid (Cel (w3.alloc (Obj.cells Z.toArray 59)) w3.heap.size 59 Z) := heap_alloc_new _ _
  go_wp2_with (first | (refine wpList_store_cel rfl 59 _ _ rfl w3.heap.size R rfl rfl CN.out (by rw [hRl]; exact size59) (by rw [hZl, hRl]) HR1.out ?_; intro w4 hc4 hb4 hs4))
  have hb34 : Below w3.heap.size w3 w4 := (below_one w3 _).trans (hb4.below (Nat.le_refl _) (by simp))
  have M4 := M3.on hb34
  have D4 := D3.below hb34 D3.lt
  have wat4 := wat3.below hb34
  have hw4 := hw3.trans (hb34.mono hw3.size)
  have hge : gl < w3.heap.size := M3.lt
  have hge0 := hw3.size
  clear M3 D3 wat3 hw3 hb34 hb4 hs4 CN
  generalize w3.heap.size = ge at *
  refine (num_any w4 0).mono ?_
  rintro e w' ⟨rfl, rfl⟩
  go_wp2_with fail
  refine (whole_yes w4 (some ⟨gl, 0, none⟩) cl ao n c xs hx M4.at (HAT.out.below hw4) hn).mono ?_
  rintro e w5 ⟨rfl, hb5⟩
  have M5 := M4.on hb5
  have D5 := D4.below hb5 D4.lt
  have wat5 := wat4.below hb5
  have C5 := hc4.below hb5 hc4.lt
  have hw5 := hw4.trans (hb5.mono hw4.size)
  have hlen : (xs ++ markW 120).length = n + 120 := by rw [List.length_append, hx, markW_length]
  clear M4 D4 wat4 hc4 hw4 hb5
  generalize xs ++ markW 120 = L0 at *
  have F5 : Hid (Mine w5 gl .u32 26 L0 ∧ Dig w5 g (xs.take 8) (numL xs) (waitL xs) ∧ WatN w2.heap.size w5 ao' (waitL xs) ∧ Cel w5 ge 59 R ∧ Below w0.heap.size w0 w5) := ⟨M5, D5, wat5, C5, hw5⟩
  clear M5 D5 wat5 C5 hw5
  go_wp2_with fail
  go_loopw [12] (fun i wr => ∃ (t : Nat) (L : List Int), t ≤ n + 120 ∧ i = .int .i64 (t : Int) ∧ L.length = n + 120 ∧ Mine wr gl .u32 26 L ∧ Dig wr g (xs.take 8) (numL xs) (waitL xs) ∧ WatN w2.heap.size wr ao' (waitL xs) ∧ Cel wr ge 59 R ∧ Below w0.heap.size w0 wr) (fun i _ => n + 120 - (intOf i).toNat)
  case atStart => exact ⟨0, L0, Nat.zero_le _, rfl, hlen, F5.out⟩
  case round =>
    clear F5
    obtain ⟨t, L, ht, rfl, hLl, M, D, wat, CE, hb⟩ := hrel
    obtain ⟨ms, hms⟩ := M.cel
    obtain ⟨ds, hds⟩ := D.cel
    have hne1 : g ≠ gl := cel_ne hds hms (by decide)
    have hne2 : ge ≠ gl := cel_ne CE hms (by decide)
    by_cases hlt : t < n + 120
    · have ct := M.cell t (by omega)
      have ft := M.free t
      have MN : Hid (Mine (wr.setCell ⟨gl, t, none⟩ (.int .u32 5)) gl .u32 26 (L.set t 5) ∧ Dig (wr.setCell ⟨gl, t, none⟩ (.int .u32 5)) g (xs.take 8) (numL xs) (waitL xs) ∧ WatN w2.heap.size (wr.setCell ⟨gl, t, none⟩ (.int .u32 5)) ao' (waitL xs) ∧ Cel (wr.setCell ⟨gl, t, none⟩ (.int .u32 5)) ge 59 R ∧ Below w0.heap.size w0 (wr.setCell ⟨gl, t, none⟩ (.int .u32 5))) :=
        ⟨M.set t 5, D.but (but_setCell _ _ _ _) hne1, wat.but (but_setCell _ _ _ _) (.inl hgl2), CE.but (but_setCell _ _ _ _) hne2, hb.setCell (show w0.heap.size ≤ gl from hgl) _⟩
      have q0 : (t : Int) < (n : Int) + 120 := by omega
      clear M D wat CE hb hms hds
      go_wp2
      go_roundw
      case rel => exact ⟨t + 1, _, by omega, by go_num, by rw [List.length_set]; exact hLl, MN.out⟩
      case measure => simp [intOf]; omega
    · obtain rfl : t = n + 120 := by omega
      have B := HB0.out.below hb
      have hgb := B.cel.lt
      have cp : wr.cell? ⟨gb, k, none⟩ = ps[k]? := by rw [B.cel.cell k, ben_ptr B.pl k hk]
      obtain ⟨pk, hpk⟩ : ∃ pk, ps[k]? = some pk := ⟨_, List.getElem?_eq_getElem (by rw [B.pl]; exact hk)⟩
      rw [hpk] at cp
      have fp := B.cel.free k
      have i2 : (k : Int) < 6 := by omega
      have C6 : Cel (wr.setCell ⟨gb, k, none⟩ (.pointer (some ⟨g, 0, none⟩))) gb 62 (benC (ps.set k (.pointer (some ⟨g, 0, none⟩))) rs) := by
        rw [← ben_setp B.pl k hk]
        exact B.cel.set k _
      have CE6 : Cel (wr.setCell ⟨gb, k, none⟩ (.pointer (some ⟨g, 0, none⟩))) ge 59 R := CE.but (but_setCell _ _ _ _) (cel_ne CE B.cel (by decide))
      have HC6 : Hid (Cel (wr.setCell ⟨gb, k, none⟩ (.pointer (some ⟨g, 0, none⟩))) gb 62 (benC (ps.set k (.pointer (some ⟨g, 0, none⟩))) rs)) := C6
      have HCE6 : Hid (Cel (wr.setCell ⟨gb, k, none⟩ (.pointer (some ⟨g, 0, none⟩))) ge 59 R) := CE6
      have HBB : Hid (Ben W wr gb 6 ps rs) := B
      have HDD : Hid (Dig wr g (xs.take 8) (numL xs) (waitL xs) ∧ Wat wr ao' (waitL xs)) := ⟨D, wat.wat⟩
      have hneg : ge ≠ gb := cel_ne CE B.cel (by decide)
      clear M D wat CE hb hms hds B C6 CE6 hpk
      go_wp2_with fail
      have hben := ben_length (ps := ps.set k (.pointer (some ⟨g, 0, none⟩))) (rs := rs) (by rw [List.length_set]; exact HBB.out.pl) HBB.out.ten HBB.out.rl
      have HBUT : Hid (But gb wr (wr.setCell ⟨gb, k, none⟩ (.pointer (some ⟨g, 0, none⟩)))) := but_setCell _ _ _ _
      generalize wr.setCell ⟨gb, k, none⟩ (.pointer (some ⟨g, 0, none⟩)) = w6 at *
      have HB6 : Hid (But gb w6 w6.drew) := Below.but (Below.refl _ _).drew
      have HC6' : Hid (Cel w6.drew gb 62 (benC (ps.set k (.pointer (some ⟨g, 0, none⟩))) rs)) := HC6.out
      have z59 := Tryd.sizeOf59
      have HS7 : Hid (But gb w6 (w6.drew.setRow gb (splice (benC (ps.set k (.pointer (some ⟨g, 0, none⟩))) rs) (6 + k * 10) R).toArray)) := HB6.out.trans (but_setRow _ _ _)
      have HBN : Hid (∃ ps' rs', Ben W (w6.drew.setRow gb (splice (benC (ps.set k (.pointer (some ⟨g, 0, none⟩))) rs) (6 + k * 10) R).toArray) gb 6 ps' rs') := by
        refine ⟨_, _, HBB.out.put hk (fun i hi => .inr hi) HDD.out.1 (by have := HB0.out.low.size; omega) (fun i hi _ => HB0.out.fresh g hg0 i hi) hc' HDD.out.2 WW.out (HBUT.out.trans HS7.out) ?_⟩
        rw [show 6 + k * 10 = 6 + 10 * k by omega]
        have := ben_store HC6'.out (by rw [List.length_set]; exact HBB.out.pl) HBB.out.rl HBB.out.ten hk hRl
        rw [HR.out] at this
        rw [HR.out]
        exact this
      clear cp fp
      refine wp_region_held_drew (S := fun w => But gb w6 w) (by kernel_rfl) HB6.out (fun hHeld => ?_)
      refine wpAnyH_take (i := 0) (oi := { dst := some 62, op := Op.move (Operand.tmp 0), type := 56, pos := "law.go:123", after := #[], guard := none }) (v := .pointer (some ⟨gb, 0, none⟩)) rfl (by kernel_rfl) (by kernel_rfl) (by kernel_rfl) (fun _ _ _ h => h) (Or.inl ⟨by rfl, by intro w hSw; go_simp⟩) (by assumption) ?_
      simp only [Act.put, List.setIfInBounds_toArray, List.set_cons_zero, List.set_cons_succ]
      refine wpAnyH_take (i := 1) (oi := { dst := some 63, op := Op.move (Operand.tmp 1), type := 3, pos := "law.go:123", after := #[], guard := none }) (v := .int .i64 (k : Int)) rfl (by kernel_rfl) (by kernel_rfl) (by kernel_rfl) (fun _ _ _ h => h) (Or.inl ⟨by rfl, by intro w hSw; go_simp⟩) (by assumption) ?_
      simp only [Act.put, List.setIfInBounds_toArray, List.set_cons_zero, List.set_cons_succ]
      refine wpAnyH_take (i := 2) (oi := { dst := some 64, op := Op.load 59 (Operand.tmp 10), type := 59, pos := "law.go:123", after := #[], guard := none }) (v := .agg R.toArray) rfl (by kernel_rfl) (by kernel_rfl) (by kernel_rfl) (fun _ _ _ h => h) (yieldsIf_load_mid (by rfl) _ _ rfl _ _ rfl R _ (fun w hSw => (HCE6.out.but hSw hneg).range) Tryd.underlying59 rfl (by rw [hRl]; exact size59)) (by assumption) ?_
      simp only [Act.put, List.setIfInBounds_toArray, List.set_cons_zero, List.set_cons_succ]
      refine wpAnyH_take (i := 3) (oi := { dst := some 65, op := Op.nilCheck (Operand.tmp 62), type := 0, pos := "law.go:123", after := #[{ on := 0, ground := Ground.data }], guard := none }) (v := .pointer (some ⟨gb, 0, none⟩)) rfl (by kernel_rfl) (by kernel_rfl) (by kernel_rfl) (fun _ _ _ h => h) (Or.inl ⟨by rfl, by intro w hSw; go_simp⟩) (by assumption) ?_
      simp only [Act.put, List.setIfInBounds_toArray, List.set_cons_zero, List.set_cons_succ]
      refine wpAnyH_take (i := 4) (oi := { dst := some 66, op := Op.fieldAddr 62 (Operand.tmp 65) 1, type := 0, pos := "law.go:123", after := #[{ on := 3, ground := Ground.data }], guard := none }) (v := .pointer (some ⟨gb, 6, none⟩)) rfl (by kernel_rfl) (by kernel_rfl) (by kernel_rfl) (fun _ _ _ h => h) (Or.inl ⟨by rfl, by intro w hSw; go_simp⟩) (by assumption) ?_
      simp only [Act.put, List.setIfInBounds_toArray, List.set_cons_zero, List.set_cons_succ]
      refine wpAnyH_take (i := 5) (oi := { dst := some 67, op := Op.indexAddr 60 (Operand.tmp 66) (Operand.tmp 63), type := 0, pos := "law.go:123", after := #[{ on := 4, ground := Ground.data }, { on := 1, ground := Ground.data }, { on := 0, ground := Ground.phase }, { on := 1, ground := Ground.phase }, { on := 2, ground := Ground.phase }], guard := none }) (v := .pointer (some ⟨gb, 6 + k * 10, none⟩)) rfl (by kernel_rfl) (by kernel_rfl) (by kernel_rfl) (fun _ _ _ h => h) (Or.inl ⟨by rfl, by intro w hSw; go_simp⟩) (by assumption) ?_
      simp only [Act.put, List.setIfInBounds_toArray, List.set_cons_zero, List.set_cons_succ]
      refine wpAnyH_ready (rs := [6]) (by kernel_rfl) (by simp) (AllReadyH.cons (o := { dst := none, op := Op.store 59 (Operand.tmp 67) (Operand.tmp 64), type := 0, pos := "law.go:123", after := #[{ on := 5, ground := Ground.data }, { on := 2, ground := Ground.data }, { on := 0, ground := Ground.phase }, { on := 1, ground := Ground.phase }, { on := 2, ground := Ground.phase }], guard := none }) rfl (fun K hK => ?_) AllReadyH.nil)
      rw [if_pos (by rfl)]
      refine wp_store_vals 59 _ _ rfl gb (6 + k * 10) R rfl rfl HC6'.out (by rw [hRl]; exact size59) (by rw [hRl, hben]; omega) HR1.out ?_
      refine hK.out _ _ HS7.out (fun hHeld => ?_)
      clear hK K
      simp only [Act.put]
      refine wpAnyH_done (by kernel_rfl) ?_ _
      clear hHeld
      go_wp2
      go_ret
      exact ⟨rfl, HBN.out⟩
end Go.Proofs.YtjkkelkblccolaaDoor
