import Derived.Test.YtjkkelkblccolaaDoorDigL
namespace Go.Proofs.YtjkkelkblccolaaDoor
open Go.RowKit

theorem nil_sums : sumB [] = sumW [] := by
  have := sumW_eq [] (fun i => by simp)
  exact this.symm

set_option maxRecDepth 20000 in
set_option maxHeartbeats 4000000 in
theorem pieces_any (W : World) (hT : Tab W) (h2 : 2 < W.heap.size) (aw : Option Addr) (n cw : Nat) (xs : List Int) (hx1 : xs.length = n) (hx3 : At W .u32 aw xs) (hx4 : n ≤ cw) (hx5 : n ≤ 35184372087808)
    (ac : Option Addr) (m cc : Nat) (cs : List Int) (hc1 : cs.length = m) (hc3 : At W .i64 ac cs) :
    Calls Tryd.prog 4 #[.slice aw n cw, .slice ac m cc] W fun e W' => e = .returned (.bool true) ∧ Below W.heap.size W W' := by
  have TW : Hid (∀ w, Below W.heap.size W w → Tab w ∧ 2 < w.heap.size) := fun w hw => ⟨hT.below hw h2, by have := hw.size; omega⟩
  have SUM : Hid (∀ w g L, Below W.heap.size W w → DigL w g L → Calls Tryd.prog 16 #[.pointer (some ⟨g, 0, none⟩)] w fun e w' => e = .returned (.agg ((sumW L).map (Value.int .u32)).toArray) ∧ Below w.heap.size w w') := fun w g L hw D => sumL_any w (TW.out w hw).1 (TW.out w hw).2 g L D
  have SB0 : Hid (∀ w, Below W.heap.size W w → Calls Tryd.prog 11 #[.slice none 0 0] w fun e w' => e = .returned (.agg ((sumW []).map (Value.int .u32)).toArray) ∧ Below w.heap.size w w') := fun w hw => by
    have := sumBytes_any w (TW.out w hw).1 (TW.out w hw).2 none 0 0 [] rfl (fun i => by simp) (.inl rfl) (by decide) (by decide)
    rw [← nil_sums]
    exact this
  have ABC : Hid (∀ w, Below W.heap.size W w → Calls Tryd.prog 10 #[] w fun e w' => e = .returned (.bool true) ∧ Below w.heap.size w w') := fun w hw => abc_any w (TW.out w hw).1 (TW.out w hw).2
  have e0 := eq27 (sumW []) (sumW []) (sumW_length _) (sumW_length _)
  rw [decide_eq_true rfl] at e0
  generalize hS0 : sumW [] = S0 at *
  go_enter Tryd.func4, Tryd.ntmps4
  go_wp2_with fail
  refine (newL_any W).mono ?_
  rintro e w1 ⟨g, hg, rfl, D1, hb1⟩
  go_wp2_with fail
  refine (SUM.out w1 g [] hb1 D1).mono ?_
  rintro e w2 ⟨rfl, hb2⟩
  rw [hS0]
  have hW2 := hb1.trans (hb2.mono hb1.size)
  have D2 := D1.below hb2
  go_wp2_with fail
  refine (SB0.out w2 hW2).mono ?_
  rintro e w3 ⟨rfl, hb3⟩
  have hW3 := hW2.trans (hb3.mono hW2.size)
  have D3 := D2.below hb3
  go_wp2_with fail
  refine (ABC.out w3 hW3).mono ?_
  rintro e w4 ⟨rfl, hb4⟩
  have hW4 := hW3.trans (hb4.mono hW3.size)
  have D4 := D3.below hb4
  clear hb2 hb3 hb4 hb1 D1 D2 D3 hW2 hW3 SB0 ABC e0 hS0
  go_wp2_with fail
  have wcs : ∀ w, Below W.heap.size W w → ∀ k, k < m → ∃ b off, ac = some ⟨b, off, none⟩ ∧ w.cell? ⟨b, off + k, none⟩ = some (.int .i64 (cs.getD k 0)) := fun w hw k hk => by
    rcases hc3 with h0 | ⟨b, off, h1, hb, hr⟩
    · rw [h0] at hc1; simp at hc1; omega
    · exact ⟨b, off, h1, (hr.below hw hb) k (by omega)⟩
  have WCS : Hid _ := wcs
  clear wcs
  go_loopw [6, 7, 8, 9] (fun at' i _ _ wr => ∃ a k : Nat, a ≤ n ∧ k ≤ m ∧ k ≤ 40 ∧ at' = .int .i64 (a : Int) ∧ i = .int .i64 (k : Int) ∧ DigL wr g (xs.take a) ∧ Below W.heap.size W wr) (fun _ i _ _ _ => 41 - (intOf i).toNat)
  case atStart => exact ⟨0, 0, Nat.zero_le _, Nat.zero_le _, Nat.zero_le _, rfl, rfl, by simpa using D4, hW4⟩
  case round =>
    clear D4 hW4
    obtain ⟨a, k, ha, hkm, hk40, rfl, rfl, D, hW⟩ := hrel
    have hal : (xs.take a).length = a := by rw [List.length_take]; omega
    by_cases hlt : k < m ∧ k < 40
    · obtain ⟨hk1, hk2⟩ := hlt
      have j1 : (k : Int) < (m : Int) := by omega
      have j2 : (k : Int) < 40 := by omega
      have j3 : (a : Int) ≤ (n : Int) := by omega
      have j4 : (n : Int) ≤ 35184372087808 := by omega
      obtain ⟨b, off, rfl, hcell⟩ := WCS.out wr hW k hk1
      generalize cs.getD k 0 = x at *
      have DD : Hid (DigL wr g (xs.take a)) := D
      have HW : Hid (Below W.heap.size W wr) := hW
      clear D hW
      go_wp2_with fail
      refine (cut_any _ x ((n : Int) - (a : Int)) (by omega) (by omega)).mono ?_
      rintro e w' ⟨⟨r, hr, rfl⟩, rfl⟩
      have j5 : (a : Int) ≤ (a : Int) + (r : Int) := by omega
      have j6 : (a : Int) + (r : Int) ≤ (cw : Int) := by omega
      have j7 : ((a : Int) + (r : Int)).toNat = a + r := by omega
      have j8 : a + r - a = r := by omega
      obtain ⟨az, haz⟩ : ∃ az, (if cw = a then aw else Option.map (fun x => x.add a) aw) = az := ⟨_, rfl⟩
      have hpl : ((xs.drop a).take r).length = r := by rw [List.length_take, List.length_drop]; omega
      have hta : xs.take a ++ (xs.drop a).take r = xs.take (a + r) := by rw [List.take_add]
      have AD : Hid (Calls Tryd.prog 18 #[.pointer (some ⟨g, 0, none⟩), .slice az r (cw - a)] wr fun e w5 => e = .returned (.tuple #[]) ∧ DigL w5 g (xs.take (a + r)) ∧ Below W.heap.size W w5) := by
        have hat := (hx3.cut n cw a r hx1 hx4 (by omega)).below HW.out
        rw [haz] at hat
        refine (addL_any wr (TW.out wr HW.out).1 (TW.out wr HW.out).2 g _ DD.out az r (cw - a) _ hpl hat (by omega) (by omega)).mono ?_
        rintro e w5 ⟨rfl, D5, hb5⟩
        rw [hta] at D5
        exact ⟨rfl, D5, HW.out.trans (hb5.below hg HW.out.size)⟩
      clear DD HW hcell
      go_wp2_with fail
      refine AD.out.mono ?_
      rintro e w5 ⟨rfl, D5, hW5⟩
      clear AD haz j5 j6 j7 j8
      have hal' : (xs.take (a + r)).length = a + r := by rw [List.length_take]; omega
      obtain ⟨a', ha'⟩ : ∃ a', a + r = a' := ⟨_, rfl⟩
      rw [ha'] at D5 hal'
      have k1 : (a : Int) + (r : Int) = (a' : Int) := by omega
      have k2 : a' ≤ n := by omega
      clear ha' hta hpl hr j3 hal
      go_wp2_with fail
      refine (copyL_any w5 g _ D5).mono ?_
      rintro e w6 ⟨gc, hgc, rfl, Dc, hb6⟩
      have hW6 := hW5.trans (hb6.mono hW5.size)
      have D6 := D5.below hb6
      have hgl := D5.lt
      clear D5 hb6 hW5
      have e1 := eq27 (sumW (xs.take a')) (sumW (xs.take a')) (sumW_length _) (sumW_length _)
      rw [decide_eq_true rfl] at e1
      have j3 : (a' : Int) ≤ (n : Int) := by omega
      have j5 : (a' : Int) ≤ (cw : Int) := by omega
      have LEN : Hid (∀ w, Below w6.heap.size w6 w → Calls Tryd.prog 20 #[.pointer (some ⟨g, 0, none⟩)] w fun e w' => e = .returned (.int .i64 (a' : Int)) ∧ w = w') := fun w hw => by
        have := lenL_any w g _ (D6.below hw)
        rwa [hal'] at this
      have SG : Hid (∀ w, Below w6.heap.size w6 w → Calls Tryd.prog 16 #[.pointer (some ⟨g, 0, none⟩)] w fun e w' => e = .returned (.agg ((sumW (xs.take a')).map (Value.int .u32)).toArray) ∧ Below w6.heap.size w6 w') := fun w hw => by
        refine (SUM.out w g _ (hW6.trans (hw.mono hW6.size)) (D6.below hw)).mono ?_
        rintro e w' ⟨rfl, hb⟩
        exact ⟨rfl, hw.trans (hb.mono hw.size)⟩
      have SC : Hid (∀ w, Below w6.heap.size w6 w → Calls Tryd.prog 16 #[.pointer (some ⟨gc, 0, none⟩)] w fun e w' => e = .returned (.agg ((sumW (xs.take a')).map (Value.int .u32)).toArray) ∧ Below w6.heap.size w6 w') := fun w hw => by
        refine (SUM.out w gc _ (hW6.trans (hw.mono hW6.size)) (Dc.below hw)).mono ?_
        rintro e w' ⟨rfl, hb⟩
        exact ⟨rfl, hw.trans (hb.mono hw.size)⟩
      have S14 : Hid (∀ w, Below w6.heap.size w6 w → Calls Tryd.prog 14 #[.slice aw a' cw] w fun e w' => e = .returned (.agg ((sumW (xs.take a')).map (Value.int .u32)).toArray) ∧ Below w6.heap.size w6 w') := fun w hw => by
        have hW := hW6.trans (hw.mono hW6.size)
        refine (sumWords_any w (TW.out w hW).1 (TW.out w hW).2 aw a' cw _ hal' ((hx3.head a').below hW) (by omega)).mono ?_
        rintro e w' ⟨rfl, hb⟩
        exact ⟨rfl, hw.trans (hb.mono hw.size)⟩
      have BX : Hid (Below w6.heap.size w6 w6.drew) := (Below.refl _ _).drew
      have D6' : Hid (DigL w6 g (xs.take a')) := D6
      have Dc' : Hid (DigL w6 gc (xs.take a')) := Dc
      have HW6 : Hid (Below W.heap.size W w6) := hW6
      generalize hSa : sumW (xs.take a') = Sa at *
      clear hSa D6 Dc hW6
      go_wp2_with fail
      go_region_held3 (fun _ => True) (trivial) (first | (go_at_call 20; refine (LEN.out _ BX.out).mono ?_; rintro en w' ⟨rfl, rfl⟩) | (go_at_call 14; refine (S14.out _ hwa).mono ?_; rintro en wb ⟨rfl, hwb⟩) | (go_at_call 16; first | (refine (SG.out _ hwc).mono ?_; rintro en wd ⟨rfl, hwd⟩) | (refine (SC.out _ hwb).mono ?_; rintro en wc ⟨rfl, hwc⟩) | (refine (SG.out _ BX.out).mono ?_; rintro en wa ⟨rfl, hwa⟩)))
      have Dg := D6'.out.below hwd
      have Dgc := Dc'.out.below hwd
      have hWd := HW6.out.trans (hwd.mono HW6.out.size)
      clear hwa hwb hwc hwd SG SC S14 LEN BX D6' Dc' HW6 e1
      have hal2 : (xs.take a' ++ [1, (k : Int)]).length = a' + 2 := by rw [List.length_append, hal']; rfl
      have k3 : (a' : Int) ≤ 35184372087808 := by omega
      have AD2 : Hid (Calls Tryd.prog 18 #[.pointer (some ⟨gc, 0, none⟩), .slice (some ⟨wd.heap.size, 0, none⟩) 2 2] (wd.alloc (Obj.cells #[.int .u32 1, .int .u32 (k : Int)] 26)) fun e w8 => e = .returned (.tuple #[]) ∧ DigL w8 gc (xs.take a' ++ [1, (k : Int)]) ∧ DigL w8 g (xs.take a') ∧ Below W.heap.size W w8) := by
        have hal3 : Below wd.heap.size wd (wd.alloc (Obj.cells #[.int .u32 1, .int .u32 (k : Int)] 26)) := below_one _ _
        have hW7 := hWd.trans (hal3.mono hWd.size)
        refine (addL_any _ (TW.out _ hW7).1 (TW.out _ hW7).2 gc _ (Dgc.below hal3) (some ⟨wd.heap.size, 0, none⟩) 2 2 [1, (k : Int)] rfl (Blk.new wd .u32 26 [1, (k : Int)]).at (by decide) (by omega)).mono ?_
        rintro e w8 ⟨rfl, D8, hb8⟩
        exact ⟨rfl, D8, (Dg.below hal3).but hb8 (by omega), hW7.trans (hb8.below (by have := Dgc.lt; omega) hW7.size)⟩
      clear Dg Dgc hWd
      go_wp2_with fail
      refine AD2.out.mono ?_
      rintro e w8 ⟨rfl, D8c, D8, hW8⟩
      clear AD2
      go_wp2_with fail
      refine (lenL_any w8 gc _ D8c).mono ?_
      rintro e w9 ⟨rfl, rfl⟩
      rw [hal2]
      go_wp2_with fail
      refine (lenL_any w8 g _ D8).mono ?_
      rintro e w9 ⟨rfl, rfl⟩
      rw [hal']
      have D8' : Hid (DigL w8 g (xs.take a')) := D8
      have HW8 : Hid (Below W.heap.size W w8) := hW8
      clear D8 D8c hW8 hal' hal2
      go_wp2
      go_roundw
      case rel => exact ⟨a', k + 1, k2, by omega, by omega, rfl, by go_num, D8'.out, HW8.out⟩
      case measure => simp [intOf]; omega
    · have AD3 : Hid (∀ az, (if cw = a then aw else Option.map (fun x => x.add a) aw) = az → Calls Tryd.prog 18 #[.pointer (some ⟨g, 0, none⟩), .slice az (n - a) (cw - a)] wr fun e w5 => e = .returned (.tuple #[]) ∧ DigL w5 g xs ∧ Below W.heap.size W w5) := fun az haz => by
        have hat := (hx3.cut n cw a (n - a) hx1 hx4 (by omega)).below hW
        rw [haz] at hat
        have hpl : ((xs.drop a).take (n - a)).length = n - a := by rw [List.length_take, List.length_drop]; omega
        refine (addL_any wr (TW.out wr hW).1 (TW.out wr hW).2 g _ D az (n - a) (cw - a) _ hpl hat (by omega) (by omega)).mono ?_
        rintro e w5 ⟨rfl, D5, hb5⟩
        rw [List.take_of_length_le (l := xs.drop a) (by rw [List.length_drop]; omega), List.take_append_drop] at D5
        exact ⟨rfl, D5, hW.trans (hb5.below hg hW.size)⟩
      obtain ⟨az, haz⟩ : ∃ az, (if cw = a then aw else Option.map (fun x => x.add a) aw) = az := ⟨_, rfl⟩
      have AD4 : Hid (Calls Tryd.prog 18 #[.pointer (some ⟨g, 0, none⟩), .slice az (n - a) (cw - a)] wr fun e w5 => e = .returned (.tuple #[]) ∧ DigL w5 g xs ∧ Below W.heap.size W w5) := AD3.out az haz
      have j3 : (a : Int) ≤ (n : Int) := by omega
      have j4 : (n : Int) ≤ 35184372087808 := by omega
      have hw : ∀ w5, DigL w5 g xs → Below W.heap.size W w5 → Calls Tryd.prog 16 #[.pointer (some ⟨g, 0, none⟩)] w5 fun e w6 => e = .returned (.agg ((sumW xs).map (Value.int .u32)).toArray) ∧ DigL w6 g xs ∧ Below W.heap.size W w6 := fun w5 D5 hW5 => by
        refine (SUM.out w5 g _ hW5 D5).mono ?_
        rintro e w6 ⟨rfl, hb⟩
        exact ⟨rfl, D5.below hb, hW5.trans (hb.mono hW5.size)⟩
      have hw' : ∀ w5, DigL w5 g xs → Below W.heap.size W w5 → Calls Tryd.prog 14 #[.slice aw n cw] w5 fun e w6 => e = .returned (.agg ((sumW xs).map (Value.int .u32)).toArray) ∧ DigL w6 g xs ∧ Below W.heap.size W w6 := fun w5 D5 hW5 => by
        refine (sumWords_any w5 (TW.out _ hW5).1 (TW.out _ hW5).2 aw n cw xs hx1 (hx3.below hW5) hx5).mono ?_
        rintro e w6 ⟨rfl, hb⟩
        exact ⟨rfl, D5.below hb, hW5.trans (hb.mono hW5.size)⟩
      have e1 := eq27 (sumW xs) (sumW xs) (sumW_length _) (sumW_length _)
      rw [decide_eq_true rfl] at e1
      have S1 : Hid _ := hw
      have S2 : Hid _ := hw'
      clear hw hw' D hW AD3
      by_cases hkm' : k < m
      · have j1 : (k : Int) < (m : Int) := by omega
        have j2 : decide ((k : Int) < 40) = false := by simp; omega
        have j6 : (40 : Int) ≤ (k : Int) := by omega
        go_wp2_with fail
        refine AD4.out.mono ?_
        rintro e w5 ⟨rfl, D5, hW5⟩
        clear haz AD4
        go_wp2_with fail
        refine (S1.out _ D5 hW5).mono ?_
        rintro e w6 ⟨rfl, D6, hW6⟩
        go_wp2_with fail
        refine (S2.out _ D6 hW6).mono ?_
        rintro e w7 ⟨rfl, D7, hW7⟩
        go_wp2_with fail
        refine (lenL_any w7 g _ D7).mono ?_
        rintro e w8 ⟨rfl, rfl⟩
        rw [hx1]
        have HB : Hid (Below W.heap.size W w7) := hW7
        clear D5 D6 D7 hW5 hW6 hW7
        go_wp2
        go_ret
        exact ⟨rfl, HB.out⟩
      · have j1 : decide ((k : Int) < (m : Int)) = false := by simp; omega
        have j6 : (m : Int) ≤ (k : Int) := by omega
        go_wp2_with fail
        refine AD4.out.mono ?_
        rintro e w5 ⟨rfl, D5, hW5⟩
        clear haz AD4
        go_wp2_with fail
        refine (S1.out _ D5 hW5).mono ?_
        rintro e w6 ⟨rfl, D6, hW6⟩
        go_wp2_with fail
        refine (S2.out _ D6 hW6).mono ?_
        rintro e w7 ⟨rfl, D7, hW7⟩
        go_wp2_with fail
        refine (lenL_any w7 g _ D7).mono ?_
        rintro e w8 ⟨rfl, rfl⟩
        rw [hx1]
        have HB : Hid (Below W.heap.size W w7) := hW7
        clear D5 D6 D7 hW5 hW6 hW7
        go_wp2
        go_ret
        exact ⟨rfl, HB.out⟩
end Go.Proofs.YtjkkelkblccolaaDoor
