/- The law's own helpers: words, bytes, within, first; mac's Extract and Tag. -/
import Derived.Test.YtialckmoigcdeaaDoorMTag
import Derived.Test.YtialckmoigcdeaaDoorTwo
import Derived.Lib.SlBytesConst
namespace Go.Proofs.YtialckmoigcdeaaDoor
open Go.RowKit

set_option maxHeartbeats 400000 in
theorem bytes_law (W : World) (ao : Option Addr) (n c : Nat) (bs : List Int) (hx : bs.length = n) (hat : At W .u8 ao bs) (hs : Sl ao c) (hn : n ≤ 140737488355328) :
    Calls Tryd.prog 8 #[.slice ao n c] W fun e W' => ∃ v, e = .returned v ∧ Holds W W' .u8 5 v bs := by
  obtain ⟨i0, hi, hz0, hz1, hz2⟩ := info_parts Tryd.info5
  have H0 : Hid (Holds W W .u8 5 (.slice none 0 0) []) := Holds.start _ _ _
  have h63 : ([] : List Int).length + n ≤ maxLen := by unfold maxLen; simp; omega
  have hby : (([] : List Int).length + n) * 1 ≤ 140737488355328 := by simp; omega
  have HA : Hid (At W .u8 ao bs) := hat
  have HS : Hid (ao = none → c = 0) := hs
  have HX : Hid (bs.length = n) := hx
  clear hat hs hx hn
  go_enter Tryd.func8, Tryd.ntmps8
  go_wp2_with (first | (at_builtin; refine wpList_append_at (W := W) rfl _ _ 22 rfl .u8 5 i0 (.int .u8 0) 1 Tryd.underlying22 hi hz0 hz1 hz2 rfl (.slice none 0 0) [] rfl H0.out ao n c bs rfl HX.out HA.out HS.out h63 hby ?_; intro v' w3 H3; have H3' : Hid (Holds W w3 .u8 5 v' bs) := H3; clear H3))
  go_ret
  exact ⟨_, rfl, H3'.out⟩
set_option maxHeartbeats 400000 in
theorem words_law (W : World) (ao : Option Addr) (n c : Nat) (bs : List Int) (hx : bs.length = n) (hat : At W .u32 ao bs) (hs : Sl ao c) (hn : n * 4 ≤ 140737488355328) :
    Calls Tryd.prog 15 #[.slice ao n c] W fun e W' => ∃ v, e = .returned v ∧ Holds W W' .u32 25 v bs := by
  obtain ⟨i0, hi, hz0, hz1, hz2⟩ := info_parts Tryd.info25
  have H0 : Hid (Holds W W .u32 25 (.slice none 0 0) []) := Holds.start _ _ _
  have h63 : ([] : List Int).length + n ≤ maxLen := by unfold maxLen; simp; omega
  have hby : (([] : List Int).length + n) * 4 ≤ 140737488355328 := by simp; omega
  have HA : Hid (At W .u32 ao bs) := hat
  have HS : Hid (ao = none → c = 0) := hs
  have HX : Hid (bs.length = n) := hx
  clear hat hs hx hn
  go_enter Tryd.func15, Tryd.ntmps15
  go_wp2_with (first | (at_builtin; refine wpList_append_at (W := W) rfl _ _ 35 rfl .u32 25 i0 (.int .u32 0) 4 Tryd.underlying35 hi hz0 hz1 hz2 rfl (.slice none 0 0) [] rfl H0.out ao n c bs rfl HX.out HA.out HS.out h63 hby ?_; intro v' w3 H3; have H3' : Hid (Holds W w3 .u32 25 v' bs) := H3; clear H3))
  go_ret
  exact ⟨_, rfl, H3'.out⟩
theorem within_any (W : World) (x lo hi : Int) (l0 : 0 ≤ lo) (lh : lo ≤ hi) (h1 : hi ≤ 140737488355328) :
    Calls Tryd.prog 11 #[.int .i64 x, .int .i64 lo, .int .i64 hi] W fun e W' => (∃ r : Int, lo ≤ r ∧ r ≤ hi ∧ e = .returned (.int .i64 r)) ∧ W = W' := by
  obtain ⟨d, hd⟩ : ∃ d, hi - lo + 1 = d := ⟨_, rfl⟩
  have b1 : x.tmod d < d := Int.tmod_lt_of_pos x (by omega)
  have b2 : -d < x.tmod d := by
    have := Int.tmod_lt_of_pos (-x) (show (0 : Int) < d by omega)
    rw [Int.neg_tmod] at this
    omega
  obtain ⟨t, ht⟩ : ∃ t, x.tmod d = t := ⟨_, rfl⟩
  rw [ht] at b1 b2
  have e1 : IntKind.i64.wrap (hi - lo) = hi - lo := by rw [IntKind.wrap_i64]; omega
  have e2 : IntKind.i64.wrap (hi - lo + 1) = d := by rw [IntKind.wrap_i64]; omega
  have z0 : ¬ d = 0 := by omega
  have e3 : IntKind.i64.wrap t = t := by rw [IntKind.wrap_i64]; omega
  by_cases hneg : t < 0
  · have e4 : IntKind.i64.wrap (t + hi) = t + hi := by rw [IntKind.wrap_i64]; omega
    have e5 : IntKind.i64.wrap (t + hi - lo) = t + hi - lo := by rw [IntKind.wrap_i64]; omega
    have e6 : IntKind.i64.wrap (t + hi - lo + 1) = t + hi - lo + 1 := by rw [IntKind.wrap_i64]; omega
    have e7 : IntKind.i64.wrap (lo + (t + hi - lo + 1)) = lo + (t + hi - lo + 1) := by rw [IntKind.wrap_i64]; omega
    have HR : Hid (lo ≤ lo + (t + hi - lo + 1) ∧ lo + (t + hi - lo + 1) ≤ hi) := ⟨by omega, by omega⟩
    clear b1 b2 hd
    go_enter Tryd.func11, Tryd.ntmps11
    go_wp2
    go_ret
    exact ⟨⟨_, HR.out.1, HR.out.2, rfl⟩, rfl⟩
  · have HR : Hid (lo ≤ lo + t ∧ lo + t ≤ hi) := ⟨by omega, by omega⟩
    have e7 : IntKind.i64.wrap (lo + t) = lo + t := by rw [IntKind.wrap_i64]; omega
    clear b1 b2 hd
    go_enter Tryd.func11, Tryd.ntmps11
    go_wp2
    go_ret
    exact ⟨⟨_, HR.out.1, HR.out.2, rfl⟩, rfl⟩
attribute [-simp] Tryd.isAgg26 Tryd.sizeOf26 Tryd.zeroValue26 Tryd.isAgg64 Tryd.sizeOf64 Tryd.zeroValue64
set_option maxRecDepth 20000 in
set_option maxHeartbeats 400000 in
theorem extract_any (W : World) (hT : Tabs W) (ao : Option Addr) (n c : Nat) (ks : List Int) (hx : ks.length = n) (hks : Bts ks) (hat : At W .u8 ao ks) (hc : n ≤ c) (hn : n ≤ 140737488355200)
    (bo : Option Addr) (m d : Nat) (bs : List Int) (hy : bs.length = m) (hbs : Bts bs) (hbt : At W .u8 bo bs) (hd : Sl bo d) (hm : m ≤ 140737488355072) :
    Calls Tryd.prog 7 #[.slice ao n c, .slice bo m d] W fun e W' => e = .returned (Ag (hmac ks bs)) ∧ Below W.heap.size W W' := by
  obtain ⟨V, hV⟩ : ∃ V : List Int, V = List.replicate 8 0 := ⟨_, rfl⟩
  have hVl : V.length = 8 := by rw [hV]; simp
  have hv : ∀ w, (zeroValue 26).run Tryd.prog w = .ok (.agg (V.map (Value.int .u32)).toArray) w := fun w => by rw [Tryd.zeroValue26, hV]; rfl
  clear hV
  have BV : Hid (Blk (W.alloc (Obj.cells (List.map (Value.int IntKind.u32) V).toArray 26)) W.heap.size .u32 26 V) := Blk.new W .u32 26 V
  have HB := below_one W (Obj.cells (List.map (Value.int IntKind.u32) V).toArray 26)
  have CA : Hid (Calls Tryd.prog 16 #[.slice ao n c, .slice bo m d] (W.alloc (Obj.cells (List.map (Value.int IntKind.u32) V).toArray 26)) fun e W' => e = .returned (Ag (hmac ks bs)) ∧ Below W.heap.size W W' ∧ Blk W' W.heap.size .u32 26 V) := by
    refine (tagBytes_any _ (hT.on HB) ao n c ks hx hks (hat.below HB) hc hn bo m d bs hy hbs (hbt.below HB) hd hm).mono ?_
    rintro e w ⟨rfl, hb⟩
    exact ⟨rfl, HB.trans (hb.mono (by simp)), BV.out.on hb⟩
  have hML : (hmac ks bs).length = 8 := hmac_length _ _
  obtain ⟨R, hR⟩ : ∃ R, hmac ks bs = R := ⟨_, rfl⟩
  have HF : Hid (hmac ks bs = R) := hR
  rw [hR] at CA hML
  have hs : (Tryd.prog.info? 26).map (·.size) = some R.length := by rw [hML]; exact size26
  clear hR hat hbt hks hbs hT HB BV hx hy hd
  go_enter Tryd.func7, Tryd.ntmps7
  go_wp2_with (first | (go_at_call 16; refine CA.out.mono ?_; rintro e w1 ⟨rfl, hb1, bv1⟩) | (refine wpList_store_blk rfl 26 _ _ rfl W.heap.size R rfl rfl bv1 hs (hVl.trans hML.symm) ?_))
  refine ret_cell rfl rfl W.heap.size R rfl (bv1.setRow _) Tryd.underlying26 hs ?_
  rw [HF.out]
  exact ⟨rfl, below_setRow hb1 (Nat.le_refl _) _⟩
set_option maxRecDepth 20000 in
set_option maxHeartbeats 400000 in
/-- Tag of words. -/
theorem macTag_any (W : World) (hT : Tabs W) (ao : Option Addr) (n c : Nat) (ks : List Int) (hx : ks.length = n) (wx : Wds ks) (hat : At W .u32 ao ks) (hn : 4 * n ≤ 140737488351232)
    (bo : Option Addr) (m d : Nat) (xs : List Int) (hy : xs.length = m) (wy : Wds xs) (hbt : At W .u32 bo xs) (hm : 4 * m ≤ 140737488351232) :
    Calls Tryd.prog 14 #[.slice ao n c, .slice bo m d] W fun e W' => e = .returned (Ag (hmac (bytesD ks) (bytesD xs))) ∧ Below W.heap.size W W' := by
  obtain ⟨V, hV⟩ : ∃ V : List Int, V = List.replicate 8 0 := ⟨_, rfl⟩
  have hVl : V.length = 8 := by rw [hV]; simp
  have hv : ∀ w, (zeroValue 26).run Tryd.prog w = .ok (.agg (V.map (Value.int .u32)).toArray) w := fun w => by rw [Tryd.zeroValue26, hV]; rfl
  clear hV
  have hsz := hT.sz
  obtain ⟨X, hX⟩ : ∃ X, X = W.alloc (Obj.cells (List.map (Value.int IntKind.u32) V).toArray 26) := ⟨_, rfl⟩
  have BV : Hid (Blk X W.heap.size .u32 26 V) := by rw [hX]; exact Blk.new W .u32 26 V
  have HB : Hid (Below W.heap.size W X) := by rw [hX]; exact below_one W _
  have TX : Hid (Tabs X) := hT.on HB.out
  have AX : Hid (At X .u32 ao ks) := hat.below HB.out
  have AM : Hid (At X .u32 bo xs) := hbt.below HB.out
  have HF : Hid (∀ K, keyW (bytesD ks) = K → sumW (xorL 1549556828 K ++ sumW (xorL 909522486 K ++ xs)) = hmac (bytesD ks) (bytesD xs)) := fun K hK => tag_math K _ _ (bytesD_bts _) hK.symm wy
  have hRl : (hmac (bytesD ks) (bytesD xs)).length = 8 := hmac_length _ _
  obtain ⟨R, hR⟩ : ∃ R, hmac (bytesD ks) (bytesD xs) = R := ⟨_, rfl⟩
  have HR : Hid (hmac (bytesD ks) (bytesD xs) = R) := hR
  rw [hR] at hRl HF
  have hs : (Tryd.prog.info? 26).map (·.size) = some R.length := by rw [hRl]; exact size26
  clear hat hbt hT hR
  have zX := BV.out.lt
  go_enter Tryd.func14, Tryd.ntmps14
  go_wp2_with fail
  rw [← hX]
  clear hX
  refine (new_mac X TX.out ao n c ks hx wx AX.out hn).mono ?_
  rintro e w1 ⟨gm, gi, go, hgm, hgi, hgo, rfl, M1, hb1⟩
  obtain ⟨K, hK⟩ : ∃ K, keyW (bytesD ks) = K := ⟨_, rfl⟩
  have HE : Hid (sumW (xorL 1549556828 K ++ sumW (xorL 909522486 K ++ xs)) = R) := HF.out K hK
  rw [hK] at M1
  have MM : Hid (MacH w1 gm gi go K []) := M1
  replace TX : Hid (Tabs w1) := TX.out.on hb1
  replace AM : Hid (At w1 .u32 bo xs) := AM.out.below hb1
  replace HB : Hid (Below W.heap.size W w1) := HB.out.trans (hb1.mono (by omega))
  replace BV : Hid (Blk w1 W.heap.size .u32 26 V) := BV.out.on hb1
  have ci : w1.cell? ⟨gm, 0, none⟩ = some (.pointer (some ⟨gi, 0, none⟩)) := by rw [M1.cel.cell]; rfl
  clear hb1 M1 AX hK HF wx hx
  go_wp2_with fail
  refine (addL_any w1 TX.out.sha TX.out.sz gi _ MM.out.inner bo m d xs hy AM.out (by omega) (by rw [List.append_nil, xorL_length, MM.out.kl]; omega)).mono ?_
  rintro e w2 ⟨rfl, D2, bt2⟩
  have M2 : Hid (MacH w2 gm gi go K xs) := MM.out.turn bt2 (by rw [List.append_nil] at D2; exact D2)
  replace TX : Hid (Tabs w2) := TX.out.but bt2 (by omega)
  replace HB : Hid (Below W.heap.size W w2) := HB.out.trans (bt2.below (by omega) (by have := HB.out.size; omega))
  replace BV : Hid (Blk w2 W.heap.size .u32 26 V) := bt2.blk BV.out (by omega)
  clear bt2 D2 MM AM ci hy wy
  go_wp2_with fail
  refine (tag_mac w2 TX.out gm gi go K xs M2.out).mono ?_
  rintro e w3 ⟨rfl, hb3⟩
  rw [HE.out]
  replace HB : Hid (Below W.heap.size W w3) := HB.out.trans (hb3.mono HB.out.size)
  replace BV : Hid (Blk w3 W.heap.size .u32 26 V) := BV.out.on hb3
  clear hb3 HE M2
  go_wp2_with (first | (refine wpList_store_blk rfl 26 _ _ rfl W.heap.size R rfl rfl BV.out hs (hVl.trans hRl.symm) ?_))
  refine ret_cell rfl rfl W.heap.size R rfl (BV.out.setRow _) Tryd.underlying26 hs ?_
  rw [HR.out]
  exact ⟨rfl, below_setRow HB.out (Nat.le_refl _) _⟩
end Go.Proofs.YtialckmoigcdeaaDoor
