import Derived.Test.YtbpdmkohihgnjaaGreatDoorP12
import Derived.Lib.SlBytesConst
namespace Go.Proofs.YtbpdmkohihgnjaaGreatDoor
open Go.RowKit

def Apart (v u : Value) : Prop := ∀ g, v.ownBlock = some g → u.ownBlock = some g → False
theorem Apart.symm {v u : Value} (h : Apart v u) : Apart u v := fun g a b => h g b a
theorem Apart.nil (v : Value) : Apart (.slice none 0 0) v := fun g h => by cases h
theorem Holds.on {W wr w : World} {k : IntKind} {e : TypeId} {v : Value} {L : List Int} (h : Holds W wr k e v L) (hb : Below wr.heap.size wr w) : Holds W w k e v L := ⟨ownsRow_below h.own hb, h.below.trans (hb.mono h.below.size)⟩
end Go.Proofs.YtbpdmkohihgnjaaGreatDoor
namespace Go.Proofs.YtbpdmkohihgnjaaGreatDoor
open Go.RowKit

attribute [-simp] Tryz.isAgg26 Tryz.sizeOf26 Tryz.zeroValue26 Tryz.isAgg197 Tryz.sizeOf197 Tryz.zeroValue197
set_option maxRecDepth 20000 in
set_option maxHeartbeats 400000 in
set_option maxRecDepth 20000 in
set_option maxHeartbeats 400000 in
theorem macTag_any (W : World) (hT : Tabs W) (ao : Option Addr) (n c : Nat) (ks : List Int) (hx : ks.length = n) (wx : Wds ks) (hat : At W .u32 ao ks) (hn : 4 * n ≤ 140737488351232)
    (bo : Option Addr) (m d : Nat) (xs : List Int) (hy : xs.length = m) (wy : Wds xs) (hbt : At W .u32 bo xs) (hm : 4 * m ≤ 140737488351232) :
    Calls Tryz.prog 117 #[.slice ao n c, .slice bo m d] W fun e W' => e = .returned (Ag (hmac (bytesD ks) (bytesD xs))) ∧ Below W.heap.size W W' := by
  obtain ⟨V, hV⟩ : ∃ V : List Int, V = List.replicate 8 0 := ⟨_, rfl⟩
  have hVl : V.length = 8 := by rw [hV]; simp
  have hv : ∀ w, (zeroValue 26).run Tryz.prog w = .ok (.agg (V.map (Value.int .u32)).toArray) w := fun w => by rw [Tryz.zeroValue26, hV]; rfl
  clear hV
  have hsz := hT.sz
  obtain ⟨X, hX⟩ : ∃ X, X = W.alloc (Obj.cells (List.map (Value.int IntKind.u32) V).toArray 26) := ⟨_, rfl⟩
  have BV : Hid (Blk X W.heap.size .u32 26 V) := by rw [hX]; exact Blk.new W .u32 26 V
  have HB : Hid (Below W.heap.size W X) := by rw [hX]; exact below_one W _
  have TX : Hid (Tabs X) := hT.on HB.out
  have AX : Hid (At X .u32 ao ks) := hat.below HB.out
  have AM : Hid (At X .u32 bo xs) := hbt.below HB.out
  have HF : Hid (∀ K, keyW (bytesD ks) = K → sumW (xorL 1549556828 K ++ sumW (xorL 909522486 K ++ xs)) = hmac (bytesD ks) (bytesD xs)) := fun K hK => tag_math K _ _ (bytesD_bts _) hK.symm wy
  have hRl : (hmac (bytesD ks) (bytesD xs)).length = 8 := hmac_length _ _
  obtain ⟨R, hR⟩ : ∃ R, hmac (bytesD ks) (bytesD xs) = R := ⟨_, rfl⟩
  have HR : Hid (hmac (bytesD ks) (bytesD xs) = R) := hR
  rw [hR] at hRl HF
  have hs : (Tryz.prog.info? 26).map (·.size) = some R.length := by rw [hRl]; exact size26
  clear hat hbt hT hR
  have zX := BV.out.lt
  go_enter Tryz.func117, Tryz.ntmps117
  go_wp2_with fail
  rw [← hX]
  clear hX
  refine (new_mac X TX.out ao n c ks hx wx AX.out hn).mono ?_
  rintro e w1 ⟨gm, gi, go, hgm, hgi, hgo, rfl, M1, hb1⟩
  obtain ⟨K, hK⟩ : ∃ K, keyW (bytesD ks) = K := ⟨_, rfl⟩
  have HE : Hid (sumW (xorL 1549556828 K ++ sumW (xorL 909522486 K ++ xs)) = R) := HF.out K hK
  rw [hK] at M1
  have MM : Hid (MacH w1 gm gi go K []) := M1
  replace TX : Hid (Tabs w1) := TX.out.on hb1
  replace AM : Hid (At w1 .u32 bo xs) := AM.out.below hb1
  replace HB : Hid (Below W.heap.size W w1) := HB.out.trans (hb1.mono (by omega))
  replace BV : Hid (Blk w1 W.heap.size .u32 26 V) := BV.out.on hb1
  have ci : w1.cell? ⟨gm, 0, none⟩ = some (.pointer (some ⟨gi, 0, none⟩)) := by rw [M1.cel.cell]; rfl
  clear hb1 M1 AX hK HF wx hx
  go_wp2_with fail
  refine (addL_any w1 TX.out.sha TX.out.sz gi _ MM.out.inner bo m d xs hy AM.out (by omega) (by rw [List.append_nil, xorL_length, MM.out.kl]; omega)).mono ?_
  rintro e w2 ⟨rfl, D2, bt2⟩
  have M2 : Hid (MacH w2 gm gi go K xs) := MM.out.turn bt2 (by rw [List.append_nil] at D2; exact D2)
  replace TX : Hid (Tabs w2) := TX.out.but bt2 (by omega)
  replace HB : Hid (Below W.heap.size W w2) := HB.out.trans (bt2.below (by omega) (by have := HB.out.size; omega))
  replace BV : Hid (Blk w2 W.heap.size .u32 26 V) := bt2.blk BV.out (by omega)
  clear bt2 D2 MM AM ci hy wy
  go_wp2_with fail
  refine (tag_mac w2 TX.out gm gi go K xs M2.out).mono ?_
  rintro e w3 ⟨rfl, hb3⟩
  rw [HE.out]
  replace HB : Hid (Below W.heap.size W w3) := HB.out.trans (hb3.mono HB.out.size)
  replace BV : Hid (Blk w3 W.heap.size .u32 26 V) := BV.out.on hb3
  clear hb3 HE M2
  go_wp2_with (first | (refine wpList_store_blk rfl 26 _ _ rfl W.heap.size R rfl rfl BV.out hs (hVl.trans hRl.symm) ?_))
  refine ret_cell rfl rfl W.heap.size R rfl (BV.out.setRow _) Tryz.underlying26 hs ?_
  rw [HR.out]
  exact ⟨rfl, below_setRow HB.out (Nat.le_refl _) _⟩
end Go.Proofs.YtbpdmkohihgnjaaGreatDoor
