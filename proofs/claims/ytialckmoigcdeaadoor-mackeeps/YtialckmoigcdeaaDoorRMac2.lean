/- The document's answer for layer 3: Tag, Extract, Same; mac's Same. -/
import Derived.Test.YtialckmoigcdeaaDoorRMac
namespace Go.Proofs.YtialckmoigcdeaaDoor
open Go.RowKit

attribute [-simp] Tryd.isAgg26 Tryd.sizeOf26 Tryd.zeroValue26
set_option maxRecDepth 20000 in
set_option maxHeartbeats 400000 in
theorem rextract_any (W : World) (hT : TabR W) (h2 : 2 < W.heap.size) (ao : Option Addr) (n c : Nat) (ks : List Int) (hx : ks.length = n) (hks : Bts ks) (hat : At W .u8 ao ks) (hc : n ≤ c) (hn : n ≤ 140737488351232)
    (bo : Option Addr) (m d : Nat) (bs : List Int) (hy : bs.length = m) (hbs : Bts bs) (hbt : At W .u8 bo bs) (hd : Sl bo d) (hm : m ≤ 140737488350000) :
    Calls Tryd.prog 41 #[.slice ao n c, .slice bo m d] W fun e W' => e = .returned (Ag (hmac ks bs)) ∧ Below W.heap.size W W' := by
  obtain ⟨V, hV⟩ : ∃ V : List Int, V = List.replicate 8 0 := ⟨_, rfl⟩
  have hVl : V.length = 8 := by rw [hV]; simp
  have hv : ∀ w, (zeroValue 26).run Tryd.prog w = .ok (.agg (V.map (Value.int .u32)).toArray) w := fun w => by rw [Tryd.zeroValue26, hV]; rfl
  clear hV
  have BV : Hid (Blk (W.alloc (Obj.cells (List.map (Value.int IntKind.u32) V).toArray 26)) W.heap.size .u32 26 V) := Blk.new W .u32 26 V
  have HB := below_one W (Obj.cells (List.map (Value.int IntKind.u32) V).toArray 26)
  have CA : Hid (Calls Tryd.prog 38 #[.slice ao n c, .slice bo m d] (W.alloc (Obj.cells (List.map (Value.int IntKind.u32) V).toArray 26)) fun e W' => e = .returned (Ag (hmac ks bs)) ∧ Below W.heap.size W W' ∧ Blk W' W.heap.size .u32 26 V) := by
    refine (rtagBytes_any _ (hT.on h2 HB) (by simp; omega) ao n c ks hx hks (hat.below HB) hc hn bo m d bs hy hbs (hbt.below HB) hd hm).mono ?_
    rintro e w ⟨rfl, hb⟩
    exact ⟨rfl, HB.trans (hb.mono (by simp)), BV.out.on hb⟩
  have hML : (hmac ks bs).length = 8 := hmac_length _ _
  obtain ⟨R, hR⟩ : ∃ R, hmac ks bs = R := ⟨_, rfl⟩
  have HF : Hid (hmac ks bs = R) := hR
  rw [hR] at CA hML
  have hs : (Tryd.prog.info? 26).map (·.size) = some R.length := by rw [hML]; exact size26
  clear hR hat hbt hks hbs hT HB BV hx hy hd
  go_enter Tryd.func41, Tryd.ntmps41
  go_wp2_with (first | (go_at_call 38; refine CA.out.mono ?_; rintro e w1 ⟨rfl, hb1, bv1⟩) | (refine wpList_store_blk rfl 26 _ _ rfl W.heap.size R rfl rfl bv1 hs (hVl.trans hML.symm) ?_))
  refine ret_cell rfl rfl W.heap.size R rfl (bv1.setRow _) Tryd.underlying26 hs ?_
  rw [HF.out]
  exact ⟨rfl, below_setRow hb1 (Nat.le_refl _) _⟩
set_option maxRecDepth 20000 in
set_option maxHeartbeats 400000 in
theorem rtag_any (W : World) (hT : TabR W) (h2 : 2 < W.heap.size) (ao : Option Addr) (n c : Nat) (ks : List Int) (hx : ks.length = n) (wx : Wds ks) (hat : At W .u32 ao ks) (hn : 4 * n ≤ 140737488350000)
    (bo : Option Addr) (m d : Nat) (xs : List Int) (hy : xs.length = m) (wy : Wds xs) (hbt : At W .u32 bo xs) (hm : 4 * m ≤ 140737488350000) :
    Calls Tryd.prog 24 #[.slice ao n c, .slice bo m d] W fun e W' => e = .returned (Ag (hmac (bytesD ks) (bytesD xs))) ∧ Below W.heap.size W W' := by
  obtain ⟨V, hV⟩ : ∃ V : List Int, V = List.replicate 8 0 := ⟨_, rfl⟩
  have hVl : V.length = 8 := by rw [hV]; simp
  have hv : ∀ w, (zeroValue 26).run Tryd.prog w = .ok (.agg (V.map (Value.int .u32)).toArray) w := fun w => by rw [Tryd.zeroValue26, hV]; rfl
  clear hV
  obtain ⟨X, hX⟩ : ∃ X, X = W.alloc (Obj.cells (List.map (Value.int IntKind.u32) V).toArray 26) := ⟨_, rfl⟩
  have BV : Hid (Blk X W.heap.size .u32 26 V) := by rw [hX]; exact Blk.new W .u32 26 V
  have HB : Hid (Below W.heap.size W X) := by rw [hX]; exact below_one W _
  have zX := BV.out.lt
  have TX : Hid (TabR X) := hT.on h2 HB.out
  have x2 : 2 < X.heap.size := by omega
  have AX : Hid (At X .u32 ao ks) := hat.below HB.out
  have AM : Hid (At X .u32 bo xs) := hbt.below HB.out
  have lk : (bytesD ks).length = 4 * n := by rw [bytesD_length, hx]
  have lm : (bytesD xs).length = 4 * m := by rw [bytesD_length, hy]
  clear hat hbt hT
  go_enter Tryd.func24, Tryd.ntmps24
  go_wp2_with fail
  rw [← hX]
  clear hX
  refine (rbytes_at X ao n c ks hx wx AX.out (by omega)).mono ?_
  rintro e w1 ⟨v1, c1, rfl, h1, a1, s1, hb1⟩
  have A1 : Hid (At w1 .u8 v1 (bytesD ks)) := a1
  have B1 : Hid (Below X.heap.size X w1) := hb1
  have AM1 : Hid (At w1 .u32 bo xs) := AM.out.below hb1
  clear a1 hb1 s1
  go_wp2_with fail
  refine (rbytes_at w1 bo m d xs hy wy AM1.out (by omega)).mono ?_
  rintro e w2 ⟨v2, c2, rfl, h22, a2, s2, hb2⟩
  have A2 : Hid (At w2 .u8 v2 (bytesD xs)) := a2
  have S2 : Hid (Sl v2 c2) := s2
  have A12 : Hid (At w2 .u8 v1 (bytesD ks)) := A1.out.below hb2
  have B2 : Hid (Below X.heap.size X w2) := B1.out.trans (hb2.mono B1.out.size)
  have x22 : 2 < w2.heap.size := by have := B2.out.size; omega
  clear a2 s2 hb2 A1 B1 AM1
  have pk := bytesD_bts ks
  have pm := bytesD_bts xs
  have hRl : (hmac (bytesD ks) (bytesD xs)).length = 8 := hmac_length _ _
  obtain ⟨R, hR⟩ : ∃ R, hmac (bytesD ks) (bytesD xs) = R := ⟨_, rfl⟩
  have HR : Hid (hmac (bytesD ks) (bytesD xs) = R) := hR
  rw [hR] at hRl
  have hs : (Tryd.prog.info? 26).map (·.size) = some R.length := by rw [hRl]; exact size26
  clear hR
  go_wp2_with fail
  refine (rtagBytes_any w2 (TX.out.on x2 B2.out) x22 v1 (4 * n) c1 (bytesD ks) lk pk A12.out h1 (by omega) v2 (4 * m) c2 (bytesD xs) lm pm A2.out S2.out (by omega)).mono ?_
  rintro e w3 ⟨rfl, hb3⟩
  rw [HR.out]
  have B3 : Hid (Blk w3 W.heap.size .u32 26 V) := (BV.out.on B2.out).on hb3
  have H3 : Hid (Below W.heap.size W w3) := HB.out.trans ((B2.out.trans (hb3.mono B2.out.size)).mono (by omega))
  clear hb3 B2 A2 A12 S2
  go_wp2_with (first | (refine wpList_store_blk rfl 26 _ _ rfl W.heap.size R rfl rfl B3.out hs (hVl.trans hRl.symm) ?_))
  refine ret_cell rfl rfl W.heap.size R rfl (B3.out.setRow _) Tryd.underlying26 hs ?_
  rw [HR.out]
  exact ⟨rfl, below_setRow H3.out (Nat.le_refl _) _⟩
theorem wpList_load_agg {P : Program} {ops : Array Oper} {rest : List Oper} {o : Oper} {a : Act} {w : World} {Q : Exit → Act → World → Prop} (hgd : o.guard = none) (ty : TypeId) (x : Operand) (ho : o.op = .load ty x)
    (g : Nat) (L : List Int) (hx : a.eval x = .pointer (some ⟨g, 0, none⟩)) {e t : TypeId} {n : Nat} (hg : Blk w g .u32 e L) (hu : P.underlying ty = some (.array n t)) (hi : (P.info? ty).map (·.size) = some L.length)
    (h : wpList P ops Q rest (a.put o.dst (.agg (L.map (Value.int .u32)).toArray)) w) : wpList P ops Q (o :: rest) a w :=
  wpList_load_blk hgd ty x ho g L hx hg hu hi h
set_option maxRecDepth 20000 in
theorem rsame_any (W : World) (xs ys : List Int) (hx : xs.length = 8) (hy : ys.length = 8) :
    Calls Tryd.prog 39 #[.agg (xs.map (Value.int .u32)).toArray, .agg (ys.map (Value.int .u32)).toArray] W fun e W' => e = .returned (.tuple #[.bool (decide (xs = ys)), .int .i64 8]) ∧ Below W.heap.size W W' := by
  have hsx : (Tryd.prog.info? 26).map (·.size) = some xs.length := by rw [hx]; exact size26
  have hsy : (Tryd.prog.info? 26).map (·.size) = some ys.length := by rw [hy]; exact size26
  have B1 : Hid (Blk ((W.alloc (Obj.cells (List.map (Value.int IntKind.u32) xs).toArray 26)).alloc (Obj.cells (List.map (Value.int IntKind.u32) ys).toArray 26)) W.heap.size .u32 26 xs) := (Blk.new W .u32 26 xs).alloc _
  have B2 : Hid (Blk ((W.alloc (Obj.cells (List.map (Value.int IntKind.u32) xs).toArray 26)).alloc (Obj.cells (List.map (Value.int IntKind.u32) ys).toArray 26)) (W.heap.size + 1) .u32 26 ys) := Blk.newAt (by simp) .u32 26 ys
  have HB : Hid (Below W.heap.size W ((W.alloc (Obj.cells (List.map (Value.int IntKind.u32) xs).toArray 26)).alloc (Obj.cells (List.map (Value.int IntKind.u32) ys).toArray 26))) := (below_one W _).alloc (by simp) _
  have EQ := eq26 xs ys hx hy
  go_enter Tryd.func39, Tryd.ntmps39
  go_wp2_with (first | (refine wpList_load_agg rfl 26 _ rfl W.heap.size xs rfl B1.out Tryd.underlying26 hsx ?_) | (refine wpList_load_agg rfl 26 _ rfl (W.heap.size + 1) ys rfl B2.out Tryd.underlying26 hsy ?_))
  go_ret2
  exact ⟨rfl, HB.out⟩
end Go.Proofs.YtialckmoigcdeaaDoor
