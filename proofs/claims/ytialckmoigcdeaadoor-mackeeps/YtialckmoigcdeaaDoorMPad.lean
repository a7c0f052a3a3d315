/- Package mac: padded, started, outerSum. -/
import Derived.Test.YtialckmoigcdeaaDoorMKey
namespace Go.Proofs.YtialckmoigcdeaaDoor
open Go.RowKit

/-- The pad laid over the first t words. -/
def xorT (p : Int) (K : List Int) (t : Nat) : List Int := xorL p (K.take t) ++ K.drop t
theorem xorT_length (p : Int) (K : List Int) (t : Nat) : (xorT p K t).length = K.length := by simp [xorT, xorL]; omega
theorem xorT_zero (p : Int) (K : List Int) : xorT p K 0 = K := by simp [xorT, xorL]
theorem xorT_all (p : Int) (K : List Int) : xorT p K K.length = xorL p K := by simp [xorT]
theorem xorT_getD (p : Int) (K : List Int) (t : Nat) (h : t < K.length) : (xorT p K t).getD t 0 = K.getD t 0 := by
  have hl : (xorL p (K.take t)).length = t := by rw [xorL_length, List.length_take]; omega
  simp only [xorT, List.getD_eq_getElem?_getD]
  rw [List.getElem?_append_right (by omega), hl, Nat.sub_self, List.getElem?_drop, Nat.add_zero]
theorem xorT_set (p : Int) (K : List Int) (t : Nat) (h : t < K.length) : (xorT p K t).set t (bits .xor .u32 (K.getD t 0) p) = xorT p K (t + 1) := by
  have hl : (xorL p (K.take t)).length = t := by rw [xorL_length, List.length_take]; omega
  have e : K.getD t 0 = K[t] := by simp [List.getD_eq_getElem?_getD, h]
  unfold xorT
  rw [List.set_append_right _ _ (by omega), hl, Nat.sub_self, List.drop_eq_getElem_cons h, List.set_cons_zero, List.take_succ_eq_append_getElem h, e]
  unfold xorL
  rw [List.map_append, List.map_cons, List.map_nil, List.append_assoc]
  rfl

attribute [-simp] Tryd.isAgg26 Tryd.sizeOf26 Tryd.zeroValue26 Tryd.isAgg64 Tryd.sizeOf64 Tryd.zeroValue64
set_option maxRecDepth 20000 in
set_option maxHeartbeats 1000000 in
theorem padded_any (W : World) (K : List Int) (hK : K.length = 16) (p : Int) :
    Calls Tryd.prog 30 #[Ag K, .int .u32 p] W fun e W' => e = .returned (Ag (xorL p K)) ∧ Below W.heap.size W W' := by
  obtain ⟨Z, hZ⟩ : ∃ Z : List Int, Z = List.replicate 16 0 := ⟨_, rfl⟩
  have hZl : Z.length = 16 := by rw [hZ]; simp
  have hz : ∀ w, (zeroValue 64).run Tryd.prog w = .ok (.agg (Z.map (Value.int .u32)).toArray) w := fun w => by rw [Tryd.zeroValue64, hZ]; rfl
  clear hZ
  have B1 : Hid (Blk ((W.alloc (Obj.cells (List.map (Value.int IntKind.u32) K).toArray 64)).alloc (Obj.cells (List.map (Value.int IntKind.u32) Z).toArray 64)) W.heap.size .u32 64 K) := (Blk.new W .u32 64 K).alloc _
  have B2 : Hid (Blk ((W.alloc (Obj.cells (List.map (Value.int IntKind.u32) K).toArray 64)).alloc (Obj.cells (List.map (Value.int IntKind.u32) Z).toArray 64)) (W.heap.size + 1) .u32 64 Z) := Blk.newAt (by simp) .u32 64 Z
  have HB : Hid (Below W.heap.size W ((W.alloc (Obj.cells (List.map (Value.int IntKind.u32) K).toArray 64)).alloc (Obj.cells (List.map (Value.int IntKind.u32) Z).toArray 64))) := (below_one W _).alloc (by simp) _
  unfold Ag
  go_enter Tryd.func30, Tryd.ntmps30
  go_wp2
  go_loopw [6] (fun i wr => ∃ t : Nat, t ≤ 16 ∧ i = .int .i64 t ∧ Blk wr W.heap.size .u32 64 (xorT p K t) ∧ Blk wr (W.heap.size + 1) .u32 64 Z ∧ Below W.heap.size W wr) (fun i _ => 16 - (intOf i).toNat)
  case atStart => exact ⟨0, Nat.zero_le _, rfl, by rw [xorT_zero]; exact B1.out, B2.out, HB.out⟩
  case round =>
    clear B1 B2 HB
    obtain ⟨t, ht, rfl, b1, b2, hb⟩ := hrel
    by_cases hlt : t < 16
    · have hc := b1.cell t (by rw [xorT_length]; omega)
      rw [xorT_getD p K t (by omega)] at hc
      have hf := b1.free t
      have HN : Hid (Blk (wr.setCell ⟨W.heap.size, t, none⟩ (.int .u32 (bits .xor .u32 (K.getD t 0) p))) W.heap.size .u32 64 (xorT p K (t + 1))) := by
        rw [← xorT_set p K t (by omega)]
        exact b1.set t _
      have HZ : Hid (Blk (wr.setCell ⟨W.heap.size, t, none⟩ (.int .u32 (bits .xor .u32 (K.getD t 0) p))) (W.heap.size + 1) .u32 64 Z) := b2.other _ (by omega)
      have HH : Hid (Below W.heap.size W (wr.setCell ⟨W.heap.size, t, none⟩ (.int .u32 (bits .xor .u32 (K.getD t 0) p)))) := hb.setCell (Nat.le_refl _) _
      have i1 : (t : Int) < 16 := by omega
      clear b1 b2 hb ht hlt
      generalize K.getD t 0 = x at *
      go_wp2
      go_roundw
      case rel => exact ⟨t + 1, by omega, by go_num, HN.out, HZ.out, HH.out⟩
      case measure => simp [intOf]; omega
    · obtain rfl : t = 16 := by omega
      have BB : Hid (Blk wr W.heap.size .u32 64 (xorL p K)) := by
        have := xorT_all p K
        rw [hK] at this
        rw [← this]; exact b1
      have hl : (xorL p K).length = 16 := by rw [xorL_length, hK]
      have hs : (Tryd.prog.info? 64).map (·.size) = some (xorL p K).length := by rw [hl]; exact size64
      clear b1
      go_wp2_with (first | (refine wpList_load_blk rfl 64 _ rfl W.heap.size (xorL p K) rfl BB.out Tryd.underlying64 hs ?_) | (refine wpList_store_blk rfl 64 _ _ rfl (W.heap.size + 1) (xorL p K) rfl rfl b2 hs (hZl.trans hl.symm) ?_))
      refine ret_cell rfl rfl (W.heap.size + 1) (xorL p K) rfl (b2.setRow _) Tryd.underlying64 hs ⟨rfl, ?_⟩
      exact below_setRow hb (by omega) _
end Go.Proofs.YtialckmoigcdeaaDoor
