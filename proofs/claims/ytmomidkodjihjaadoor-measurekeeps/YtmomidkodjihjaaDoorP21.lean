import Derived.Test.YtmomidkodjihjaaDoorP19
namespace Go.Proofs.YtmomidkodjihjaaDoor
open Go.RowKit
open H
set_option maxHeartbeats 4000000
set_option maxRecDepth 100000
theorem encode_ok (W : World) (ao : Option Addr) (n c : Nat) (l : List Ov) (hn : l.length = n) (h : OL W ao l) (hm : n ≤ 4611686018427387904) (ho : ∀ o ∈ l.map Ov.o, o.Ok) (hl : (enc (l.map Ov.o)).length ≤ 262144) :
    Calls Tryd.prog 10 #[.slice ao n c] W fun e W' => ∃ p cp, e = .returned (.tuple #[.slice p (enc (l.map Ov.o)).length cp, .int .i64 0]) ∧ Holds W W' .u32 24 (.slice p (enc (l.map Ov.o)).length cp) (enc (l.map Ov.o)) := by
  refine (encode_any W ao n c l hn h hm).mono ?_
  rintro e w ⟨hb, ⟨⟨o, h1, h2⟩, _⟩ | ⟨_, h1, _⟩ | ⟨_, _, v, rfl, h1⟩⟩
  · exact absurd (ho o h1) h2
  · omega
  · obtain ⟨p, cp, hv, _⟩ := h1.at'
    subst hv
    exact ⟨p, cp, rfl, h1⟩
theorem sumW_any (W : World) (hT : Tab W) (h2 : 1 < W.heap.size) (ao : Option Addr) (m c : Nat) (xs : List Int) (hx : xs.length = m) (hat : At W .u32 ao xs) (hm : m ≤ 35184372087808) :
    Calls Tryd.prog 20 #[.slice ao m c] W fun e W' => e = .returned (Ag (sumW xs)) ∧ Below W.heap.size W W' := by
  subst hx
  exact sum_any W hT h2 ao _ c xs rfl hat hm
attribute [-simp] Tryd.isAgg44 Tryd.sizeOf44 Tryd.zeroValue44
theorem measure_ok (W : World) (hT : Tab W) (h2 : 1 < W.heap.size) (ao : Option Addr) (n c : Nat) (l : List Ov) (hn : l.length = n) (h : OL W ao l) (hm : n ≤ 4611686018427387904) (ho : ∀ o ∈ l.map Ov.o, o.Ok) (hl : (enc (l.map Ov.o)).length ≤ 262144) :
    Calls Tryd.prog 17 #[.slice ao n c] W fun e W' => e = .returned (.tuple #[Ag (sumW (enc (l.map Ov.o))), .int .i64 0]) ∧ Below W.heap.size W W' := by
  obtain ⟨Z, hZ⟩ : ∃ Z : List Int, Z = List.replicate 8 0 := ⟨_, rfl⟩
  have hZl : Z.length = 8 := by rw [hZ]; simp
  have hz : ∀ w, (zeroValue 44).run Tryd.prog w = .ok (.agg (Z.map (Value.int .u32)).toArray) w := fun w => by rw [Tryd.zeroValue44, hZ]; rfl
  clear hZ
  have B1 : Hid (Below W.heap.size W (W.alloc (Obj.cells (List.map (Value.int IntKind.u32) Z).toArray 44))) := below_one _ _
  have Z1 : Hid (Blk (W.alloc (Obj.cells (List.map (Value.int IntKind.u32) Z).toArray 44)) W.heap.size .u32 44 Z) := Blk.new W .u32 44 Z
  have HE := hid (fun w (hw : Below W.heap.size W w) => encode_ok w ao n c l hn (h.on hw) hm ho hl)
  have hMl := sumW_length (enc (l.map Ov.o))
  have HS := hid (fun w (hw : Below W.heap.size W w) p cp (hp : At w .u32 p (enc (l.map Ov.o))) => sumW_any w (hT.below hw h2) (by have := hw.size; omega) p _ cp _ rfl hp (by omega))
  clear hn h hm ho hl hT h2
  generalize sumW (enc (l.map Ov.o)) = M at *
  generalize enc (l.map Ov.o) = L at *
  go_enter Tryd.func17, Tryd.ntmps17
  go_wp2_with (first | (go_at_call 10; refine (HE.out _ B1.out).mono ?_; rintro e w1 ⟨p, cp, rfl, hh⟩; have HA : Hid (At w1 .u32 p L) := hid (by obtain ⟨p', cp', e, _, ha, _⟩ := hh.at'; injection e with e1; rw [e1]; exact ha); have B2 := hid (below_on B1.out hh.below); have Z2 := hid (Z1.out.on hh.below); clear hh) | (go_at_call 20; refine (HS.out _ B2.out p cp HA.out).mono ?_; rintro e w2 ⟨rfl, hb⟩; have B3 := hid (below_on B2.out hb); have Z3 := hid (Z2.out.on hb); clear hb) | (refine wpList_store_blk rfl 44 _ _ rfl W.heap.size M rfl rfl Z3.out (by rw [hMl]; exact size27) (by rw [hZl, hMl]) ?_))
  refine ret_cell2 rfl rfl W.heap.size M rfl (Z3.out.setRow _) Tryd.underlying44 (by rw [hMl]; exact size27) ⟨rfl, below_setRow B3.out (Nat.le_refl _) _⟩
end Go.Proofs.YtmomidkodjihjaaDoor
