import Derived.Test.YtncnogndopgknaaGreatDoorP26
namespace Go.Proofs.YtncnogndopgknaaGreatDoor
open Go.RowKit
structure AW (W : World) : Prop where
  t : TM W
  e : ErrT W
  z : 7 < W.heap.size
  m : ∃ m : Int, W.cell? ⟨7, 0, none⟩ = some (.int .i64 m)
theorem AW.on {W w : World} (h : AW W) (hb : Below W.heap.size W w) : AW w :=
  ⟨h.t.on hb, h.e.on hb, Nat.lt_of_lt_of_le h.z hb.size, let ⟨m, hm⟩ := h.m; ⟨m, by rw [hb.cell (p := ⟨7, 0, none⟩) h.z]; exact hm⟩⟩
theorem asm_call (W : World) (h : AW W) (s : ByteArray) (base : Nat) (hbase : base < 4294967296) : Calls Tryz.prog 9 #[.string s, .int .u32 (base : Int)] W fun x w' => AmPost W (S.asm s.data.toList base) x w' := by
  obtain ⟨m, hm⟩ := h.m
  exact assemble_any W h.t h.e m h.z hm s base hbase
theorem cel_at {w : World} {g : Nat} {xs : List Nat} (h : Cel w g 22 (u32s xs)) : UAt w (some ⟨g, 0, none⟩) xs :=
  .inr ⟨g, 0, rfl, h.lt, fun i hi => by rw [h.cell, Nat.zero_add]; simp [u32s, hi]⟩
namespace S
def okB (b : Nat) : (Int × Nat × Nat) ⊕ St → Prop
  | .inl f => f.2.1 ≤ b
  | .inr st => ∀ t ∈ st.lat, t.line ≤ b
end S
set_option maxRecDepth 40000 in
set_option maxHeartbeats 2000000 in
theorem first_any (W : World) (h : AW W) : Calls Tryz.prog 8 #[] W fun x w' => x = .returned (.bool true) ∧ Below W.heap.size W w' := by
  have H9 := hid (asm_call W h ⟨#[108, 105, 32, 114, 50, 32, 101, 110, 100, 10, 120, 58, 32, 98, 32, 97, 108, 32, 120, 10, 119, 111, 114, 100, 32, 101, 110, 100, 10, 101, 110, 100, 58]⟩ 4096 (by decide))
  have e0 : S.asm (⟨#[108, 105, 32, 114, 50, 32, 101, 110, 100, 10, 120, 58, 32, 98, 32, 97, 108, 32, 120, 10, 119, 111, 114, 100, 32, 101, 110, 100, 10, 101, 110, 100, 58]⟩ : ByteArray).data.toList 4096 = .inr ([75501584, 142606336, 1409351679, 4112], [([120], 2), ([101, 110, 100], 4)]) := S.ex_asm
  rw [e0] at H9
  clear h e0
  go_enter Tryz.func8, Tryz.ntmps8
  go_wp2_with fail
  refine H9.out.mono ?_
  rintro e w1 ⟨v, rfl, hown, hb1⟩
  obtain ⟨av, cv, rfl⟩ := own_form hown
  have HU : Hid (UAt w1 av [75501584, 142606336, 1409351679, 4112] ∧ Below W.heap.size W w1) := hid ⟨own_at hown, hb1⟩
  clear hown hb1 H9
  simp only [List.length_cons, List.length_nil, Nat.zero_add, Nat.reduceAdd]
  go_wp2_with fail
  have HB2 : Hid (Below w1.heap.size w1 ((w1.alloc (Obj.cells #[Value.int .i64 0, Value.int .i64 0, Value.int .i64 0] 27)).alloc (Obj.cells #[Value.int .u32 75501584, Value.int .u32 142606336, Value.int .u32 1409351679, Value.int .u32 4112] 22))) := hid (below_two _ _ _)
  have HC2 : Hid (Cel ((w1.alloc (Obj.cells #[Value.int .i64 0, Value.int .i64 0, Value.int .i64 0] 27)).alloc (Obj.cells #[Value.int .u32 75501584, Value.int .u32 142606336, Value.int .u32 1409351679, Value.int .u32 4112] 22)) (w1.heap.size + 1) 22 (u32s [75501584, 142606336, 1409351679, 4112])) := hid (new_at2 _ _ _)
  refine (same_any _ [75501584, 142606336, 1409351679, 4112] (by decide) av (some ⟨w1.heap.size + 1, 0, none⟩) cv 4 (HU.out.1.on HB2.out) (cel_at HC2.out)).mono ?_
  rintro e w2 ⟨rfl, hb2⟩
  have HB3 : Hid (Below W.heap.size W w2) := hid (below_on (HU.out.2.trans (HB2.out.mono HU.out.2.size)) hb2)
  clear HB2 HC2 hb2
  go_wp2_with fail
  go_ret
  exact ⟨rfl, HB3.out⟩
end Go.Proofs.YtncnogndopgknaaGreatDoor
namespace Go.Proofs.YtncnogndopgknaaGreatDoor
open Go.RowKit
end Go.Proofs.YtncnogndopgknaaGreatDoor
