import Derived.Test.YtncnogndopgknaaGreatDoorP30
import Derived.OwnWalk
import Derived.Test.YtncnogndopgknaaGreatDoorP10
namespace Go.Proofs.YtncnogndopgknaaGreatDoor
open Go.RowKit
namespace A
theorem nmAt_len (ws : List Nat) (j : Nat) (h : j ≤ 4294967295) : (nmAt ws j).length ≤ 11 := by
  unfold nmAt
  split
  · have := dec_len (cnt ws j) (by have := cnt_le ws j; omega)
    simp only [List.length_cons]
    omega
  · simp
theorem lab_len (ws : List Nat) (p : Nat) (h : ws.length ≤ 1000000000) : (lab ws p).length ≤ 20 := by
  unfold lab
  split
  · rename_i t ht
    have := nmAt_len ws t (by have := tg_le ht; omega)
    omega
  · simp
theorem row_len (ws : List Nat) (p : Nat) (h : ws.length ≤ 1000000000) (hp : p ≤ ws.length) : (row ws p).length ≤ 100 := by
  have h1 := nmAt_len ws p (by omega)
  have h2 := lin_len (ws.getD p 0 : Nat) (lab ws p) (lab_len ws p h)
  unfold row
  rw [List.length_append]
  have e1 : (if nmAt ws p = [] then ([] : List UInt8) else nmAt ws p ++ [58, 10]).length ≤ 13 := by
    split
    · simp
    · simp only [List.length_append, List.length_cons, List.length_nil]; omega
  have e2 : (if p < ws.length then lin (ws.getD p 0 : Nat) (lab ws p) ++ [10] else ([] : List UInt8)).length ≤ 81 := by
    split
    · simp only [List.length_append, List.length_cons, List.length_nil]; omega
    · simp
  omega
theorem txt_len (ws : List Nat) (h : ws.length ≤ 1000000000) : ∀ k, k ≤ ws.length + 1 → (txt ws k).length ≤ 100 * k
  | 0, _ => by simp [txt]
  | k + 1, hk => by
    have ih := txt_len ws h k (by omega)
    have := row_len ws k h (by omega)
    rw [txt_succ, List.length_append]
    omega
def mets (ws : List Nat) (k : Nat) : List Value := (List.range (ws.length + 1)).map fun j => .bool (met ws k j)
def nms (ws : List Nat) (k : Nat) : List Value := (List.range (ws.length + 1)).map fun j => .string ⟨(if j < k then nmAt ws j else []).toArray⟩
def rnms (ws : List Nat) (m k : Nat) : List Value := (List.range (ws.length + 1)).map fun j => .string ⟨(if j < k then nmAt ws j else if met ws m j then [108] else []).toArray⟩
end A
theorem cel_of_own {w : World} {B g n : Nat} {e : TypeId} {xs : List Value} (h : w.ownsRow B e 1 (.slice (some ⟨g, 0, none⟩) n n) n xs) : Cel w g e xs ∧ B ≤ g := by
  rcases h.2 with ⟨h0, _⟩ | ⟨g', cap, cur, h1, h2, h3, h4, h5, h6, h7⟩
  · cases h0
  · injection h1 with a1 a2 a3
    injection a1 with a1
    injection a1 with a1
    subst a1 a3
    rw [Nat.mul_one] at h6 h7
    have hx : xs = cur.toList := by rw [← h7, List.take_of_length_le (by simp; omega)]
    refine ⟨?_, h2⟩
    unfold Cel
    rw [h3, hx]
theorem made_list (z : Value) (n : Nat) : (madeCells #[z] (n * 1)).toList = List.replicate n z := by
  rw [List.eq_replicate_iff]
  refine ⟨by simp [madeCells], fun v hv => ?_⟩
  simp only [madeCells, Array.toList_map, List.mem_map] at hv
  obtain ⟨j, _, rfl⟩ := hv
  simp [Nat.mod_one]
theorem Cel.setCell {w : World} {g : Nat} {t : TypeId} {cs : List Value} (h : Cel w g t cs) (j : Nat) (v : Value) : Cel (w.setCell ⟨g, j, none⟩ v) g t (cs.set j v) := by
  unfold Cel
  rw [heap_setCell_same w g j _ t _ h]
  simp
theorem Cel.setOther {w : World} {g g' : Nat} {t : TypeId} {cs : List Value} (h : Cel w g t cs) (hne : g' ≠ g) (j : Nat) (v : Value) : Cel (w.setCell ⟨g', j, none⟩ v) g t cs := by
  unfold Cel
  rw [heap_setCell_other w ⟨g', j, none⟩ g v (Ne.symm hne)]
  exact h
theorem Cel.free {w : World} {g : Nat} {t : TypeId} {cs : List Value} (h : Cel w g t cs) (j : Nat) : w.frozen? ⟨g, j, none⟩ = false := Lib.frozen_of_heap h j
def AtW (w : World) (ao : Option Addr) (l : List Nat) : Prop := l = [] ∨ ∃ b o, ao = some ⟨b, o, none⟩ ∧ b < w.heap.size ∧ ∀ i (h : i < l.length), w.cell? ⟨b, o + i, none⟩ = some (.int .u32 (l[i] : Nat))
theorem AtW.on {W w : World} {ao : Option Addr} {l : List Nat} (h : AtW W ao l) (hb : Below W.heap.size W w) : AtW w ao l := by
  rcases h with h0 | ⟨b, o, e, hlt, hc⟩
  · exact .inl h0
  · exact .inr ⟨b, o, e, Nat.lt_of_lt_of_le hlt hb.size, fun i hi => by rw [hb.cell (p := ⟨b, o + i, none⟩) hlt]; exact hc i hi⟩
end Go.Proofs.YtncnogndopgknaaGreatDoor
namespace Go.Proofs.YtncnogndopgknaaGreatDoor
open Go.RowKit
theorem Tryz.info9 : (Tryz.prog.info? 9).map (fun i => (i.zero, i.size, i.bytes)) = some (some (.string ⟨#[]⟩), 1, 16) := by kernel_rfl
theorem bl_grown {W w w' : World} (h : Below W.heap.size W w) (hg : w.grownBy w' none) : Below W.heap.size W w' := h.grown hg h.size (fun g hg => by cases hg)
end Go.Proofs.YtncnogndopgknaaGreatDoor
namespace Go.Proofs.YtncnogndopgknaaGreatDoor
open Go.RowKit
end Go.Proofs.YtncnogndopgknaaGreatDoor
namespace Go.Proofs
open Go.Shelf
def Tryz.lays166_ren : Go.Shelf.Ren := ⟨fun | 166 => 31 | 240 => 51 | 276 => 73 | n => n, fun | 0 => 0 | 3 => 3 | 4 => 4 | 5 => 5 | 9 => 9 | 20 => 20 | 37 => 91 | 70 => 90 | 72 => 93 | 75 => 70 | 164 => 157 | 80 => 98 | n => n, fun | n => n⟩
end Go.Proofs
namespace Go.Proofs.YtncnogndopgknaaGreatDoor
open Go.RowKit

structure BL (V w : World) (b : Nat) (l : List UInt8) : Prop where
  bld : Lib.IsBuilderF 93 5 V.heap.size b (Lib.byteCells l) w
  below : Below V.heap.size V w
theorem builderAtF_on {B b : Nat} {p : Value} {bs : List Value} {w w' : World} (h : Lib.BuilderAtF 93 5 B b p bs w) (hb : Below w.heap.size w w') : Lib.BuilderAtF 93 5 B b p bs w' := by
  obtain ⟨hB, v, hbk, hown, hne⟩ := h
  refine ⟨hB, v, by rw [hb.block b (Array.getElem?_eq_some_iff.1 hbk).1]; exact hbk, ⟨hown.1, ?_⟩, hne⟩
  exact hown.2.imp id fun ⟨g, cap, cur, fz, hv, hbg, hg, r⟩ => ⟨g, cap, cur, fz, hv, hbg, by rw [hb.block g (Array.getElem?_eq_some_iff.1 hg).1]; exact hg, r⟩
theorem BL.on {V w w' : World} {b : Nat} {l : List UInt8} (h : BL V w b l) (hb : Below w.heap.size w w') : BL V w' b l :=
  ⟨h.bld.imp (fun x => builderAtF_on x hb) (fun x => builderAtF_on x hb), h.below.trans (hb.mono h.below.size)⟩
theorem BL.drew {V w : World} {b : Nat} {l : List UInt8} (h : BL V w b l) : BL V w.drew b l := h.on ((Below.refl _ _).drew)
theorem BL.fresh (w : World) : BL w (w.alloc (.cells #[.pointer none, .slice none 0 0] 93)) w.heap.size [] :=
  ⟨(Lib.fresh_isBuilder 93 5 w).imp (fun x => Lib.BuilderAtF.of x) (fun x => Lib.BuilderAtF.of x), (Below.refl _ w).alloc (Nat.le_refl _) _⟩
end Go.Proofs.YtncnogndopgknaaGreatDoor
