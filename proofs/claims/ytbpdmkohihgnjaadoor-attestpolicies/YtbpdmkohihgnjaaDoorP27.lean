import Derived.Test.YtbpdmkohihgnjaaDoorP22
import Derived.Test.YtbpdmkohihgnjaaDoorP26
namespace Go.Proofs.YtbpdmkohihgnjaaDoor
open Go.RowKit
set_option maxHeartbeats 4000000
set_option maxRecDepth 100000
def hexB (xs : List Int) : ByteArray := strOfNums (V.hexD xs)
theorem hexB_size {xs : List Int} (h : xs.length = 8) : (hexB xs).size = 64 := by unfold hexB; rw [strOfNums_size, V.hexD_length, h]
def qB0 : ByteArray := lineB [⟨#[113, 117, 111, 116, 101, 32, 49]⟩]
def qB1 (m : List Int) : ByteArray := lineB [⟨#[109, 101, 97, 115, 117, 114, 101, 109, 101, 110, 116]⟩, hexB m]
def qB2 (d : List Int) : ByteArray := lineB [⟨#[100, 97, 116, 97]⟩, hexB d]
def qB3 (t : List Int) : ByteArray := lineB [⟨#[116, 97, 103]⟩, hexB t]
def fmtQ (m d t : List Int) : ByteArray := ((qB0 ++ qB1 m) ++ qB2 d) ++ qB3 t
theorem line2 (a b : ByteArray) : (Lib.join ([a, b].map (·.data.toList)) [32]) = a.data.toList ++ ([32] ++ b.data.toList) := by simp [Lib.join, List.intercalate]
theorem sizeL (l : List UInt8) : (⟨l.toArray⟩ : ByteArray).size = l.length := by show l.toArray.size = l.length; exact List.size_toArray
theorem lenD (a : ByteArray) : a.data.toList.length = a.size := by show a.data.toList.length = a.data.size; exact Array.length_toList
theorem size10 : (⟨#[10]⟩ : ByteArray).size = 1 := rfl
theorem line2_size (a b : ByteArray) : (lineB [a, b]).size = a.size + b.size + 2 := by
  unfold lineB
  rw [ByteArray.size_append, sizeL, line2, List.length_append, List.length_append, lenD, lenD, size10, List.length_singleton]
  omega
structure FS (W : World) (m d t : List Int) (w : World) : Prop where
  bl : Below W.heap.size W w
  tb : TabW w
  q : Blk w W.heap.size .u32 38 (quoL m d t)
theorem FS.on {W : World} {m d t : List Int} {w w' : World} (h : FS W m d t w) (hb : Below w.heap.size w w') : FS W m d t w' := ⟨below_on h.bl hb, h.tb.below hb (by have := h.q.lt; omega), h.q.on hb⟩
theorem range_row {w : World} {g o : Nat} {xs : List Int} (h : w.rangeAt g o (xs.map (Value.int .u32))) : V.Row w .u32 g o xs := fun i hi => by
  refine h i _ ?_
  rw [List.getElem?_map, List.getElem?_eq_getElem hi]
  simp [List.getD_eq_getElem?_getD, List.getElem?_eq_getElem hi]
theorem lineAt (w : World) (g n : Nat) (xs : List ByteArray) (hn : xs.length = n) (hN : xs.length ≤ 1000) (hl : (Lib.join (xs.map (·.data.toList)) [32]).length ≤ 1000000) (hc : Cel w g 9 (xs.map Value.string)) :
    Calls Tryd.prog 45 #[.slice (some ⟨g, 0, none⟩) n n] w fun e w' => e = .returned (.string (lineB xs)) ∧ Below w.heap.size w w' :=
  layLine_any g n n xs w hn (fun j x hx => by rw [hc.cell j, List.getElem?_map, hx]; rfl) hc.lt hN (by omega) hl
attribute [-simp] Tryd.isAgg23 Tryd.zeroValue23 Tryd.isAgg38 Tryd.zeroValue38
end Go.Proofs.YtbpdmkohihgnjaaDoor
