/- entries 71 and 72; what stays, by the kinds of blocks. -/
import Derived.Test.YtmmphmdmocfnpaaIt2
namespace Go.Proofs.Ytmmphmdmocfnpaa
open Go.RowKit Go.Shelf
set_option maxHeartbeats 8000000
set_option maxRecDepth 100000
/-- An object at a block. -/
def Ob (W : World) (k : Nat) (o : Obj) : Prop := W.heap[k]? = some o
theorem Ob.lt {W : World} {k : Nat} {o : Obj} (h : Ob W k o) : k < W.heap.size := (Array.getElem?_eq_some_iff.1 h).1
theorem Ob.on {W W' : World} {k : Nat} {o : Obj} (h : Ob W k o) (hb : Below W.heap.size W W') : Ob W' k o := (hb.block k h.lt).trans h
def box (v : Value) (t : TypeId) : Obj := .cells #[v] t (0, 0)
theorem Ob.cell {W : World} {k : Nat} {v : Value} {t : TypeId} (h : Ob W k (box v t)) : W.cell? ⟨k, 0, none⟩ = some v := by
  rw [cell_of_row W k 0 _ t (0, 0) h]; rfl
/-- Five boxes, new. -/
structure FB (W W' : World) (bw bm bt bp bf : Nat) (gm : Nat) (t : Int) (words : Nat) (fp ff : Nat) (tp tf : TypeId) : Prop where
  w : Ob W' bw (box (.int .i64 (words : Int)) 3)
  m : Ob W' bm (box (.pointer (some ⟨gm, 0, none⟩)) 57)
  t : Ob W' bt (box (.int .i64 t) 3)
  p : Ob W' bp (box (.func (.func fp) #[] #[]) tp)
  f : Ob W' bf (box (.func (.func ff) #[] #[]) tf)
  lo : W.heap.size ≤ bw ∧ W.heap.size ≤ bm ∧ W.heap.size ≤ bt ∧ W.heap.size ≤ bp ∧ W.heap.size ≤ bf
  below : Below W.heap.size W W'
theorem FB.eb {W W' : World} {bw bm bt bp bf gm : Nat} {t : Int} {words fp ff : Nat} {tp tf : TypeId} (h : FB W W' bw bm bt bp bf gm t words fp ff tp tf) : EB W' bw bm bt bp bf gm t words fp ff := ⟨h.w.cell, h.m.cell, h.t.cell, h.p.cell, h.f.cell⟩
theorem five (W : World) (gm : Nat) (t : Int) (words fp ff : Nat) (tp tf : TypeId) :
    FB W (((((W.alloc (.cells #[.pointer (some ⟨gm, 0, none⟩)] 57)).alloc (.cells #[.int .i64 t] 3)).alloc (.cells #[.int .i64 (words : Int)] 3)).alloc (.cells #[.func (.func fp) #[] #[]] tp)).alloc (.cells #[.func (.func ff) #[] #[]] tf)) (W.heap.size + 1 + 1) W.heap.size (W.heap.size + 1) (W.heap.size + 1 + 1 + 1) (W.heap.size + 1 + 1 + 1 + 1) gm t words fp ff tp tf := by
  have h0 : ∀ (w : World) (o : Obj), Ob (w.alloc o) w.heap.size o := fun w o => heap_alloc_new _ _
  have hs : ∀ (w : World) (o : Obj), (w.alloc o).heap.size = w.heap.size + 1 := fun w o => World.size_alloc _ _
  have hb : ∀ (w : World) (o : Obj), Below w.heap.size w (w.alloc o) := below_one
  have a0 := h0 W (.cells #[.pointer (some ⟨gm, 0, none⟩)] 57)
  generalize e1 : W.alloc (.cells #[.pointer (some ⟨gm, 0, none⟩)] 57) = w1 at *
  have s1 : w1.heap.size = W.heap.size + 1 := by rw [← e1]; exact hs _ _
  have b1 : Below W.heap.size W w1 := by rw [← e1]; exact hb _ _
  have a1 := h0 w1 (.cells #[.int .i64 t] 3)
  generalize e2 : w1.alloc (.cells #[.int .i64 t] 3) = w2 at *
  have s2 : w2.heap.size = w1.heap.size + 1 := by rw [← e2]; exact hs _ _
  have b2 : Below w1.heap.size w1 w2 := by rw [← e2]; exact hb _ _
  have a2 := h0 w2 (.cells #[.int .i64 (words : Int)] 3)
  generalize e3 : w2.alloc (.cells #[.int .i64 (words : Int)] 3) = w3 at *
  have s3 : w3.heap.size = w2.heap.size + 1 := by rw [← e3]; exact hs _ _
  have b3 : Below w2.heap.size w2 w3 := by rw [← e3]; exact hb _ _
  have a3 := h0 w3 (.cells #[.func (.func fp) #[] #[]] tp)
  generalize e4 : w3.alloc (.cells #[.func (.func fp) #[] #[]] tp) = w4 at *
  have s4 : w4.heap.size = w3.heap.size + 1 := by rw [← e4]; exact hs _ _
  have b4 : Below w3.heap.size w3 w4 := by rw [← e4]; exact hb _ _
  have a4 := h0 w4 (.cells #[.func (.func ff) #[] #[]] tf)
  generalize e5 : w4.alloc (.cells #[.func (.func ff) #[] #[]] tf) = w5 at *
  have b5 : Below w4.heap.size w4 w5 := by rw [← e5]; exact hb _ _
  rw [s1] at a1
  rw [s2, s1] at a2
  rw [s3, s2, s1] at a3
  rw [s4, s3, s2, s1] at a4
  exact ⟨((a2.on b4).on b5), (((a0.on b2).on b3).on b4).on b5, ((a1.on b3).on b4).on b5, a3.on b5, a4, ⟨by omega, by omega, by omega, by omega, by omega⟩, below_on (below_on (below_on (below_on b1 b2) b3) b4) b5⟩
theorem entries1_any (W : World) (gm : Nat) (t : Int) :
    Calls Try.prog 71 #[.pointer (some ⟨gm, 0, none⟩), .int .i64 t, .int .i64 256, .func (.func 12) #[] #[], .func (.func 54) #[] #[]] W fun x W' => ∃ bw bm bt bp bf, x = .returned (.func (.func 76) #[] #[.pointer (some ⟨bw, 0, none⟩), .pointer (some ⟨bm, 0, none⟩), .pointer (some ⟨bt, 0, none⟩), .pointer (some ⟨bp, 0, none⟩), .pointer (some ⟨bf, 0, none⟩)]) ∧ FB W W' bw bm bt bp bf gm t 256 12 54 30 119 := by
  have H := hid (five W gm t 256 12 54 30 119)
  go_enter Try.func71, Try.ntmps71
  go_wp2_with fail
  go_ret
  exact ⟨_, _, _, _, _, rfl, H.out⟩
theorem entries2_any (W : World) (gm : Nat) (t : Int) :
    Calls Try.prog 72 #[.pointer (some ⟨gm, 0, none⟩), .int .i64 t, .int .i64 1024, .func (.func 14) #[] #[], .func (.func 59) #[] #[]] W fun x W' => ∃ bw bm bt bp bf, x = .returned (.func (.func 77) #[] #[.pointer (some ⟨bw, 0, none⟩), .pointer (some ⟨bm, 0, none⟩), .pointer (some ⟨bt, 0, none⟩), .pointer (some ⟨bp, 0, none⟩), .pointer (some ⟨bf, 0, none⟩)]) ∧ FB W W' bw bm bt bp bf gm t 1024 14 59 37 129 := by
  have H := hid (five W gm t 1024 14 59 37 129)
  go_enter Try.func72, Try.ntmps72
  go_wp2_with fail
  go_ret
  exact ⟨_, _, _, _, _, rfl, H.out⟩
end Go.Proofs.Ytmmphmdmocfnpaa
