/- asm's finish (92). -/
import Derived.Test.YtncnogndopgknaaGreatDoorAs9
namespace Go.Proofs.YtncnogndopgknaaGreatDoor
open Go.RowKit
theorem alloc_size (W : World) (o : Obj) : (W.alloc o).heap.size = W.heap.size + 1 := by simp
theorem six_new (W : World) (c1 c2 c3 c4 c5 c6 : List Value) (t1 t2 t3 t4 t5 t6 : TypeId) :
    Cel ((((((W.alloc (.cells c1.toArray t1)).alloc (.cells c2.toArray t2)).alloc (.cells c3.toArray t3)).alloc (.cells c4.toArray t4)).alloc (.cells c5.toArray t5)).alloc (.cells c6.toArray t6)) W.heap.size t1 c1 ∧
    Cel ((((((W.alloc (.cells c1.toArray t1)).alloc (.cells c2.toArray t2)).alloc (.cells c3.toArray t3)).alloc (.cells c4.toArray t4)).alloc (.cells c5.toArray t5)).alloc (.cells c6.toArray t6)) (W.heap.size + 1) t2 c2 ∧
    Cel ((((((W.alloc (.cells c1.toArray t1)).alloc (.cells c2.toArray t2)).alloc (.cells c3.toArray t3)).alloc (.cells c4.toArray t4)).alloc (.cells c5.toArray t5)).alloc (.cells c6.toArray t6)) (W.heap.size + 1 + 1) t3 c3 ∧
    Cel ((((((W.alloc (.cells c1.toArray t1)).alloc (.cells c2.toArray t2)).alloc (.cells c3.toArray t3)).alloc (.cells c4.toArray t4)).alloc (.cells c5.toArray t5)).alloc (.cells c6.toArray t6)) (W.heap.size + 1 + 1 + 1) t4 c4 ∧
    Cel ((((((W.alloc (.cells c1.toArray t1)).alloc (.cells c2.toArray t2)).alloc (.cells c3.toArray t3)).alloc (.cells c4.toArray t4)).alloc (.cells c5.toArray t5)).alloc (.cells c6.toArray t6)) (W.heap.size + 1 + 1 + 1 + 1) t5 c5 ∧
    Cel ((((((W.alloc (.cells c1.toArray t1)).alloc (.cells c2.toArray t2)).alloc (.cells c3.toArray t3)).alloc (.cells c4.toArray t4)).alloc (.cells c5.toArray t5)).alloc (.cells c6.toArray t6)) (W.heap.size + 1 + 1 + 1 + 1 + 1) t6 c6 ∧
    Below W.heap.size W ((((((W.alloc (.cells c1.toArray t1)).alloc (.cells c2.toArray t2)).alloc (.cells c3.toArray t3)).alloc (.cells c4.toArray t4)).alloc (.cells c5.toArray t5)).alloc (.cells c6.toArray t6)) := by
  have s1 := alloc_size W (.cells c1.toArray t1)
  have e1 := Cel.new W t1 c1
  have b1 := below_one W (.cells c1.toArray t1)
  generalize W.alloc (.cells c1.toArray t1) = W1 at *
  have s2 := alloc_size W1 (.cells c2.toArray t2)
  have e2 := Cel.new W1 t2 c2
  have f1 := e1.on (below_one W1 (.cells c2.toArray t2))
  have b2 := below_on b1 (below_one W1 (.cells c2.toArray t2))
  rw [s1] at s2 e2
  generalize W1.alloc (.cells c2.toArray t2) = W2 at *
  have s3 := alloc_size W2 (.cells c3.toArray t3)
  have e3 := Cel.new W2 t3 c3
  have g1 := f1.on (below_one W2 (.cells c3.toArray t3))
  have g2 := e2.on (below_one W2 (.cells c3.toArray t3))
  have b3 := below_on b2 (below_one W2 (.cells c3.toArray t3))
  rw [s2] at s3 e3
  generalize W2.alloc (.cells c3.toArray t3) = W3 at *
  have s4 := alloc_size W3 (.cells c4.toArray t4)
  have e4 := Cel.new W3 t4 c4
  have h1 := g1.on (below_one W3 (.cells c4.toArray t4))
  have h2 := g2.on (below_one W3 (.cells c4.toArray t4))
  have h3 := e3.on (below_one W3 (.cells c4.toArray t4))
  have b4 := below_on b3 (below_one W3 (.cells c4.toArray t4))
  rw [s3] at s4 e4
  generalize W3.alloc (.cells c4.toArray t4) = W4 at *
  have s5 := alloc_size W4 (.cells c5.toArray t5)
  have e5 := Cel.new W4 t5 c5
  have i1 := h1.on (below_one W4 (.cells c5.toArray t5))
  have i2 := h2.on (below_one W4 (.cells c5.toArray t5))
  have i3 := h3.on (below_one W4 (.cells c5.toArray t5))
  have i4 := e4.on (below_one W4 (.cells c5.toArray t5))
  have b5 := below_on b4 (below_one W4 (.cells c5.toArray t5))
  rw [s4] at s5 e5
  generalize W4.alloc (.cells c5.toArray t5) = W5 at *
  have e6 := Cel.new W5 t6 c6
  rw [s5] at e6
  have bb := below_one W5 (.cells c6.toArray t6)
  exact ⟨i1.on bb, i2.on bb, i3.on bb, i4.on bb, e5.on bb, e6, below_on b5 bb⟩
theorem finish_any (W : World) (g : Nat) (line : Nat) (hgl : W.cell? ⟨g, 1, none⟩ = some (.int .i64 (line : Int))) (k : S.Kd) (gO n cap at' place : Nat) :
    Calls Tryz.prog 92 #[.pointer (some ⟨g, 0, none⟩), kdV k, .slice (some ⟨gO, 0, none⟩) n cap, .int .i64 (at' : Int), .int .i64 (place : Int)] W fun x w' => ∃ d : Fc, x = .returned (fcV d) ∧ d.gO = gO ∧ d.cap = cap ∧ Below W.heap.size W w' ∧
      Cel w' d.g7 192 [.slice (some ⟨gO, 0, none⟩) n cap] ∧ Cel w' d.g8 3 [.int .i64 (at' : Int)] ∧ Cel w' d.g5 68 [.pointer (some ⟨g, 0, none⟩)] ∧ Cel w' d.g11 3 [.int .i64 (line : Int)] ∧ Cel w' d.g6 188 (kdC k) ∧ Cel w' d.g9 3 [.int .i64 (place : Int)] := by
  have hglt : g < W.heap.size := by
    rcases Nat.lt_or_ge g W.heap.size with h | h
    · exact h
    · simp [World.cell?, Array.getElem?_eq_none h] at hgl
  have HG : Hid (∀ x, Below W.heap.size W x → x.cell? ⟨g, 1, none⟩ = some (.int .i64 (line : Int))) := hid (fun x hx => by rw [hx.cell (p := ⟨g, 1, none⟩) hglt]; exact hgl)
  have h5 : ∀ o1 o2 o3 o4 o5, (((((W.alloc o1).alloc o2).alloc o3).alloc o4).alloc o5).cell? ⟨g, 1, none⟩ = some (.int .i64 (line : Int)) := fun o1 o2 o3 o4 o5 => HG.out _ (below_on (below_on (below_on (below_on (below_one _ _) (below_one _ _)) (below_one _ _)) (below_one _ _)) (below_one _ _))
  have HS := hid (six_new W [.pointer (some ⟨g, 0, none⟩)] (kdC k) [.slice (some ⟨gO, 0, none⟩) n cap] [.int .i64 (at' : Int)] [.int .i64 (place : Int)] [.int .i64 (line : Int)] 68 188 192 3 3 3)
  have hmf := hmf
  simp only [kdV]
  clear hgl hglt HG
  go_enter Tryz.func92, Tryz.ntmps92
  go_wp2_with fail
  go_ret
  exact ⟨⟨W.heap.size + 1 + 1, W.heap.size + 1 + 1 + 1, W.heap.size, W.heap.size + 1 + 1 + 1 + 1 + 1, W.heap.size + 1, W.heap.size + 1 + 1 + 1 + 1, gO, cap⟩, rfl, rfl, rfl, HS.out.2.2.2.2.2.2, HS.out.2.2.1, HS.out.2.2.2.1, HS.out.1, HS.out.2.2.2.2.2.1, HS.out.2.1, HS.out.2.2.2.2.1⟩
end Go.Proofs.YtncnogndopgknaaGreatDoor
