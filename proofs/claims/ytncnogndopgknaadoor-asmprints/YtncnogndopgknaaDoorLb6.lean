/- asm's labelOf (12). -/
import Derived.Test.YtncnogndopgknaaDoorTn6
namespace Go.Proofs.YtncnogndopgknaaDoor
open Go.RowKit
theorem labelOf_any (W : World) (hT : TB W) (ao : Option Addr) (n c g : Nat) (ws : List Nat) (hl : ws.length = n) (hn : n ≤ 2048) (hat : AtW W ao ws) (hw : ∀ x ∈ ws, x < 4294967296) (hc : Cel W g 9 (A.nms ws (n + 1))) (p : Nat) (hp : p < n) :
    Calls Tryd.prog 12 #[.slice ao n c, .int .i64 (p : Int), .slice (some ⟨g, 0, none⟩) (n + 1) (n + 1)] W fun e w' => e = .returned (.string ⟨(A.lab ws p).toArray⟩) ∧ Below W.heap.size W w' := by
  have H17 := hid (target_ws W hT ws p n hl hn hp hw)
  have n1 : (n : Int) ≤ 2048 := by omega
  have p1 : (p : Int) < (n : Int) := by omega
  rcases hat with h0 | ⟨b, o, rfl, hb, hcc⟩
  · rw [h0] at hl; simp at hl; omega
  have hck : W.cell? ⟨b, o + p, none⟩ = some (.int .u32 ((ws.getD p 0 : Nat) : Int)) := by
    rw [hcc p (by omega), List.getD_eq_getElem?_getD, List.getElem?_eq_getElem (by omega), Option.getD_some]
  have HC : Hid (Cel W g 9 (A.nms ws (n + 1))) := hc
  clear hT hw hcc hc
  cases htg : A.tg ws p with
  | none =>
    have HL : Hid (A.lab ws p = []) := hid (by unfold A.lab; rw [htg])
    rw [HL.out]
    rw [htg] at H17
    generalize ws.getD p 0 = u at *
    clear hl htg
    go_enter Tryd.func12, Tryd.ntmps12
    go_wp2_with (go_at_call 17; refine H17.out.mono ?_; rintro e w2 ⟨⟨x, rfl, hx⟩, hb2⟩)
    go_ret
    exact ⟨rfl, hb2⟩
  | some t =>
    have ht : t ≤ n := by have := A.tg_le htg; rw [hl] at this; exact this
    have c2 : (t : Int) ≤ (n : Int) := by omega
    have HL : Hid (A.lab ws p = A.nmAt ws t) := hid (by unfold A.lab; rw [htg])
    rw [HL.out]
    have HNC : Hid (∀ w, Below W.heap.size W w → w.cell? ⟨g, t, none⟩ = some (.string ⟨(A.nmAt ws t).toArray⟩)) := hid (fun w hw => by
      rw [(HC.out.on hw).cell t, A.nms_at ws (n + 1) t (by omega), if_pos (by omega)])
    rw [htg] at H17
    generalize ws.getD p 0 = u at *
    generalize A.nmAt ws t = q at *
    clear hl htg HC
    go_enter Tryd.func12, Tryd.ntmps12
    go_wp2_with (go_at_call 17; refine H17.out.mono ?_; rintro e w2 ⟨⟨x, rfl, hx⟩, hb2⟩; obtain rfl := hx t rfl; have hnc := HNC.out w2 hb2)
    go_ret
    exact ⟨rfl, hb2⟩
end Go.Proofs.YtncnogndopgknaaDoor
