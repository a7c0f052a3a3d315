/- Collide. -/
import Derived.Test.YtmomidkodjihjaaDoorMs
namespace Go.Proofs.YtmomidkodjihjaaDoor
open Go.RowKit
open H
set_option maxHeartbeats 4000000
set_option maxRecDepth 100000
theorem co_arg (W : World) (hT : Tab W) (h2 : 1 < W.heap.size) (ao bo : Option Addr) (n c m d N M : Nat) (E F : List Int) (hN : E.length = N) (hM : F.length = M) (lN : N ≤ 262144) (lM : M ≤ 262144) (HA : EncOk W ao n c N E) (HB : EncOk W bo m d M F) (h : E = F ∨ sumW E ≠ sumW F) :
    Calls Tryd.prog 46 #[.slice ao n c, .slice bo m d, .func (.func 20) #[] #[]] W fun e W' => e = .returned (.tuple #[.agg nil2.toArray, .int .i64 1]) ∧ Below W.heap.size W W' := by
  refine (co_two W hT h2 ao bo n c m d N M E F hN hM lN lM HA HB).mono ?_
  rintro e w (⟨_, h1⟩ | ⟨⟨h1, h3⟩, _⟩)
  · exact h1
  · rcases h with h | h
    · exact absurd h h1
    · exact absurd h3 h
theorem co_pair (W : World) (hT : Tab W) (h2 : 1 < W.heap.size) (ao bo : Option Addr) (n c m d N M : Nat) (E F : List Int) (hN : E.length = N) (hM : F.length = M) (lN : N ≤ 262144) (lM : M ≤ 262144) (HA : EncOk W ao n c N E) (HB : EncOk W bo m d M F) (h : E ≠ F ∧ sumW E = sumW F) :
    Calls Tryd.prog 46 #[.slice ao n c, .slice bo m d, .func (.func 20) #[] #[]] W fun e W' => ∃ p cp q cq, e = .returned (.tuple #[.agg #[.slice p N cp, .slice q M cq], .int .i64 0]) ∧ Holds W W' .u32 24 (.slice p N cp) E ∧ Holds W W' .u32 24 (.slice q M cq) F := by
  refine (co_two W hT h2 ao bo n c m d N M E F hN hM lN lM HA HB).mono ?_
  rintro e w (⟨h1, _⟩ | ⟨_, h1⟩)
  · rcases h1 with h1 | h1
    · exact absurd h1 h.1
    · exact absurd h.2 h1
  · exact h1
theorem EncOk.on {W w : World} {ao : Option Addr} {n c N : Nat} {E : List Int} (h : EncOk W ao n c N E) (hw : Below W.heap.size W w) : EncOk w ao n c N E := fun w' hw' => h w' (below_on hw hw')
theorem EncNo.on {W w : World} {ao : Option Addr} {n c : Nat} {er : Int} (h : EncNo W ao n c er) (hw : Below W.heap.size W w) : EncNo w ao n c er := fun w' hw' => h w' (below_on hw hw')
/-- Collide, where nothing is told. -/
theorem col_no (W : World) (ao bo : Option Addr) (n c m d : Nat) (er : Int) (H : ∀ w, Below W.heap.size W w → Calls Tryd.prog 46 #[.slice ao n c, .slice bo m d, .func (.func 20) #[] #[]] w fun e W' => e = .returned (.tuple #[.agg nil2.toArray, .int .i64 er]) ∧ Below w.heap.size w W') :
    Calls Tryd.prog 21 #[.slice ao n c, .slice bo m d] W fun e W' => e = .returned (.tuple #[.agg nil2.toArray, .int .i64 er]) ∧ Below W.heap.size W W' := by
  have B1 := hid (below_one W (.cells #[.slice none 0 0, .slice none 0 0] 52))
  have C1 : Hid (Cel (W.alloc (.cells #[.slice none 0 0, .slice none 0 0] 52)) W.heap.size 52 nil2) := hid (heap_alloc_new _ _)
  have HE := hid H
  clear H
  go_enter Tryd.func21, Tryd.ntmps21
  go_wp2_with (first | (go_at_call 46; refine (HE.out _ B1.out).mono ?_; rintro e w1 ⟨rfl, hb⟩; have B2 := hid (below_on B1.out hb); have C2 := hid (C1.out.on hb); clear hb) | (revert C2; intro C2; refine wpList_store_st rfl 52 _ _ rfl W.heap.size nil2 rfl rfl C2.out size52 rfl rfl ?_; intro w3 hc3 hb3 hs3; have X3 := hid (And.intro (B2.out.trans (hb3.below (Nat.le_refl _) B2.out.size)) hc3); clear hc3 hb3 hs3 C2))
  refine ret_pair rfl rfl W.heap.size nil2 rfl X3.out.2 Tryd.underlying52 rfl size52 ⟨rfl, X3.out.1⟩
theorem col_arg (W : World) (hT : Tab W) (h2 : 1 < W.heap.size) (ao bo : Option Addr) (n c m d N M : Nat) (E F : List Int) (hN : E.length = N) (hM : F.length = M) (lN : N ≤ 262144) (lM : M ≤ 262144) (HA : EncOk W ao n c N E) (HB : EncOk W bo m d M F) (h : E = F ∨ sumW E ≠ sumW F) :
    Calls Tryd.prog 21 #[.slice ao n c, .slice bo m d] W fun e W' => e = .returned (.tuple #[.agg nil2.toArray, .int .i64 1]) ∧ Below W.heap.size W W' :=
  col_no W ao bo n c m d 1 (fun w hw => co_arg w (hT.below hw h2) (by have := hw.size; omega) ao bo n c m d N M E F hN hM lN lM (HA.on hw) (HB.on hw) h)
theorem col_pair (W : World) (hT : Tab W) (h2 : 1 < W.heap.size) (ao bo : Option Addr) (n c m d N M : Nat) (E F : List Int) (hN : E.length = N) (hM : F.length = M) (lN : N ≤ 262144) (lM : M ≤ 262144) (HA : EncOk W ao n c N E) (HB : EncOk W bo m d M F) (h : E ≠ F ∧ sumW E = sumW F) :
    Calls Tryd.prog 21 #[.slice ao n c, .slice bo m d] W fun e W' => ∃ p cp q cq, e = .returned (.tuple #[.agg #[.slice p N cp, .slice q M cq], .int .i64 0]) ∧ Holds W W' .u32 24 (.slice p N cp) E ∧ Holds W W' .u32 24 (.slice q M cq) F := by
  have B1 := hid (below_one W (.cells #[.slice none 0 0, .slice none 0 0] 52))
  have C1 : Hid (Cel (W.alloc (.cells #[.slice none 0 0, .slice none 0 0] 52)) W.heap.size 52 nil2) := hid (heap_alloc_new _ _)
  have HE := hid (fun w (hw : Below W.heap.size W w) => co_pair w (hT.below hw h2) (by have := hw.size; omega) ao bo n c m d N M E F hN hM lN lM (HA.on hw) (HB.on hw) h)
  clear HA HB hT h2 hN hM lN lM h
  go_enter Tryd.func21, Tryd.ntmps21
  go_wp2_with (first | (go_at_call 46; refine (HE.out _ B1.out).mono ?_; rintro e w1 ⟨p1, c1, p2, c2, rfl, h1, h2⟩; have B2 := hid (And.intro (holds_base h1 B1.out) (holds_base h2 B1.out)); have C2 := hid (C1.out.on h1.below); clear h1 h2) | (revert C2; intro C2; refine wpList_store_st rfl 52 _ _ rfl W.heap.size [.slice p1 N c1, .slice p2 M c2] rfl rfl C2.out size52 rfl rfl ?_; intro w7 hc7 hb7 hs7; have X7 : Hid (Holds W w7 .u32 24 (.slice p1 N c1) E ∧ Holds W w7 .u32 24 (.slice p2 M c2) F ∧ Cel w7 W.heap.size 52 [.slice p1 N c1, .slice p2 M c2]) := hid ⟨holds_but B2.out.1 hb7 (Nat.le_refl _) (fun e => cel_ty B2.out.1.own C2.out (by decide) _ e rfl), holds_but B2.out.2 hb7 (Nat.le_refl _) (fun e => cel_ty B2.out.2.own C2.out (by decide) _ e rfl), hc7⟩; clear hc7 hb7 hs7 C2))
  refine ret_pair rfl rfl W.heap.size [.slice p1 N c1, .slice p2 M c2] rfl X7.out.2.2 Tryd.underlying52 rfl size52 ⟨p1, c1, p2, c2, rfl, X7.out.1, X7.out.2.1⟩
end Go.Proofs.YtmomidkodjihjaaDoor
