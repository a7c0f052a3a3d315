/- The law AttestJudges 4: its state, its end. -/
import Derived.Test.YtbpdmkohihgnjaaDoorJh
namespace Go.Proofs.YtbpdmkohihgnjaaDoor
open Go.RowKit
set_option maxHeartbeats 8000000
set_option maxRecDepth 100000
def sfx : Nat → Code → Code
  | n + 1, .seq _ b => sfx n b
  | _, c => c
def hdx (n : Nat) (c : Code) : Code := match sfx n c with
  | .seq x _ => x
  | c => c
theorem hd_walk {body : Option Code} (n : Nat) {code x y : Code} {Q : Exit → Act → World → Prop} {K : Act → World → Prop} {a : Act} {w : World} (h : body = some code) (h' : hdx n code = x) (h2 : sfx (n + 1) code = y)
    (hK : ∀ a w, Code.wp Tryd.prog (sfx (n + 1) (body.getD .skip)) Q a w → K a w) (hw : (∀ a w, Code.wp Tryd.prog y Q a w → K a w) → Code.wp Tryd.prog x (Exit.then K Q) a w) : Code.wp Tryd.prog (hdx n (body.getD .skip)) (Exit.then K Q) a w := by
  subst h' h2
  rw [h] at hK ⊢
  exact hw hK
theorem num_any (W : World) (x : Int) : Calls Tryd.prog 16 #[.int .i64 x] W fun e w' => e = .returned (.int .i64 x) ∧ w' = W := by
  go_enter Tryd.func16, Tryd.ntmps16
  go_wp2
  go_ret
  exact ⟨rfl, rfl⟩
/-- A claim's cells. -/
def claC (s o q : List Int) (ri sa : Bool) : List Value := (s ++ (o ++ q)).map (Value.int .u32) ++ [.bool ri, .bool sa]
theorem size40 : (Tryd.prog.info? 40).map (·.size) = some 42 := by kernel_rfl
theorem range_app {w : World} {g o : Nat} {a b : List Value} (h : w.rangeAt g o (a ++ b)) : w.rangeAt g o a := fun j v hv => h j v (by rw [List.getElem?_append_left (List.getElem?_eq_some_iff.1 hv).1]; exact hv)
theorem cla0 {w : World} {g : Nat} {s o q : List Int} {ri sa : Bool} (h : Cel w g 40 (claC s o q ri sa)) : w.rangeAt g 0 (s.map (Value.int .u32)) := range_left (range_app (cel_range h))
theorem cla8 {w : World} {g : Nat} {s o q : List Int} {ri sa : Bool} (h : Cel w g 40 (claC s o q ri sa)) (hs : s.length = 8) : w.rangeAt g 8 (o.map (Value.int .u32)) := by
  have := range_left (range_right (range_app (cel_range h)) hs)
  rwa [Nat.zero_add] at this
theorem cla16 {w : World} {g : Nat} {s o q : List Int} {ri sa : Bool} (h : Cel w g 40 (claC s o q ri sa)) (hs : s.length = 8) (ho : o.length = 8) : w.rangeAt g 16 (q.map (Value.int .u32)) := by
  have := range_right (range_right (range_app (cel_range h)) hs) ho
  rwa [Nat.zero_add] at this
theorem cla40 {w : World} {g : Nat} {s o q : List Int} {ri sa : Bool} (h : Cel w g 40 (claC s o q ri sa)) (hs : s.length = 8) (ho : o.length = 8) (hq : q.length = 24) : w.cell? ⟨g, 40, none⟩ = some (.bool ri) ∧ w.cell? ⟨g, 41, none⟩ = some (.bool sa) := by
  have hl : ((s ++ (o ++ q)).map (Value.int .u32)).length = 40 := by simp [hs, ho, hq]
  rw [h.cell 40, h.cell 41, claC, List.getElem?_append_right (by omega), List.getElem?_append_right (by omega), hl]
  exact ⟨rfl, rfl⟩
/-- What the law holds: the policy, the claim, the key, the quote. -/
structure JL (W : World) (E : Nat → Addr) (g4 g7 g8 : Nat) (ao : Option Addr) (n c : Nat) (ot : Bool) (R : List Rl) (s o q : List Int) (ri sa : Bool) (k m d t : List Int) (w : World) : Prop where
  bl : Below W.heap.size W w
  tb : Tabs w
  es : ErrS w E
  p3 : Cel w W.heap.size 36 (polC ao n c ot)
  c4 : Cel w g4 40 (claC s o q ri sa)
  b7 : Blk w g7 .u32 23 k
  b8 : Blk w g8 .u32 38 (quoL m d t)
  ru : RulesAt w ao R
  l4 : W.heap.size < g4
  l7 : g4 < g7
  l8 : g7 < g8
  w13 : 12 < W.heap.size
  rw : ∀ b off, ao = some ⟨b, off, none⟩ → R ≠ [] → b < W.heap.size
theorem JL.on {W : World} {E : Nat → Addr} {g4 g7 g8 : Nat} {ao : Option Addr} {n c : Nat} {ot : Bool} {R : List Rl} {s o q : List Int} {ri sa : Bool} {k m d t : List Int} {w w' : World} (h : JL W E g4 g7 g8 ao n c ot R s o q ri sa k m d t w) (hb : Below w.heap.size w w') : JL W E g4 g7 g8 ao n c ot R s o q ri sa k m d t w' :=
  ⟨below_on h.bl hb, h.tb.on hb, h.es.on hb, h.p3.on hb, h.c4.on hb, h.b7.on hb, h.b8.on hb, h.ru.on hb, h.l4, h.l7, h.l8, h.w13, h.rw⟩
/-- Facts of the numbers: lengths, ranges. -/
structure JF (W : World) (ao : Option Addr) (n : Nat) (R : List Rl) (s o q k m d t : List Int) : Prop where
  hs : s.length = 8
  ho : o.length = 8
  hq : q.length = 24
  hk : k.length = 8
  hm : m.length = 8
  hd : d.length = 8
  ht : t.length = 8
  wo : Wds o
  wk : Wds k
  wm : Wds m
  wd : Wds d
  wt : Wds t
  hn : R.length = n
  ok : ∀ r ∈ R, r.Ok
  hmax : (n : Int) ≤ 9223372036854775807
structure JR (W : World) (g8 b off n c : Nat) (ot : Bool) (m d t : List Int) (r : Rl) (j : Nat) (w : World) : Prop where
  p3 : Cel w W.heap.size 36 (polC (some ⟨b, off, none⟩) n c ot)
  b8 : Blk w g8 .u32 38 (quoL m d t)
  rr : w.rangeAt b (off + j * 10) r.cs
end Go.Proofs.YtbpdmkohihgnjaaDoor
