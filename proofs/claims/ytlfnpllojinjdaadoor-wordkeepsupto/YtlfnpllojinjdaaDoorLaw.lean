/- What every statement of this seat needs beside its walk: the table, the witness, the row's end. -/
import Derived.Test.YtlfnpllojinjdaaDoorCards
import Derived.Test.YtlfnpllojinjdaaDoorTie
import Derived.Test.YtlfnpllojinjdaaDoorCore
import Derived.ProofKit
import Derived.OpenShut
import Derived.ShutString
import Derived.ChangeOld
import Derived.Below
import Derived.Deep.DeepHandedRow
import Derived.Lib.LaidTab
namespace Go.Proofs.YtlfnpllojinjdaaDoor
open Go.ChangeShapes Go.WideShapes Go.ChangeAt Go.RowKit

theorem own : ownKnob Tryd.prog.godebug = none := by kernel_rfl
theorem laidOut : laidOutB Tryd.prog = true := by kernel_rfl
theorem gTab : Tryd.prog.globalNamed "warden/word.lows" = some 0 := by kernel_rfl
theorem gTabType : (Tryd.prog.globals[0]?).map (·.type) = some 72 := by kernel_rfl
theorem cells72 : Tryd.prog.cellsOf 72 = 33 := by kernel_rfl
theorem cells22 : Tryd.prog.cellsOf 22 = 1 := by kernel_rfl
def lows : List Int := (List.range 33).map fun i => 2 ^ i - 1
theorem tab_of {W : World} (h : laidMetH Tryd.prog Rows.wordSumsRow.laid W) : Tab W ∧ 0 < W.heap.size := by
  have hT : Lib.TabIs Tryd.prog W "warden/word.lows" .u32 lows := Lib.tabIs_of_head (rest := []) gTab gTabType Tryd.underlying72 Tryd.underlying22 cells22 cells72 h
  have hc : ∀ i : Nat, i ≤ 32 → W.cell? ⟨0, i, none⟩ = some (.int .u32 (2 ^ i - 1)) := by
    intro i hi
    have := hT.cell gTab i (by simp [lows]; omega)
    rw [this]
    have e : lows.getD i 0 = 2 ^ i - 1 := by simp [lows, List.getD_eq_getElem?_getD, show i < 33 by omega]
    rw [e]
  refine ⟨hc, ?_⟩
  have := hc 0 (by decide)
  rcases Nat.eq_zero_or_pos W.heap.size with h0 | h0
  · simp [World.cell?, Array.getElem?_eq_none (show W.heap.size ≤ 0 by omega)] at this
  · exact h0

/-- What was read as data reads so still, where nothing that was there has turned. -/
theorem trodAll_below {H : Type} {enc : TypeId × Value → H} {P : Program} (hl : laidOutB P = true) {W W' : World} (hb : Below W.heap.size W W') (ts : List TypeId) : ∀ {vs : List Value} {ds : List (DataW H)} {ps : List MemPlace},
    (ts.all fun t => P.readableRec t && decide (t < P.types.size)) = true → DataW.TrodAll enc P W 0 (fun _ => true) true ts vs ds ps → (∀ x ∈ ps, x.block < W.heap.size) →
    DataW.TrodAll enc P W' 0 (fun b => decide (b < W.heap.size)) true ts vs ds ps := by
  induction ts with
  | nil =>
    intro vs ds ps _ h _
    obtain ⟨rfl, rfl, rfl⟩ := trodAll_nil h
    exact trodAll_mk0
  | cons t ts ih =>
    intro vs ds ps ht h hlt
    obtain ⟨v0, vs0, d0, ds0, p0, q0, rfl, rfl, rfl, h0, r0⟩ := trodAll_cons h
    simp only [List.all_cons, Bool.and_eq_true, decide_eq_true_eq] at ht
    exact trodAll_cons_mk (Below.trod hl ht.1.1 ht.1.2 h0 hb (fun x hx => hlt x (by simp [hx]))) (ih (by simpa using ht.2) r0 (fun x hx => hlt x (by simp [hx])))

/-- THE ROW's END: a law that answered true and turned nothing. -/
theorem law_post {H : Type} {enc : TypeId × Value → H} {f : Func} {s : ChangeSpec} {W W' : World} {args : Array Value} {ds gs : List (DataW H)} {before : List MemPlace}
    (hts : (f.params.toList.all fun t => Tryd.prog.readableRec t && decide (t < Tryd.prog.types.size)) = true) (hr : f.resultTypes = #[4]) (hv : s.vars = [])
    (hs : s.fn H (ds ++ gs) = { results := [.lit (.bool true)], args := ds })
    (hW : DataW.Whole enc Tryd.prog f.params.toList s.vars false W args.toList ds gs before) (hb : Below W.heap.size W W') :
    s.post enc Tryd.prog f false true false false W args (.bool true) W' := by
  have hW' := hW
  have hlt := hW.lt
  obtain ⟨p, q, hA, hV, rfl, hfz, hnd⟩ := hW
  rw [hv] at hV
  obtain ⟨rfl, rfl⟩ := trodVars_none hV
  rw [List.append_nil] at hlt
  refine ⟨ds, [], _, [], p, [], hW', ?_, ?_, ?_, hb.frame _, fun h => by cases h⟩
  · rw [hs, hr]
    exact trodAll_mk1 (shut_bool Tryd.underlying4 _)
  · rw [hs]
    exact trodAll_below laidOut hb _ hts hA hlt
  · rw [hs, hv]
    rfl

/-- A WORLD FOR THE WITNESSES: the settled one, the table (block 0) holding what its initialiser lays. -/
noncomputable def laidWorld (os : Os) : World :=
  { World.holding Tryd.prog os ⟨#[], #[], []⟩ with heap := (World.holding Tryd.prog os ⟨#[], #[], []⟩).heap.modify 0 fun
      | .cells _ t frozen => .cells #[.int .u32 0, .int .u32 1, .int .u32 3, .int .u32 7, .int .u32 15, .int .u32 31, .int .u32 63, .int .u32 127, .int .u32 255, .int .u32 511, .int .u32 1023, .int .u32 2047, .int .u32 4095, .int .u32 8191, .int .u32 16383, .int .u32 32767, .int .u32 65535, .int .u32 131071, .int .u32 262143, .int .u32 524287, .int .u32 1048575, .int .u32 2097151, .int .u32 4194303, .int .u32 8388607, .int .u32 16777215, .int .u32 33554431, .int .u32 67108863, .int .u32 134217727, .int .u32 268435455, .int .u32 536870911, .int .u32 1073741823, .int .u32 2147483647, .int .u32 4294967295] t frozen
      | o => o }
end Go.Proofs.YtlfnpllojinjdaaDoor
