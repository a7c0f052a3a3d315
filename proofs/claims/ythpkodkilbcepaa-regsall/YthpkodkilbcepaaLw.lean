/- The frame of a law's proof; arguments opened. -/
import Derived.Test.YthpkodkilbcepaaLb
import Derived.Test.YthpkodkilbcepaaRows
import Derived.ProofKit
import Derived.OpenShut
import Derived.ShutString
import Derived.ChangeOld
import Derived.Below
import Derived.Deep.DeepHandedRow
import Derived.SizedLaws
import Derived.Lib.LaidTab
namespace Go.Proofs.Ythpkodkilbcepaa
open Go.ChangeShapes Go.WideShapes Go.ChangeAt Go.RowKit

theorem own : ownKnob Try.prog.godebug = none := by kernel_rfl
theorem laidOut : laidOutB Try.prog = true := by kernel_rfl
theorem cells25 : Try.prog.cellsOf 25 = 19 := by kernel_rfl
theorem cells23 : Try.prog.cellsOf 23 = 15 := by kernel_rfl
theorem cells22 : Try.prog.cellsOf 22 = 1 := by kernel_rfl
theorem cells4 : Try.prog.cellsOf 4 = 1 := by kernel_rfl
theorem bytes22 : Try.prog.bytesOf 22 = 4 := by kernel_rfl
/-- What was read as data reads so still, where nothing that was there has turned. -/
theorem trodAll_below {H : Type} {enc : TypeId × Value → H} {P : Program} (hl : laidOutB P = true) {W W' : World} (hb : Below W.heap.size W W') (ts : List TypeId) : ∀ {vs : List Value} {ds : List (DataW H)} {ps : List MemPlace},
    (ts.all fun t => P.readableRec t && decide (t < P.types.size)) = true → DataW.TrodAll enc P W 0 (fun _ => true) true ts vs ds ps → (∀ x ∈ ps, x.block < W.heap.size) →
    DataW.TrodAll enc P W' 0 (fun b => decide (b < W.heap.size)) true ts vs ds ps := by
  induction ts with
  | nil =>
    intro vs ds ps _ h _
    obtain ⟨rfl, rfl, rfl⟩ := trodAll_nil h
    exact trodAll_mk0
  | cons t ts ih =>
    intro vs ds ps ht h hlt
    obtain ⟨v0, vs0, d0, ds0, p0, q0, rfl, rfl, rfl, h0, r0⟩ := trodAll_cons h
    simp only [List.all_cons, Bool.and_eq_true, decide_eq_true_eq] at ht
    exact trodAll_cons_mk (Below.trod hl ht.1.1 ht.1.2 h0 hb (fun x hx => hlt x (by simp [hx]))) (ih (by simpa using ht.2) r0 (fun x hx => hlt x (by simp [hx])))

/-- THE ROW's END: a law that answered true and turned nothing. -/
theorem law_post {H : Type} {enc : TypeId × Value → H} {f : Func} {s : ChangeSpec} {W W' : World} {args : Array Value} {ds gs : List (DataW H)} {before : List MemPlace}
    (hts : (f.params.toList.all fun t => Try.prog.readableRec t && decide (t < Try.prog.types.size)) = true) (hr : f.resultTypes = #[4]) (hv : s.vars = [])
    (hs : s.fn H (ds ++ gs) = { results := [.lit (.bool true)], args := ds })
    (hW : DataW.Whole enc Try.prog f.params.toList s.vars false W args.toList ds gs before) (hb : Below W.heap.size W W') :
    s.post enc Try.prog f false true false false W args (.bool true) W' := by
  have hW' := hW
  have hlt := hW.lt
  obtain ⟨p, q, hA, hV, rfl, hfz, hnd⟩ := hW
  rw [hv] at hV
  obtain ⟨rfl, rfl⟩ := trodVars_none hV
  rw [List.append_nil] at hlt
  refine ⟨ds, [], _, [], p, [], hW', ?_, ?_, ?_, hb.frame _, fun h => by cases h⟩
  · rw [hs, hr]
    exact trodAll_mk1 (shut_bool under4 _)
  · rw [hs]
    exact trodAll_below laidOut hb _ hts hA hlt
  · rw [hs, hv]
    rfl



noncomputable def plainWorld (os : Os) : World := World.holding Try.prog os ⟨#[], #[], []⟩
def geti (cs : List Value) (k : Nat) : Int := match cs[k]? with
  | some (.int _ n) => n
  | _ => 0
def getb (cs : List Value) (k : Nat) : Bool := match cs[k]? with
  | some (.bool n) => n
  | _ => false
theorem take_one {cs : List Value} {k : Nat} {v : Value} (h : (cs.drop k).take 1 = [v]) : cs[k]? = some v := by
  have := congrArg (fun l => l[0]?) h
  simpa using this
theorem fields25 : (Try.prog.fieldsOf 25).toList.map (fun f => (f.type, f.offset)) = [(23, 0), (22, 15), (4, 16), (4, 17), (4, 18)] := by kernel_rfl
set_option maxRecDepth 100000 in
theorem open_file {H : Type} {enc : TypeId × Value → H} {W : World} {b0 fuel : Nat} {sp : Nat → Bool} {held : Bool} {cs : List Value} {y : DataW H × List MemPlace}
    (h : DataW.trod enc Try.prog W b0 sp held fuel 25 cs = some y) : ∃ f : F, cs = f.cs := by
  obtain ⟨xs, m, rfl, hy, hlen, hn, hel⟩ := DataW.trod_struct under25 h
  rw [cells25] at hlen
  have hsz : xs.length = 5 := hn
  match xs, hsz with
  | [x0, x1, x2, x3, x4], _ =>
    have e0 : DataW.trod enc Try.prog W b0 sp held m 23 ((cs.drop 0).take (Try.prog.cellsOf 23)) = some x0 := hel 0 _ rfl
    have e1 : DataW.trod enc Try.prog W b0 sp held m 22 ((cs.drop 15).take (Try.prog.cellsOf 22)) = some x1 := hel 1 _ rfl
    have e2 : DataW.trod enc Try.prog W b0 sp held m 4 ((cs.drop 16).take (Try.prog.cellsOf 4)) = some x2 := hel 2 _ rfl
    have e3 : DataW.trod enc Try.prog W b0 sp held m 4 ((cs.drop 17).take (Try.prog.cellsOf 4)) = some x3 := hel 3 _ rfl
    have e4 : DataW.trod enc Try.prog W b0 sp held m 4 ((cs.drop 18).take (Try.prog.cellsOf 4)) = some x4 := hel 4 _ rfl
    rw [cells23] at e0
    rw [cells22] at e1
    rw [cells4] at e2 e3 e4
    obtain ⟨q1, g1, _, k1⟩ := DataW.trod_int under22 (show _ = some x1 from e1)
    obtain ⟨q2, g2, _⟩ := DataW.trod_bool under4 (show _ = some x2 from e2)
    obtain ⟨q3, g3, _⟩ := DataW.trod_bool under4 (show _ = some x3 from e3)
    obtain ⟨q4, g4, _⟩ := DataW.trod_bool under4 (show _ = some x4 from e4)
    obtain ⟨ys, m', rfl, hy0, hl0, hn0, hel0⟩ := DataW.trod_array under23 e0
    rw [cells22] at hel0
    have hk : ∀ k, k < 15 → ∃ n, cs[k]? = some (.int .u32 n) := fun k hk => by
      have he := hel0 k hk
      rw [List.getElem?_eq_getElem (by omega)] at he
      obtain ⟨q, g, _, _⟩ := DataW.trod_int under22 he
      refine ⟨q, ?_⟩
      have := take_one g
      rw [Nat.mul_one, List.drop_zero, List.getElem?_take_of_lt hk] at this
      exact this
    refine ⟨⟨geti cs, q1, q2, q3, q4⟩, ?_⟩
    apply List.ext_getElem?
    intro k
    by_cases h15 : k < 15
    · obtain ⟨n, hn⟩ := hk k h15
      rw [F.at _ k h15, hn]
      simp [geti, hn]
    · rcases (show k = 15 ∨ k = 16 ∨ k = 17 ∨ k = 18 ∨ 19 ≤ k by omega) with rfl | rfl | rfl | rfl | h19
      · rw [F.at15, take_one g1]
      · rw [F.at16, take_one g2]
      · rw [F.at17, take_one g3]
      · rw [F.at18, take_one g4]
      · rw [List.getElem?_eq_none (by omega), List.getElem?_eq_none (by rw [F.len]; omega)]
theorem open_f {H : Type} {enc : TypeId × Value → H} {W : World} {base b0 : Nat} {held : Bool} {v : Value} {d : DataW H} {p : List MemPlace}
    (hv : Value.okWide Try.prog W .any base 25 v) (h : DataW.Trod enc Try.prog W b0 (fun _ => true) held 25 v d p) : ∃ f : F, v = f.v := by
  obtain ⟨cs, rfl, hsz, _⟩ : ∃ cs, v = .agg cs ∧ cs.size = Try.prog.cellsOf 25 ∧ Row.okWide Try.prog W .any base 25 cs := by
    simpa [Value.okWide, under25] using hv
  obtain ⟨fuel, hf⟩ := h
  obtain ⟨f, hc⟩ := open_file hf
  refine ⟨f, ?_⟩
  rw [F.v, ← hc]
  simp [Value.cells]
theorem lit_u32 {n : Int} (h : (Lit.int .u32 n).wf = true) : 0 ≤ n ∧ n < 4294967296 := by
  simp only [Lit.wf, IntKind.min, IntKind.max, IntKind.signed, IntKind.bits, Bool.and_eq_true] at h
  obtain ⟨h1, h2⟩ := h
  simp at h1 h2
  omega
end Go.Proofs.Ythpkodkilbcepaa
