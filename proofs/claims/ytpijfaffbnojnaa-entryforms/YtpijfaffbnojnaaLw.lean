/- The frame of a law's proof; arguments opened. -/
import Derived.Test.YtpijfaffbnojnaaEg
import Derived.Test.YtpijfaffbnojnaaRows
import Derived.ProofKit
import Derived.OpenShut
import Derived.ShutString
import Derived.ChangeOld
import Derived.Below
import Derived.Deep.DeepHandedRow
import Derived.SizedLaws
import Derived.Lib.LaidTab
namespace Go.Proofs.Ytpijfaffbnojnaa
open Go.ChangeShapes Go.WideShapes Go.ChangeAt Go.RowKit
theorem own : ownKnob Try.prog.godebug = none := by kernel_rfl
theorem laidOut : laidOutB Try.prog = true := by kernel_rfl
theorem cells3 : Try.prog.cellsOf 3 = 1 := by kernel_rfl
theorem cells4 : Try.prog.cellsOf 4 = 1 := by kernel_rfl
theorem cellsW : Try.prog.cellsOf 24 = 1 := by kernel_rfl
theorem trodAll_below {H : Type} {enc : TypeId × Value → H} {P : Program} (hl : laidOutB P = true) {W W' : World} (hb : Below W.heap.size W W') (ts : List TypeId) : ∀ {vs : List Value} {ds : List (DataW H)} {ps : List MemPlace},
    (ts.all fun t => P.readableRec t && decide (t < P.types.size)) = true → DataW.TrodAll enc P W 0 (fun _ => true) true ts vs ds ps → (∀ x ∈ ps, x.block < W.heap.size) →
    DataW.TrodAll enc P W' 0 (fun b => decide (b < W.heap.size)) true ts vs ds ps := by
  induction ts with
  | nil =>
    intro vs ds ps _ h _
    obtain ⟨rfl, rfl, rfl⟩ := trodAll_nil h
    exact trodAll_mk0
  | cons t ts ih =>
    intro vs ds ps ht h hlt
    obtain ⟨v0, vs0, d0, ds0, p0, q0, rfl, rfl, rfl, h0, r0⟩ := trodAll_cons h
    simp only [List.all_cons, Bool.and_eq_true, decide_eq_true_eq] at ht
    exact trodAll_cons_mk (Below.trod hl ht.1.1 ht.1.2 h0 hb (fun x hx => hlt x (by simp [hx]))) (ih (by simpa using ht.2) r0 (fun x hx => hlt x (by simp [hx])))
theorem law_post {H : Type} {enc : TypeId × Value → H} {f : Func} {s : ChangeSpec} {W W' : World} {args : Array Value} {ds gs : List (DataW H)} {before : List MemPlace}
    (hts : (f.params.toList.all fun t => Try.prog.readableRec t && decide (t < Try.prog.types.size)) = true) (hr : f.resultTypes = #[4]) (hv : s.vars = [])
    (hs : s.fn H (ds ++ gs) = { results := [.lit (.bool true)], args := ds })
    (hW : DataW.Whole enc Try.prog f.params.toList s.vars false W args.toList ds gs before) (hb : Below W.heap.size W W') :
    s.post enc Try.prog f false true false false W args (.bool true) W' := by
  have hW' := hW
  have hlt := hW.lt
  obtain ⟨p, q, hA, hV, rfl, hfz, hnd⟩ := hW
  rw [hv] at hV
  obtain ⟨rfl, rfl⟩ := trodVars_none hV
  rw [List.append_nil] at hlt
  refine ⟨ds, [], _, [], p, [], hW', ?_, ?_, ?_, hb.frame _, fun h => by cases h⟩
  · rw [hs, hr]
    exact trodAll_mk1 (shut_bool under4 _)
  · rw [hs]
    exact trodAll_below laidOut hb _ hts hA hlt
  · rw [hs, hv]
    rfl
noncomputable def plainWorld (os : Os) : World := World.holding Try.prog os ⟨#[], #[], []⟩
theorem take_one {cs : List Value} {k : Nat} {v : Value} (h : (cs.drop k).take 1 = [v]) : cs[k]? = some v := by
  have := congrArg (fun l => l[0]?) h
  simpa using this
theorem lit_u32 {n : Int} (h : (Lit.int .u32 n).wf = true) : 0 ≤ n ∧ n < 4294967296 := by
  simp only [Lit.wf, IntKind.min, IntKind.max, IntKind.signed, IntKind.bits, Bool.and_eq_true] at h
  obtain ⟨h1, h2⟩ := h
  simp at h1 h2
  omega
theorem cellsR : Try.prog.cellsOf 23 = 5 := by kernel_rfl
theorem cellsA : Try.prog.cellsOf 25 = 2 := by kernel_rfl
set_option maxRecDepth 100000 in
theorem open_en {H : Type} {enc : TypeId × Value → H} {W : World} {base b0 : Nat} {held : Bool} {v : Value} {d : DataW H} {p : List MemPlace}
    (hv : Value.okWide Try.prog W .any base 23 v) (h : DataW.Trod enc Try.prog W b0 (fun _ => true) held 23 v d p) : ∃ x : En, v = x.v := by
  obtain ⟨cs, rfl, hsz, _⟩ : ∃ cs, v = .agg cs ∧ cs.size = Try.prog.cellsOf 23 ∧ Row.okWide Try.prog W .any base 23 cs := by
    simpa [Value.okWide, underR] using hv
  obtain ⟨fuel, hf⟩ := h
  obtain ⟨xs, m, rfl, hy, hlen, hn, hel⟩ := DataW.trod_struct underR hf
  obtain ⟨cl⟩ := cs
  have hl : cl.length = 5 := by rw [cellsR] at hsz; simpa using hsz
  have hs5 : xs.length = 5 := hn
  have hc : (Value.agg ⟨cl⟩).cells.toList = cl := by simp [Value.cells]
  rw [hc] at hel
  match xs, hs5 with
  | [x0, x1, x2, x3, x4], _ =>
    have e0 : DataW.trod enc Try.prog W b0 (fun _ => true) held m 3 ((cl.drop 0).take (Try.prog.cellsOf 3)) = some x0 := hel 0 _ rfl
    have e1 : DataW.trod enc Try.prog W b0 (fun _ => true) held m 3 ((cl.drop 1).take (Try.prog.cellsOf 3)) = some x1 := hel 1 _ rfl
    have e2 : DataW.trod enc Try.prog W b0 (fun _ => true) held m 3 ((cl.drop 2).take (Try.prog.cellsOf 3)) = some x2 := hel 2 _ rfl
    have e3 : DataW.trod enc Try.prog W b0 (fun _ => true) held m 3 ((cl.drop 3).take (Try.prog.cellsOf 3)) = some x3 := hel 3 _ rfl
    have e4 : DataW.trod enc Try.prog W b0 (fun _ => true) held m 4 ((cl.drop 4).take (Try.prog.cellsOf 4)) = some x4 := hel 4 _ rfl
    rw [cells3] at e0 e1 e2 e3
    rw [cells4] at e4
    obtain ⟨q0, g0, _, _⟩ := DataW.trod_int under3 (show _ = some x0 from e0)
    obtain ⟨q1, g1, _, _⟩ := DataW.trod_int under3 (show _ = some x1 from e1)
    obtain ⟨q2, g2, _, _⟩ := DataW.trod_int under3 (show _ = some x2 from e2)
    obtain ⟨q3, g3, _, _⟩ := DataW.trod_int under3 (show _ = some x3 from e3)
    obtain ⟨q4, g4, _⟩ := DataW.trod_bool under4 (show _ = some x4 from e4)
    refine ⟨⟨q0, q1, q2, q3, q4⟩, ?_⟩
    match cl, hl with
    | [c0, c1, c2, c3, c4], _ =>
      simp at g0 g1 g2 g3 g4
      rw [g0, g1, g2, g3, g4]
      rfl
set_option maxRecDepth 100000 in
theorem open_two {H : Type} {enc : TypeId × Value → H} {W : World} {base b0 : Nat} {held : Bool} {v : Value} {d : DataW H} {p : List MemPlace}
    (hv : Value.okWide Try.prog W .any base 25 v) (h : DataW.Trod enc Try.prog W b0 (fun _ => true) held 25 v d p) : ∃ a b : Int, v = twoV a b ∧ (0 ≤ a ∧ a < 4294967296) ∧ (0 ≤ b ∧ b < 4294967296) := by
  obtain ⟨cs, rfl, hsz, _⟩ : ∃ cs, v = .agg cs ∧ cs.size = Try.prog.cellsOf 25 ∧ Row.okWide Try.prog W .any base 25 cs := by
    simpa [Value.okWide, underA] using hv
  obtain ⟨fuel, hf⟩ := h
  obtain ⟨xs, m, rfl, hy, hlen, hn, hel⟩ := DataW.trod_array underA hf
  rw [cellsW] at hel
  obtain ⟨cl⟩ := cs
  have hl : cl.length = 2 := by rw [cellsA] at hsz; simpa using hsz
  have e : ∀ k, k < 2 → ∃ q, cl[k]? = some (.int .u32 q) ∧ (0 ≤ q ∧ q < 4294967296) := fun k hk => by
    have he := hel k hk
    rw [List.getElem?_eq_getElem (by omega)] at he
    obtain ⟨q, g, _, hq⟩ := DataW.trod_int underW he
    refine ⟨q, ?_, lit_u32 hq⟩
    have := take_one g
    simpa [Value.cells] using this
  obtain ⟨q0, f0, h0⟩ := e 0 (by decide)
  obtain ⟨q1, f1, h1⟩ := e 1 (by decide)
  have hcl : cl = [.int .u32 q0, .int .u32 q1] := by
    apply List.ext_getElem?
    intro k
    match k with
    | 0 => exact f0
    | 1 => exact f1
    | k + 2 => rw [List.getElem?_eq_none (by omega)]; rfl
  subst hcl
  exact ⟨q0, q1, rfl, h0, h1⟩
end Go.Proofs.Ytpijfaffbnojnaa
