import Derived.Test.YtmomidkodjihjaaDoorMn
import Derived.Test.YtmomidkodjihjaaDoorLo
namespace Go.Proofs.YtmomidkodjihjaaDoor.Words
open Go.ChangeShapes Go.WideShapes Go.ChangeAt Go.RowKit
open H
set_option maxRecDepth 100000

theorem contract (H : Type) (enc : TypeId × Value → H) (W : World) (base : Nat) (args : Array Value) (ds gs : List (DataW H)) (before : List MemPlace)
    (hval : ∀ (j : Nat) t v, Tryd.f3.params[j]? = some t → args[j]? = some v → Value.okWide Tryd.prog W .any base t v)
    (hW : DataW.Whole enc Tryd.prog Tryd.f3.params.toList Rows.measureWordsSpec.vars false W args.toList ds gs before) (hL : laidMetH Tryd.prog Rows.measureWordsRow.laid W)
    (hsz : (DataW.weightsEach Tryd.prog (Tryd.f3.params.toList ++ Rows.measureWordsSpec.plain.varTypes Tryd.prog) (ds ++ gs)).all (· ≤ reachBytes) = true) (h1s : 1 < W.heap.size) :
    Calls Tryd.prog 3 args W fun e W' => ∃ v, e = .returned v ∧ Rows.measureWordsSpec.post enc Tryd.prog Tryd.f3 false true false false W args v W' := by
  have hW' := hW
  obtain ⟨p, q, hA0, hV, rfl, hfz, hnd⟩ := hW
  have hA : DataW.TrodAll enc Tryd.prog W 0 (fun _ => true) true Tryd.f3.params.toList args.toList ds p := hA0
  rw [Tryd.params3] at hA hval
  rw [Tryd.params3] at hsz
  obtain ⟨v0, vs0, d0, ds0, p0, q0, hargs, rfl, rfl, h0, r0⟩ := trodAll_cons hA
  obtain ⟨v1, vs1, d1, ds1, p1, q1, rfl, rfl, rfl, h1, r1⟩ := trodAll_cons r0
  obtain ⟨v2, vs2, d2, ds2, p2, q2, rfl, rfl, rfl, h2, r2⟩ := trodAll_cons r1
  obtain ⟨v3, vs3, d3, ds3, p3, q3, rfl, rfl, rfl, h3, r3⟩ := trodAll_cons r2
  obtain ⟨rfl, rfl, rfl⟩ := trodAll_nil r3
  obtain rfl : args = #[v0, v1, v2, v3] := by cases args; simp_all
  obtain ⟨rfl, rfl⟩ := trodVars_none hV
  obtain ⟨a0, n0, c0, x0, rfl, hc0, hx0, hwf0, hat0, hdw0⟩ := open_list Tryd.underlying22 Tryd.underlying24 cells24 (hval 0 22 v0 rfl rfl) h0
  have hnw0 : 4 * n0 ≤ 140737488351232 := by
    rcases hdw0 with rfl | ⟨elems, spare, rfl, he⟩
    · decide
    · have := sized_slice hsz (j := 0) (t := 22) (e := 24) rfl rfl Tryd.underlying22
      rw [bytes24] at this
      simp only [reachBytes] at this
      omega
  obtain ⟨b1, m1, e1, l1, rfl, hl1, hLL1, hLW1, hd1⟩ := open_ops (hval 1 23 v1 rfl rfl) h1
  have hn1 : m1 * 56 ≤ 140737488355328 := by
    rcases hd1 with h | ⟨elems, spare, he, hl⟩
    · omega
    · have hz0 := List.all_eq_true.1 hsz ((elems.length + spare.length) * Tryd.prog.bytesOf 94) (DataW.weights_mem_each (j := 1) (t := 23) rfl rfl _ (by rw [he]; simp only [DataW.weights, Tryd.underlying23]; simp))
      have hz : (elems.length + spare.length) * Tryd.prog.bytesOf 94 ≤ reachBytes := by simpa using hz0
      rw [bytes94] at hz
      simp only [reachBytes] at hz
      omega
  obtain ⟨i2, rfl, _, _, _⟩ := open_int Tryd.underlying3 (hval 2 3 v2 rfl rfl) h2
  obtain ⟨u3, rfl, _, _, ku3⟩ := open_int Tryd.underlying24 (hval 3 24 v3 rfl rfl) h3
  have hT := tab_of (rest := []) hL
  refine (words_l W hT h1s a0 n0 c0 x0 hx0 (wds_of hwf0) hat0 hc0 (by omega) b1 m1 e1 l1 hl1 hLL1 hn1 hLW1 i2 u3 (lit_u32 ku3).1 (lit_u32 ku3).2).mono fun e W' ⟨he, hg⟩ => ?_
  subst he
  exact ⟨_, rfl, law_post (by kernel_rfl) (by kernel_rfl) rfl rfl hW' hg⟩

theorem laid_met (os : Os) : laidMet Tryd.prog Rows.measureWordsRow.laid ((laidWorld os).forCall (fun _ _ => 0) ⟨#[], #[.slice none 0 0, .slice none 0 0, .int .i64 0, .int .u32 0], []⟩).memory :=
  laidMet_of_run' 8 (by kernel_rfl) (by kernel_rfl)
theorem reads (os : Os) {H : Type} (enc : TypeId × Value → H) : ∃ places, DataW.whole enc Tryd.prog ((laidWorld os).forCall (fun _ _ => 0) ⟨#[], #[.slice none 0 0, .slice none 0 0, .int .i64 0, .int .u32 0], []⟩).memory Tryd.f3.params.toList Rows.measureWordsSpec.vars false (#[.slice none 0 0, .slice none 0 0, .int .i64 0, .int .u32 0] : Array Value).toList 8 = some ([.nil, .nil, .lit (.int .i64 0), .lit (.int .u32 0)], [], places) :=
  ⟨[], by kernel_rfl⟩

set_option maxRecDepth 100000 in
theorem lifted (os : Os) (started : os.Started) (H : Type) (enc : TypeId × Value → H) (F : Stop.Interp) :
    ReturnsInHanded {} Tryd.checked os 3 .any ((OpenSpec.ofChange Rows.measureWordsSpec).preRow enc Tryd.prog Tryd.f3 Rows.measureWordsRow.domain false Rows.measureWordsRow.laid) (((OpenSpec.ofChange Rows.measureWordsSpec).at F).post enc Tryd.prog Tryd.f3 false true false false) := by
  obtain ⟨places, hx⟩ := reads os enc
  refine returnsInHanded_of_row (C := Tryd.checked) (s := OpenSpec.ofChange Rows.measureWordsSpec) own started (by kernel_rfl) Tryd.func3
    (witness_row_at (enc := enc) (C := Tryd.checked) false (laidWorld os) #[.slice none 0 0, .slice none 0 0, .int .i64 0, .int .u32 0] rfl (by kernel_rfl) (by kernel_rfl) (by kernel_rfl)
      (OpenSpec.preRow_of_cond 8 hx (by kernel_rfl) (fun k hk => by cases hk) (by kernel_rfl) (laid_met os))) ?_
  intro W base args ds gs before hval hW _ _ hsz hL hS _
  exact contract H enc W base args ds gs before hval hW hL hsz (size_of_shape hS)

theorem said : Rows.MeasureWordsSaid :=
  OpenClaim.holds_of_cond 3 Tryd.f3 rfl rfl rfl rfl rfl rfl rfl ⟨rfl, rfl, rfl, rfl, rfl⟩ rfl rfl rfl rfl rfl (by kernel_rfl) Tryd.func3 (by kernel_rfl)
    (of_decide_eq_true (by kernel_rfl)) (by unfold Func.isWrapper; first | (rw [if_pos (by decide +kernel)]; kernel_rfl) | (rw [if_neg (by decide +kernel)]; exact ⟨rfl, rfl⟩))
    (fun os started H enc _ F => by rw [OpenClaim.pre_eq_preRow]; exact lifted os started H enc F)

theorem plain (f : FuncId) (fn : Func) (hf : Tryd.pinned.checked.prog.funcNamed "warden/wardenlaw15.MeasureWords" = some f) (hfn : Tryd.pinned.checked.prog.funcs[f]? = some fn) :
    true = Tryd.pinned.checked.prog.looks [] ∧ ∀ (j : Nat) t, fn.params[j]? = some t → Tryd.pinned.checked.prog.wantsStandIn t = false := by
  obtain rfl : f = 3 := Option.some.inj ((show Tryd.prog.funcNamed "warden/wardenlaw15.MeasureWords" = some 3 by kernel_rfl).symm.trans hf) |>.symm
  obtain rfl : fn = Tryd.f3 := (Option.some.inj (Tryd.func3.symm.trans hfn)).symm
  refine ⟨by kernel_rfl, fun j t ht => ?_⟩
  rw [Tryd.params3] at ht
  have hm : t ∈ [22, 23, 3, 24] := by simpa using Array.mem_of_getElem? ht
  have hall : ([22, 23, 3, 24].all fun u => !Tryd.prog.wantsStandIn u) = true := by kernel_rfl
  exact (show Tryd.prog.wantsStandIn t = false by simpa using List.all_eq_true.1 hall t hm)

/-- THE CARD -/
theorem card : Rows.MeasureWordsCardSaid :=
  Claim7.holds_tied_plain_at .later [] _ _ _ _ said (fun _ h => by cases h) (by kernel_rfl) (fun _ h => by cases h) measureWords_row_tie rfl ⟨rfl, rfl⟩ (by kernel_rfl) rfl plain (by kernel_rfl)
end Go.Proofs.YtmomidkodjihjaaDoor.Words
namespace Go.Proofs.YtmomidkodjihjaaDoor
theorem measureWords_holds : Rows.MeasureWordsCardSaid := Words.card
#print axioms measureWords_holds
end Go.Proofs.YtmomidkodjihjaaDoor
