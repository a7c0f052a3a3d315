import Derived.Test.YtildhjiddidghaaGreatDoorP50
import Derived.Lay
import Derived.Deep.DeepWitnessRowRef
namespace Go.Proofs.YtildhjiddidghaaGreatDoor.All
open Go.ChangeShapes Go.WideShapes Go.ChangeAt Go.RowKit
set_option maxRecDepth 100000

theorem contract (H' : Type) (enc : TypeId × Value → H') (W : World) (base : Nat) (args : Array Value) (ds gs : List (DataW H')) (before : List MemPlace)
    (hval : ∀ (j : Nat) t v, Tryz.f5.params[j]? = some t → args[j]? = some v → Value.okWide Tryz.prog W .any base t v)
    (hW : DataW.Whole enc Tryz.prog Tryz.f5.params.toList Rows.validAllSpec.vars false W args.toList ds gs before) (hL : laidMetH Tryz.prog Rows.validAllRow.laid W)
    (hsz : (DataW.weightsEach Tryz.prog (Tryz.f5.params.toList ++ Rows.validAllSpec.plain.varTypes Tryz.prog) (ds ++ gs)).all (· ≤ reachBytes) = true) (h1s : 2 < W.heap.size) :
    Calls Tryz.prog 5 args W fun e W' => ∃ v, e = .returned v ∧ Rows.validAllSpec.post enc Tryz.prog Tryz.f5 false true false false W args v W' := by
  have hW' := hW
  obtain ⟨p, q, hA0, hV, rfl, hfz, hnd⟩ := hW
  have hA : DataW.TrodAll enc Tryz.prog W 0 (fun _ => true) true Tryz.f5.params.toList args.toList ds p := hA0
  rw [Tryz.params5] at hA hval
  rw [Tryz.params5] at hsz
  obtain ⟨v0, vs0, d0, ds0, p0, q0, hargs, rfl, rfl, h0, r0⟩ := trodAll_cons hA
  obtain ⟨v1, vs1, d1, ds1, p1, q1, rfl, rfl, rfl, h1, r1⟩ := trodAll_cons r0
  obtain ⟨v2, vs2, d2, ds2, p2, q2, rfl, rfl, rfl, h2, r2⟩ := trodAll_cons r1
  obtain ⟨v3, vs3, d3, ds3, p3, q3, rfl, rfl, rfl, h3, r3⟩ := trodAll_cons r2
  obtain ⟨rfl, rfl, rfl⟩ := trodAll_nil r3
  obtain rfl : args = #[v0, v1, v2, v3] := by cases args; simp_all
  obtain ⟨rfl, rfl⟩ := trodVars_none hV
  have hT := tab_of (rest := [("warden/wardenref02.K", Rows.laid_warden_wardenref02_K), ("warden/valid.texts", Rows.laid_warden_valid_texts)]) hL
  have hTR : H.TabR W := by
    obtain ⟨ps, hv, _⟩ := hL
    obtain ⟨q, hq⟩ := vars_tail hv
    exact tabR_of hq
  have hTx : TxAt W := by
    obtain ⟨ps, hv, _⟩ := hL
    obtain ⟨q, hq⟩ := vars_tail hv
    obtain ⟨q', hq'⟩ := vars_tail hq
    exact tx_of hq'
  obtain ⟨a, rfl, _⟩ := open_int Tryz.underlying3 (hval 0 3 v0 rfl rfl) h0
  obtain ⟨b, rfl, _⟩ := open_int Tryz.underlying3 (hval 1 3 v1 rfl rfl) h1
  obtain ⟨ao, n, cp, q, rfl, hq, hd1⟩ := open_acts (hval 2 36 v2 rfl rfl) h2
  obtain ⟨c, rfl, _⟩ := open_int Tryz.underlying3 (hval 3 3 v3 rfl rfl) h3
  have hn : (n : Int) ≤ 4611686018427387904 := by
    rcases hd1 with h | ⟨elems, spare, he, hl⟩
    · omega
    · have hz0 := List.all_eq_true.1 hsz ((elems.length + spare.length) * Tryz.prog.bytesOf 42) (DataW.weights_mem_each (j := 2) (t := 36) rfl rfl _ (by rw [he]; simp only [DataW.weights, Tryz.underlying36]; simp))
      have hz : (elems.length + spare.length) * Tryz.prog.bytesOf 42 ≤ reachBytes := by simpa using hz0
      rw [bytesAct] at hz
      simp only [reachBytes] at hz
      omega
  refine (all_l W hT hTR hTx h1s a b ao n cp q hq hn c).mono fun e W' ⟨he, hg⟩ => ?_
  subst he
  exact ⟨_, rfl, law_post (by kernel_rfl) (by kernel_rfl) rfl rfl hW' hg⟩

noncomputable def wit : Array Value := #[.int .i64 0, .int .i64 0, .slice none 0 0, .int .i64 0]
theorem laid_met (os : Os) : laidMet Tryz.prog Rows.validAllRow.laid ((World.laidAll Tryz.prog os Rows.validAllRow.laid).forCall (fun _ _ => 0) ⟨#[], wit, []⟩).memory :=
  laidMet_laidAll _ (by kernel_rfl) (by kernel_rfl)
theorem reads (os : Os) {H' : Type} (enc : TypeId × Value → H') : ∃ places, DataW.whole enc Tryz.prog ((World.laidAll Tryz.prog os Rows.validAllRow.laid).forCall (fun _ _ => 0) ⟨#[], wit, []⟩).memory Tryz.f5.params.toList Rows.validAllSpec.vars false (wit : Array Value).toList 8 = some ([.lit (.int .i64 0), .lit (.int .i64 0), .nil, .lit (.int .i64 0)], [], places) :=
  ⟨[], by kernel_rfl⟩

set_option maxRecDepth 100000 in
theorem lifted (os : Os) (started : os.Started) (H' : Type) (enc : TypeId × Value → H') (F : Stop.Interp) :
    ReturnsInHanded {} Tryz.checked os 5 .any ((OpenSpec.ofChange Rows.validAllSpec).preRow enc Tryz.prog Tryz.f5 Rows.validAllRow.domain false Rows.validAllRow.laid) (((OpenSpec.ofChange Rows.validAllSpec).at F).post enc Tryz.prog Tryz.f5 false true false false) := by
  obtain ⟨places, hx⟩ := reads os enc
  refine returnsInHanded_of_row (C := Tryz.checked) (s := OpenSpec.ofChange Rows.validAllSpec) own started (by kernel_rfl) Tryz.func5
    (witness_row_atRef (enc := enc) (C := Tryz.checked) false (World.laidAll Tryz.prog os Rows.validAllRow.laid) wit (World.laidAll_os _ _ _) (by kernel_rfl) (by kernel_rfl) (by kernel_rfl)
      (OpenSpec.preRow_of_cond 8 hx (by kernel_rfl) (fun k hk => by cases hk) (by kernel_rfl) (laid_met os))) ?_
  intro W base args ds gs before hval hW _ _ hsz hL hS _
  exact contract H' enc W base args ds gs before hval hW hL hsz (size_of_shape hS)

theorem said : Rows.ValidAllSaid :=
  OpenClaim.holds_of_cond 5 Tryz.f5 rfl rfl rfl rfl rfl rfl rfl ⟨rfl, rfl, rfl, rfl, rfl⟩ rfl rfl rfl rfl rfl (by kernel_rfl) Tryz.func5 (by kernel_rfl)
    (of_decide_eq_true (by kernel_rfl)) (by unfold Func.isWrapper; first | (rw [if_pos (by decide +kernel)]; kernel_rfl) | (rw [if_neg (by decide +kernel)]; exact ⟨rfl, rfl⟩))
    (fun os started H' enc _ F => by rw [OpenClaim.pre_eq_preRow]; exact lifted os started H' enc F)

theorem plain (f : FuncId) (fn : Func) (hf : Tryz.pinned.checked.prog.funcNamed "warden/wardenlaw13.ValidAll" = some f) (hfn : Tryz.pinned.checked.prog.funcs[f]? = some fn) :
    false = Tryz.pinned.checked.prog.looks [] ∧ ∀ (j : Nat) t, fn.params[j]? = some t → Tryz.pinned.checked.prog.wantsStandIn t = false := by
  obtain rfl : f = 5 := Option.some.inj ((show Tryz.prog.funcNamed "warden/wardenlaw13.ValidAll" = some 5 by kernel_rfl).symm.trans hf) |>.symm
  obtain rfl : fn = Tryz.f5 := (Option.some.inj (Tryz.func5.symm.trans hfn)).symm
  refine ⟨by kernel_rfl, fun j t ht => ?_⟩
  rw [Tryz.params5] at ht
  have hm : t ∈ [3, 3, 36, 3] := by simpa using Array.mem_of_getElem? ht
  have hall : ([3, 3, 36, 3].all fun u => !Tryz.prog.wantsStandIn u) = true := by kernel_rfl
  exact (show Tryz.prog.wantsStandIn t = false by simpa using List.all_eq_true.1 hall t hm)

theorem card : Rows.ValidAllCardSaid :=
  Claim7.holds_tied_plain_at .later [] _ _ _ _ said (fun _ h => by cases h) (by kernel_rfl) (fun _ h => by cases h) validAll_row_tie rfl ⟨rfl, rfl⟩ (by kernel_rfl) rfl plain (by kernel_rfl)
end Go.Proofs.YtildhjiddidghaaGreatDoor.All
namespace Go.Proofs.YtildhjiddidghaaGreatDoor
theorem validAll_holds : Rows.ValidAllCardSaid := All.card
#print axioms validAll_holds
end Go.Proofs.YtildhjiddidghaaGreatDoor
