import Derived.Test.YtdfnbcbnmiohnaaGreatDoorP51
import Derived.Test.YtdfnbcbnmiohnaaGreatDoorP52
import Derived.Lay
import Derived.Deep.DeepWitnessRowRef
namespace Go.Proofs.YtdfnbcbnmiohnaaGreatDoor.All
open Go.ChangeShapes Go.WideShapes Go.ChangeAt Go.RowKit
set_option maxRecDepth 100000

theorem contract (H' : Type) (enc : TypeId × Value → H') (W : World) (base : Nat) (args : Array Value) (ds gs : List (DataW H')) (before : List MemPlace)
    (hval : ∀ (j : Nat) t v, Tryz.f7.params[j]? = some t → args[j]? = some v → Value.okWide Tryz.prog W .any base t v)
    (hW : DataW.Whole enc Tryz.prog Tryz.f7.params.toList Rows.lifeAllSpec.vars false W args.toList ds gs before) (hL : laidMetH Tryz.prog Rows.lifeAllRow.laid W)
    (hsz : (DataW.weightsEach Tryz.prog (Tryz.f7.params.toList ++ Rows.lifeAllSpec.plain.varTypes Tryz.prog) (ds ++ gs)).all (· ≤ reachBytes) = true) (h1s : 1 < W.heap.size) :
    Calls Tryz.prog 7 args W fun e W' => ∃ v, e = .returned v ∧ Rows.lifeAllSpec.post enc Tryz.prog Tryz.f7 false true false false W args v W' := by
  have hW' := hW
  obtain ⟨p, q, hA0, hV, rfl, hfz, hnd⟩ := hW
  have hA : DataW.TrodAll enc Tryz.prog W 0 (fun _ => true) true Tryz.f7.params.toList args.toList ds p := hA0
  rw [Tryz.params7] at hA hval
  rw [Tryz.params7] at hsz
  obtain ⟨v0, vs0, d0, ds0, p0, q0, hargs, rfl, rfl, h0, r0⟩ := trodAll_cons hA
  obtain ⟨v1, vs1, d1, ds1, p1, q1, rfl, rfl, rfl, h1, r1⟩ := trodAll_cons r0
  obtain ⟨rfl, rfl, rfl⟩ := trodAll_nil r1
  obtain rfl : args = #[v0, v1] := by cases args; simp_all
  obtain ⟨rfl, rfl⟩ := trodVars_none hV
  have hL' : laidMet Tryz.prog [("warden/sha.roundWords", Rows.laid_warden_sha_roundWords), ("warden/wardenref02.K", Rows.laid_warden_wardenref02_K)] W := hL
  have hT := tab_of hL'
  obtain ⟨ps, hps, _⟩ := hL'
  obtain ⟨_, hp2⟩ := vars_tail hps
  have hR := tabR_of hp2
  obtain ⟨pg, rfl, rfl, rfl, _⟩ := open_int Tryz.underlying3 (hval 0 3 v0 rfl rfl) h0
  obtain ⟨ao, n, cp, q, rfl, hq, hd1⟩ := open_ops (hval 1 22 v1 rfl rfl) h1
  have hn : (n : Int) ≤ 4611686018427387904 := by
    rcases hd1 with h | ⟨elems, spare, he, hl⟩
    · omega
    · have hz0 := List.all_eq_true.1 hsz ((elems.length + spare.length) * Tryz.prog.bytesOf 48) (DataW.weights_mem_each (j := 1) (t := 22) rfl rfl _ (by rw [he]; simp only [DataW.weights, Tryz.underlying22]; simp))
      have hz : (elems.length + spare.length) * Tryz.prog.bytesOf 48 ≤ reachBytes := by simpa using hz0
      rw [bytesOp] at hz
      simp only [reachBytes] at hz
      omega
  refine (all_any W hT hR h1s pg ao n cp q hq hn).mono fun e W' ⟨he, hg⟩ => ?_
  subst he
  exact ⟨_, rfl, law_post (by kernel_rfl) (by kernel_rfl) rfl rfl hW' hg⟩

noncomputable def wit : Array Value := #[.int .i64 0, .slice none 0 0]
theorem laid_met (os : Os) : laidMet Tryz.prog Rows.lifeAllRow.laid ((World.laidAll Tryz.prog os Rows.lifeAllRow.laid).forCall (fun _ _ => 0) ⟨#[], wit, []⟩).memory :=
  laidMet_laidAll _ (by kernel_rfl) (by kernel_rfl)
theorem reads (os : Os) {H' : Type} (enc : TypeId × Value → H') : ∃ places, DataW.whole enc Tryz.prog ((World.laidAll Tryz.prog os Rows.lifeAllRow.laid).forCall (fun _ _ => 0) ⟨#[], wit, []⟩).memory Tryz.f7.params.toList Rows.lifeAllSpec.vars false (wit : Array Value).toList 8 = some ([.lit (.int .i64 0), .nil], [], places) :=
  ⟨[], by kernel_rfl⟩

set_option maxRecDepth 100000 in
theorem lifted (os : Os) (started : os.Started) (H' : Type) (enc : TypeId × Value → H') (F : Stop.Interp) :
    ReturnsInHanded {} Tryz.checked os 7 .any ((OpenSpec.ofChange Rows.lifeAllSpec).preRow enc Tryz.prog Tryz.f7 Rows.lifeAllRow.domain false Rows.lifeAllRow.laid) (((OpenSpec.ofChange Rows.lifeAllSpec).at F).post enc Tryz.prog Tryz.f7 false true false false) := by
  obtain ⟨places, hx⟩ := reads os enc
  refine returnsInHanded_of_row (C := Tryz.checked) (s := OpenSpec.ofChange Rows.lifeAllSpec) own started (by kernel_rfl) Tryz.func7
    (witness_row_atRef (enc := enc) (C := Tryz.checked) false (World.laidAll Tryz.prog os Rows.lifeAllRow.laid) wit (World.laidAll_os _ _ _) (by kernel_rfl) (by kernel_rfl) (by kernel_rfl)
      (OpenSpec.preRow_of_cond 8 hx (by kernel_rfl) (fun k hk => by cases hk) (by kernel_rfl) (laid_met os))) ?_
  intro W base args ds gs before hval hW _ _ hsz hL hS _
  exact contract H' enc W base args ds gs before hval hW hL hsz (size_of_shape hS)

theorem said : Rows.LifeAllSaid :=
  OpenClaim.holds_of_cond 7 Tryz.f7 rfl rfl rfl rfl rfl rfl rfl ⟨rfl, rfl, rfl, rfl, rfl⟩ rfl rfl rfl rfl rfl (by kernel_rfl) Tryz.func7 (by kernel_rfl)
    (of_decide_eq_true (by kernel_rfl)) (by unfold Func.isWrapper; first | (rw [if_pos (by decide +kernel)]; kernel_rfl) | (rw [if_neg (by decide +kernel)]; exact ⟨rfl, rfl⟩))
    (fun os started H' enc _ F => by rw [OpenClaim.pre_eq_preRow]; exact lifted os started H' enc F)

theorem plain (f : FuncId) (fn : Func) (hf : Tryz.pinned.checked.prog.funcNamed "warden/wardenlaw18.LifeAll" = some f) (hfn : Tryz.pinned.checked.prog.funcs[f]? = some fn) :
    true = Tryz.pinned.checked.prog.looks [] ∧ ∀ (j : Nat) t, fn.params[j]? = some t → Tryz.pinned.checked.prog.wantsStandIn t = false := by
  obtain rfl : f = 7 := Option.some.inj ((show Tryz.prog.funcNamed "warden/wardenlaw18.LifeAll" = some 7 by kernel_rfl).symm.trans hf) |>.symm
  obtain rfl : fn = Tryz.f7 := (Option.some.inj (Tryz.func7.symm.trans hfn)).symm
  refine ⟨by kernel_rfl, fun j t ht => ?_⟩
  rw [Tryz.params7] at ht
  have hm : t ∈ [3, 22] := by simpa using Array.mem_of_getElem? ht
  have hall : ([3, 22].all fun u => !Tryz.prog.wantsStandIn u) = true := by kernel_rfl
  exact (show Tryz.prog.wantsStandIn t = false by simpa using List.all_eq_true.1 hall t hm)

theorem card : Rows.LifeAllCardSaid :=
  Claim7.holds_tied_plain_at .later [] _ _ _ _ said (fun _ h => by cases h) (by kernel_rfl) (fun _ h => by cases h) lifeAll_row_tie rfl ⟨rfl, rfl⟩ (by kernel_rfl) rfl plain (by kernel_rfl)
end Go.Proofs.YtdfnbcbnmiohnaaGreatDoor.All
namespace Go.Proofs.YtdfnbcbnmiohnaaGreatDoor
theorem lifeAll_holds : Rows.LifeAllCardSaid := All.card
#print axioms lifeAll_holds
end Go.Proofs.YtdfnbcbnmiohnaaGreatDoor
