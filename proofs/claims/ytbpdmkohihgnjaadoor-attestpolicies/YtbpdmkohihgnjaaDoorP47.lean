import Derived.Test.YtbpdmkohihgnjaaDoorP44
import Derived.Test.YtbpdmkohihgnjaaDoorP46
import Derived.LaidHandle
import Derived.LaidLaws
namespace Go.Proofs.YtbpdmkohihgnjaaDoor
open Go.ChangeShapes Go.WideShapes Go.ChangeAt Go.RowKit
theorem gErrT : Tryd.prog.globalNamed "errors.errorType" = some 7 := by kernel_rfl
theorem rtErr : (Tryd.prog.cutTypes.find? (·.1 == "internal/reflectlite.rtype")).map (·.2) = some 184 := by kernel_rfl
theorem typesAll : Tryd.prog.types.size = 266 := by kernel_rfl
theorem oneErr : ((List.range 266).filter fun t => Tryd.prog.rowNamed t [101, 114, 114, 111, 114]) = [87] := by kernel_rfl
theorem err_of {W : World} (h : handlesMet Tryd.prog [("errors.errorType", Rows.laid_errors_errorType)] W) : W.cell? ⟨7, 0, none⟩ = some (.iface 184 (.agg #[.pointer (some ⟨13, 87, none⟩)])) := by
  obtain ⟨name, u, ty, e1, e2, e3, e4, e5⟩ := h _ (List.mem_singleton.2 rfl)
  have en : name = [101, 114, 114, 111, 114] := (Option.some.inj e1).symm
  subst en
  obtain rfl := Option.some.inj (rtErr.symm.trans e2)
  have hm : ty ∈ (List.range 266).filter fun t => Tryd.prog.rowNamed t [101, 114, 114, 111, 114] := List.mem_filter.2 ⟨List.mem_range.2 (by rw [← typesAll]; exact e3), e4⟩
  rw [oneErr] at hm
  obtain rfl := List.mem_singleton.1 hm
  have hh : typeHandle Tryd.prog 87 = .pointer (some ⟨13, 87, none⟩) := by kernel_rfl
  rw [hh] at e5
  have h9 := World.var?_cell gErrT e5 0
  simpa using h9
set_option maxRecDepth 20000 in
theorem cell_ten {W : World} (h : W.ShapedOpen Tryd.prog) : ∃ m : Int, W.cell? ⟨10, 0, none⟩ = some (.int .i64 m) := by
  have h0 : ((begin Tryd.prog (fun _ _ => 0) default).world.heap[10]?).bind Obj.row? = some (#[.int .i64 0], 3) := by kernel_rfl
  obtain ⟨cs, hh, hs, hr⟩ := h.1 10 _ _ (by rw [show Tryd.prog.globals.size = 13 from by kernel_rfl]; decide) h0
  obtain ⟨ts, ht, _, hc⟩ := hr (by kernel_rfl)
  have hts : Tryd.prog.cellTypes Tryd.prog.depth 3 = some [3] := by kernel_rfl
  obtain rfl : ts = [3] := by rw [hts] at ht; exact (Option.some.inj ht).symm
  have hs' : cs.size = 1 := hs
  have hcell : W.cell? ⟨10, 0, none⟩ = some (cs[0]'(by omega)) := by
    rw [cell_of_row W 10 0 cs 3 (0, 0) hh]
    exact Array.getElem?_eq_getElem (by omega)
  obtain ⟨u, hu, hok⟩ := hc 0 (cs[0]'(by omega)) (Array.getElem?_eq_getElem (by omega))
  obtain rfl : 3 = u := Option.some.inj hu
  generalize (cs[0]'(by omega)) = v at hok hcell
  have hok' : (match some (TypeDesc.int .i64), v with | some (.int k), .int k' n => k' = k ∧ k.has n | _, _ => False) := by
    unfold Cell.ok at hok
    rw [Tryd.underlying3] at hok
    cases v <;> first | exact hok | exact hok.elim
  cases v with
  | int k n => obtain ⟨rfl, _⟩ := hok'; exact ⟨_, hcell⟩
  | _ => exact hok'.elim
end Go.Proofs.YtbpdmkohihgnjaaDoor
namespace Go.Proofs.YtbpdmkohihgnjaaDoor.AttestPolicies
open Go.ChangeShapes Go.WideShapes Go.ChangeAt Go.RowKit
set_option maxRecDepth 100000
def wit : Array Value := #[.agg #[.slice none 0 0, .bool false], .int .i64 0]
def dat : List (String × DataW Unit) := [("unicode/utf8.acceptRanges", Rows.laid_unicode_utf8_acceptRanges), ("warden/word.lows", Rows.laid_warden_word_lows), ("warden/attest.errLong", Rows.laid_warden_attest_errLong), ("warden/attest.errQuoted", Rows.laid_warden_attest_errQuoted), ("warden/attest.errPolicy", Rows.laid_warden_attest_errPolicy), ("warden/attest.errTag", Rows.laid_warden_attest_errTag), ("warden/attest.errNonce", Rows.laid_warden_attest_errNonce), ("warden/attest.errDenied", Rows.laid_warden_attest_errDenied), ("unicode/utf8.first", Rows.laid_unicode_utf8_first)]

theorem contract (H : Type) (enc : TypeId × Value → H) (W : World) (base : Nat) (args : Array Value) (ds gs : List (DataW H)) (before : List MemPlace)
    (hval : ∀ (j : Nat) t v, Tryd.f6.params[j]? = some t → args[j]? = some v → Value.okWide Tryd.prog W .any base t v)
    (hW : DataW.Whole enc Tryd.prog Tryd.f6.params.toList Rows.attestPoliciesSpec.vars false W args.toList ds gs before) (hL : laidMetH Tryd.prog Rows.attestPoliciesRow.laid W)
    (hsz : (DataW.weightsEach Tryd.prog (Tryd.f6.params.toList ++ Rows.attestPoliciesSpec.plain.varTypes Tryd.prog) (ds ++ gs)).all (· ≤ reachBytes) = true) (hS : W.ShapedOpen Tryd.prog) :
    Calls Tryd.prog 6 args W fun e W' => ∃ v, e = .returned v ∧ Rows.attestPoliciesSpec.post enc Tryd.prog Tryd.f6 false true false false W args v W' := by
  have hW' := hW
  have hg : 12 < W.heap.size := size_of_shape hS
  obtain ⟨p, q, hA0, hV, rfl, hfz, hnd⟩ := hW
  have hA : DataW.TrodAll enc Tryd.prog W 0 (fun _ => true) true Tryd.f6.params.toList args.toList ds p := hA0
  rw [Tryd.params6] at hA hval
  rw [Tryd.params6] at hsz
  obtain ⟨v0, vs0, d0, ds0, p0, q0, hargs, rfl, rfl, h0, r0⟩ := trodAll_cons hA
  obtain ⟨v1, vs1, d1, ds1, p1, q1, rfl, rfl, rfl, h1, r1⟩ := trodAll_cons r0
  obtain ⟨rfl, rfl, rfl⟩ := trodAll_nil r1
  obtain rfl : args = #[v0, v1] := by cases args; simp_all
  obtain ⟨rfl, rfl⟩ := trodVars_none hV
  have hb : ∀ z ∈ d0.weights Tryd.prog 36, z ≤ reachBytes := fun z hz => by
    have := List.all_eq_true.1 hsz z (by simp [DataW.weightsEach, hz])
    simpa using this
  obtain ⟨ao, n, c, ot, R, rfl, hn, hr, ok, hmax⟩ := open_pol (hval 0 36 v0 rfl rfl) h0 hb
  obtain ⟨x, rfl, _, _, wx⟩ := open_int Tryd.underlying3 (hval 1 3 v1 rfl rfl) h1
  have hL' : laidMet Tryd.prog dat W ∧ handlesMet Tryd.prog [("errors.errorType", Rows.laid_errors_errorType)] W := hL
  have hT : TabW W := by
    obtain ⟨ps, hv, _⟩ := hL'.1
    obtain ⟨q, hq⟩ := vars_tail hv
    exact tabW_of hq
  obtain ⟨E, hE⟩ := errs_of (rest := [("unicode/utf8.first", Rows.laid_unicode_utf8_first)]) (laidMet.tail (laidMet.tail hL'.1)) hg
  have hVr : Vr W E := ⟨hE, err_of hL'.2, cell_ten hS⟩
  have hlaw : Calls Tryd.prog 6 #[.agg (polC ao n c ot).toArray, .int .i64 x] W fun e W' => e = .returned (.bool true) ∧ Below W.heap.size W W' := by
    cases hk : okP R
    · exact law6_bad W E hVr ao n c ot R hn hr ok hmax x hk
    · exact law6_loop W E hVr hT ao n c ot R hn hr ok x hk
  refine hlaw.mono fun e W' ⟨he, hg⟩ => ?_
  subst he
  exact ⟨_, rfl, law_post (by kernel_rfl) (by kernel_rfl) rfl rfl hW' hg⟩

noncomputable def laidE (os : Os) : World :=
  let w0 := World.holding Tryd.prog os ⟨#[], #[], []⟩
  { w0 with heap := w0.heap.modify 7 fun
      | .cells _ t frozen => .cells #[.iface 184 (.agg #[.pointer (some ⟨13, 87, none⟩)])] t frozen
      | o => o }
noncomputable def laidP (os : Os) : World := (laidE os).layVars Tryd.prog dat
theorem laidP_os (os : Os) : (laidP os).os = os := World.layVars_os _ _ _
theorem laid_dat (os : Os) : laidMet Tryd.prog dat ((laidP os).forCall (fun _ _ => 0) ⟨#[], wit, []⟩).memory := by
  have e1 : (dat.filter fun x => (dat.map (·.1)).contains x.1) = dat := List.filter_eq_self.2 fun x hx => List.contains_iff_mem.2 (List.mem_map.2 ⟨x, hx, rfl⟩)
  have e2 : (dat.filter fun x => !(dat.map (·.1)).contains x.1) = [] := List.filter_eq_nil_iff.2 fun x hx => by rw [List.contains_iff_mem.2 (List.mem_map.2 ⟨x, hx, rfl⟩)]; simp
  have h : laidMet Tryd.prog dat (laidP os) := laidMet_layVars (w0 := laidE os) (dat.map (·.1)) [] (by rw [e1]; rfl) (by rw [e1]; kernel_rfl) (by rw [e1]; kernel_rfl) (by rw [e2]; exact LaidIn.none)
  exact h.of_heap (by simp [World.memory, World.forCall, Input.heap])
theorem laid_met (os : Os) : laidMetH Tryd.prog Rows.attestPoliciesRow.laid ((laidP os).forCall (fun _ _ => 0) ⟨#[], wit, []⟩).memory :=
  laidMetH_of_parts (laid_dat os) (by kernel_rfl)
theorem reads (os : Os) {H : Type} (enc : TypeId × Value → H) : ∃ places, DataW.whole enc Tryd.prog ((laidP os).forCall (fun _ _ => 0) ⟨#[], wit, []⟩).memory Tryd.f6.params.toList Rows.attestPoliciesSpec.vars false (wit : Array Value).toList 8 = some ([.agg [.nil, .lit (.bool false)], .lit (.int .i64 0)], [], places) :=
  ⟨[], by kernel_rfl⟩

set_option maxRecDepth 100000 in
theorem lifted (os : Os) (started : os.Started) (H : Type) (enc : TypeId × Value → H) (F : Stop.Interp) :
    ReturnsInHanded {} Tryd.checked os 6 .any ((OpenSpec.ofChange Rows.attestPoliciesSpec).preRow enc Tryd.prog Tryd.f6 Rows.attestPoliciesRow.domain false Rows.attestPoliciesRow.laid) (((OpenSpec.ofChange Rows.attestPoliciesSpec).at F).post enc Tryd.prog Tryd.f6 false true false false) := by
  obtain ⟨places, hx⟩ := reads os enc
  refine returnsInHanded_of_row (C := Tryd.checked) (s := OpenSpec.ofChange Rows.attestPoliciesSpec) own started (by kernel_rfl) Tryd.func6
    (witness_row_atRef (enc := enc) (C := Tryd.checked) false (laidP os) wit (laidP_os _) (by kernel_rfl) (by kernel_rfl) (by kernel_rfl)
      (OpenSpec.preRow_of_cond 8 hx (by kernel_rfl) (fun k hk => by cases hk) (by kernel_rfl) (laid_met os))) ?_
  intro W base args ds gs before hval hW _ _ hsz hL hS _
  exact contract H enc W base args ds gs before hval hW hL hsz hS

theorem said : Rows.AttestPoliciesSaid :=
  OpenClaim.holds_of_cond 6 Tryd.f6 rfl rfl rfl rfl rfl rfl rfl ⟨rfl, rfl, rfl, rfl, rfl⟩ rfl rfl rfl rfl rfl (by kernel_rfl) Tryd.func6 (by kernel_rfl)
    (of_decide_eq_true (by kernel_rfl)) (by unfold Func.isWrapper; first | (rw [if_pos (by decide +kernel)]; kernel_rfl) | (rw [if_neg (by decide +kernel)]; exact ⟨rfl, rfl⟩))
    (fun os started H enc _ F => by rw [OpenClaim.pre_eq_preRow]; exact lifted os started H enc F)

theorem plain (f : FuncId) (fn : Func) (hf : Tryd.pinned.checked.prog.funcNamed "warden/wardenlaw16.AttestPolicies" = some f) (hfn : Tryd.pinned.checked.prog.funcs[f]? = some fn) :
    true = Tryd.pinned.checked.prog.looks [] ∧ ∀ (j : Nat) t, fn.params[j]? = some t → Tryd.pinned.checked.prog.wantsStandIn t = false := by
  obtain rfl : f = 6 := Option.some.inj ((show Tryd.prog.funcNamed "warden/wardenlaw16.AttestPolicies" = some 6 by kernel_rfl).symm.trans hf) |>.symm
  obtain rfl : fn = Tryd.f6 := (Option.some.inj (Tryd.func6.symm.trans hfn)).symm
  refine ⟨by kernel_rfl, fun j t ht => ?_⟩
  rw [Tryd.params6] at ht
  have hm : t ∈ [36, 3] := by simpa using Array.mem_of_getElem? ht
  have hall : ([36, 3].all fun u => !Tryd.prog.wantsStandIn u) = true := by kernel_rfl
  exact (show Tryd.prog.wantsStandIn t = false by simpa using List.all_eq_true.1 hall t hm)

theorem card : Rows.AttestPoliciesCardSaid :=
  Claim7.holds_tied_plain_at .later [] _ _ _ _ said (fun _ h => by cases h) (by kernel_rfl) (fun _ h => by cases h) attestPolicies_row_tie rfl ⟨rfl, rfl⟩ (by kernel_rfl) rfl plain (by kernel_rfl)
end Go.Proofs.YtbpdmkohihgnjaaDoor.AttestPolicies
namespace Go.Proofs.YtbpdmkohihgnjaaDoor
theorem attestPolicies_holds : Rows.AttestPoliciesCardSaid := AttestPolicies.card
#print axioms attestPolicies_holds
end Go.Proofs.YtbpdmkohihgnjaaDoor
