import Derived.Test.YtbpdmkohihgnjaaGreatDoorP47
namespace Go.Proofs.YtbpdmkohihgnjaaGreatDoor
open Go.ChangeShapes Go.WideShapes Go.ChangeAt Go.RowKit
theorem gErrT : Tryz.prog.globalNamed "errors.errorType" = some 6 := by kernel_rfl
theorem rtErr : (Tryz.prog.cutTypes.find? (·.1 == "internal/reflectlite.rtype")).map (·.2) = some 150 := by kernel_rfl
theorem typesAll : Tryz.prog.types.size = 276 := by kernel_rfl
theorem oneErr : ((List.range 276).filter fun t => Tryz.prog.rowNamed t [101, 114, 114, 111, 114]) = [47] := by kernel_rfl
theorem err_of {W : World} (h : handlesMet Tryz.prog [("errors.errorType", Rows.laid_errors_errorType)] W) : W.cell? ⟨6, 0, none⟩ = some (.iface 150 (.agg #[.pointer (some ⟨13, 47, none⟩)])) := by
  obtain ⟨name, u, ty, e1, e2, e3, e4, e5⟩ := h _ (List.mem_singleton.2 rfl)
  have en : name = [101, 114, 114, 111, 114] := (Option.some.inj e1).symm
  subst en
  obtain rfl := Option.some.inj (rtErr.symm.trans e2)
  have hm : ty ∈ (List.range 276).filter fun t => Tryz.prog.rowNamed t [101, 114, 114, 111, 114] := List.mem_filter.2 ⟨List.mem_range.2 (by rw [← typesAll]; exact e3), e4⟩
  rw [oneErr] at hm
  obtain rfl := List.mem_singleton.1 hm
  have hh : typeHandle Tryz.prog 47 = .pointer (some ⟨13, 47, none⟩) := by kernel_rfl
  rw [hh] at e5
  have h9 := World.var?_cell gErrT e5 0
  simpa using h9
set_option maxRecDepth 20000 in
theorem cell_max {W : World} (h : W.ShapedOpen Tryz.prog) : ∃ m : Int, W.cell? ⟨8, 0, none⟩ = some (.int .i64 m) := by
  have h0 : ((begin Tryz.prog (fun _ _ => 0) default).world.heap[8]?).bind Obj.row? = some (#[.int .i64 0], 3) := by kernel_rfl
  obtain ⟨cs, hh, hs, hr⟩ := h.1 8 _ _ (by rw [show Tryz.prog.globals.size = 13 from by kernel_rfl]; decide) h0
  obtain ⟨ts, ht, _, hc⟩ := hr (by kernel_rfl)
  have hts : Tryz.prog.cellTypes Tryz.prog.depth 3 = some [3] := by kernel_rfl
  obtain rfl : ts = [3] := by rw [hts] at ht; exact (Option.some.inj ht).symm
  have hs' : cs.size = 1 := hs
  have hcell : W.cell? ⟨8, 0, none⟩ = some (cs[0]'(by omega)) := by
    rw [cell_of_row W 8 0 cs 3 (0, 0) hh]
    exact Array.getElem?_eq_getElem (by omega)
  obtain ⟨u, hu, hok⟩ := hc 0 (cs[0]'(by omega)) (Array.getElem?_eq_getElem (by omega))
  obtain rfl : 3 = u := Option.some.inj hu
  generalize (cs[0]'(by omega)) = v at hok hcell
  have hok' : (match some (TypeDesc.int .i64), v with | some (.int k), .int k' n => k' = k ∧ k.has n | _, _ => False) := by
    unfold Cell.ok at hok
    rw [Tryz.underlying3] at hok
    cases v <;> first | exact hok | exact hok.elim
  cases v with
  | int k n => obtain ⟨rfl, _⟩ := hok'; exact ⟨_, hcell⟩
  | _ => exact hok'.elim
end Go.Proofs.YtbpdmkohihgnjaaGreatDoor
namespace Go.Proofs.YtbpdmkohihgnjaaGreatDoor.AttestAllT
open Go.ChangeShapes Go.WideShapes Go.ChangeAt Go.RowKit
set_option maxRecDepth 100000
def wit : Array Value := #[.string ⟨#[]⟩, .agg #[.slice none 0 0, .bool false], .agg #[.int .u32 0, .int .u32 0, .int .u32 0, .int .u32 0, .int .u32 0, .int .u32 0, .int .u32 0, .int .u32 0, .int .u32 0, .int .u32 0, .int .u32 0, .int .u32 0, .int .u32 0, .int .u32 0, .int .u32 0, .int .u32 0, .int .u32 0, .int .u32 0, .int .u32 0, .int .u32 0, .int .u32 0, .int .u32 0, .int .u32 0, .int .u32 0, .int .u32 0, .int .u32 0, .int .u32 0, .int .u32 0, .int .u32 0, .int .u32 0, .int .u32 0, .int .u32 0, .int .u32 0, .int .u32 0, .int .u32 0, .int .u32 0, .int .u32 0, .int .u32 0, .int .u32 0, .int .u32 0, .bool false, .bool false]]
def dat : List (String × DataW Unit) := [("unicode/utf8.acceptRanges", Rows.laid_unicode_utf8_acceptRanges), ("warden/sha.roundWords", Rows.laid_warden_sha_roundWords), ("warden/wardenref02.K", Rows.laid_warden_wardenref02_K), ("warden/word.lows", Rows.laid_warden_word_lows), ("warden/attest.errLong", Rows.laid_warden_attest_errLong), ("warden/attest.errQuoted", Rows.laid_warden_attest_errQuoted), ("warden/attest.errPolicy", Rows.laid_warden_attest_errPolicy), ("warden/attest.errTag", Rows.laid_warden_attest_errTag), ("warden/attest.errNonce", Rows.laid_warden_attest_errNonce), ("warden/attest.errDenied", Rows.laid_warden_attest_errDenied), ("unicode/utf8.first", Rows.laid_unicode_utf8_first)]

theorem contract (H : Type) (enc : TypeId × Value → H) (W : World) (base : Nat) (args : Array Value) (ds gs : List (DataW H)) (before : List MemPlace)
    (hval : ∀ (j : Nat) t v, Tryz.f3.params[j]? = some t → args[j]? = some v → Value.okWide Tryz.prog W .any base t v)
    (hW : DataW.Whole enc Tryz.prog Tryz.f3.params.toList Rows.attestAllSpec.vars false W args.toList ds gs before) (hL : laidMetH Tryz.prog Rows.attestAllUptoRow.laid W)
    (hsz : (DataW.weightsEach Tryz.prog (Tryz.f3.params.toList ++ Rows.attestAllSpec.plain.varTypes Tryz.prog) (ds ++ gs)).all (· ≤ reachBytes) = true) (hS : W.ShapedOpen Tryz.prog) (hk : Rows.uptoSmall H (ds ++ gs) = true) :
    Calls Tryz.prog 3 args W fun e W' => ∃ v, e = .returned v ∧ Rows.attestAllSpec.post enc Tryz.prog Tryz.f3 false true false false W args v W' := by
  have hW' := hW
  have hg : 12 < W.heap.size := size_of_shape hS
  obtain ⟨p, q, hA0, hV, rfl, hfz, hnd⟩ := hW
  have hA : DataW.TrodAll enc Tryz.prog W 0 (fun _ => true) true Tryz.f3.params.toList args.toList ds p := hA0
  rw [Tryz.params3] at hA hval
  rw [Tryz.params3] at hsz
  obtain ⟨v0, vs0, d0, ds0, p0, q0, hargs, rfl, rfl, h0, r0⟩ := trodAll_cons hA
  obtain ⟨v1, vs1, d1, ds1, p1, q1, rfl, rfl, rfl, h1, r1⟩ := trodAll_cons r0
  obtain ⟨v2, vs2, d2, ds2, p2, q2, rfl, rfl, rfl, h2, r2⟩ := trodAll_cons r1
  obtain ⟨rfl, rfl, rfl⟩ := trodAll_nil r2
  obtain rfl : args = #[v0, v1, v2] := by cases args; simp_all
  obtain ⟨rfl, rfl⟩ := trodVars_none hV
  have hb : ∀ z ∈ d1.weights Tryz.prog 24, z ≤ reachBytes := fun z hz => by
    have := List.all_eq_true.1 hsz z (by simp [DataW.weightsEach, hz])
    simpa using this
  have hbk : Rows.uptoBulk d1 ≤ 1048576 := by
    have h := of_decide_eq_true hk
    simp only [List.cons_append, List.nil_append, Rows.uptoBulkAll] at h
    omega
  obtain ⟨sx, rfl, _, _, _⟩ := Go.ChangeMaps.open_string Tryz.underlying9 (hval 0 9 v0 rfl rfl) h0
  obtain ⟨ao, n, c, ot, R, rfl, hn, hr, ok, _, hmx⟩ := open_pol (hval 1 24 v1 rfl rfl) h1 hb
  obtain ⟨sd, o, m, d, t, ri, sa, rfl, ls, lo, lm, ld, lt, ws, wo, wm, wd, wt⟩ := open_cla (hval 2 30 v2 rfl rfl) h2
  have hL' : laidMet Tryz.prog dat W ∧ handlesMet Tryz.prog [("errors.errorType", Rows.laid_errors_errorType)] W := hL
  obtain ⟨ps, hv, _⟩ := id hL'.1
  obtain ⟨q1, hq1⟩ := vars_tail hv
  obtain ⟨q2, hq2⟩ := vars_tail hq1
  obtain ⟨q3, hq3⟩ := vars_tail hq2
  have hT : Tabs W := ⟨tab_head hq1, tabW_of hq3, hg⟩
  have hR : TR W := ⟨tabR_of hq2, hg⟩
  obtain ⟨E, hE⟩ := errs_of (rest := [("unicode/utf8.first", Rows.laid_unicode_utf8_first)]) (laidMet.tail (laidMet.tail (laidMet.tail (laidMet.tail hL'.1)))) hg
  have hVr : Vr W E := ⟨hE, err_of hL'.2, cell_max hS⟩
  refine (law3_any W E hVr hT hR sx ao n c ot R sd o m d t ri sa ls lo lm ld lt ws wo wm wd wt hn hr ok (by omega)).mono fun e W' ⟨he, hg⟩ => ?_
  subst he
  exact ⟨_, rfl, law_post (by kernel_rfl) (by kernel_rfl) rfl rfl hW' hg⟩

noncomputable def laidE (os : Os) : World :=
  let w0 := World.holding Tryz.prog os ⟨#[], #[], []⟩
  { w0 with heap := w0.heap.modify 6 fun
      | .cells _ t frozen => .cells #[.iface 150 (.agg #[.pointer (some ⟨13, 47, none⟩)])] t frozen
      | o => o }
noncomputable def laidP (os : Os) : World := (laidE os).layVars Tryz.prog dat
theorem laidP_os (os : Os) : (laidP os).os = os := World.layVars_os _ _ _
theorem laid_dat (os : Os) : laidMet Tryz.prog dat ((laidP os).forCall (fun _ _ => 0) ⟨#[], wit, []⟩).memory := by
  have e1 : (dat.filter fun x => (dat.map (·.1)).contains x.1) = dat := List.filter_eq_self.2 fun x hx => List.contains_iff_mem.2 (List.mem_map.2 ⟨x, hx, rfl⟩)
  have e2 : (dat.filter fun x => !(dat.map (·.1)).contains x.1) = [] := List.filter_eq_nil_iff.2 fun x hx => by rw [List.contains_iff_mem.2 (List.mem_map.2 ⟨x, hx, rfl⟩)]; simp
  have h : laidMet Tryz.prog dat (laidP os) := laidMet_layVars (w0 := laidE os) (dat.map (·.1)) [] (by rw [e1]; rfl) (by rw [e1]; kernel_rfl) (by rw [e1]; kernel_rfl) (by rw [e2]; exact LaidIn.none)
  exact h.of_heap (by simp [World.memory, World.forCall, Input.heap])
theorem laid_met (os : Os) : laidMetH Tryz.prog Rows.attestAllUptoRow.laid ((laidP os).forCall (fun _ _ => 0) ⟨#[], wit, []⟩).memory :=
  laidMetH_of_parts (laid_dat os) (by kernel_rfl)
theorem reads (os : Os) {H : Type} (enc : TypeId × Value → H) : ∃ places, DataW.whole enc Tryz.prog ((laidP os).forCall (fun _ _ => 0) ⟨#[], wit, []⟩).memory Tryz.f3.params.toList Rows.attestAllSpec.vars false (wit : Array Value).toList 8 = some ([.lit (.string []), .agg [.nil, .lit (.bool false)], .agg [.agg [.lit (.int .u32 0), .lit (.int .u32 0), .lit (.int .u32 0), .lit (.int .u32 0), .lit (.int .u32 0), .lit (.int .u32 0), .lit (.int .u32 0), .lit (.int .u32 0)], .agg [.lit (.int .u32 0), .lit (.int .u32 0), .lit (.int .u32 0), .lit (.int .u32 0), .lit (.int .u32 0), .lit (.int .u32 0), .lit (.int .u32 0), .lit (.int .u32 0)], .agg [.agg [.lit (.int .u32 0), .lit (.int .u32 0), .lit (.int .u32 0), .lit (.int .u32 0), .lit (.int .u32 0), .lit (.int .u32 0), .lit (.int .u32 0), .lit (.int .u32 0)], .agg [.lit (.int .u32 0), .lit (.int .u32 0), .lit (.int .u32 0), .lit (.int .u32 0), .lit (.int .u32 0), .lit (.int .u32 0), .lit (.int .u32 0), .lit (.int .u32 0)], .agg [.lit (.int .u32 0), .lit (.int .u32 0), .lit (.int .u32 0), .lit (.int .u32 0), .lit (.int .u32 0), .lit (.int .u32 0), .lit (.int .u32 0), .lit (.int .u32 0)]], .lit (.bool false), .lit (.bool false)]], [], places) :=
  ⟨[], by kernel_rfl⟩

set_option maxRecDepth 100000 in
theorem lifted (os : Os) (started : os.Started) (H : Type) (enc : TypeId × Value → H) (F : Stop.Interp) :
    ReturnsInHanded {} Tryz.checked os 3 .any ((Rows.OpenSpec.upto Rows.attestAllSpec).preRow enc Tryz.prog Tryz.f3 Rows.attestAllUptoRow.domain false Rows.attestAllUptoRow.laid) (((Rows.OpenSpec.upto Rows.attestAllSpec).at F).post enc Tryz.prog Tryz.f3 false true false false) := by
  obtain ⟨places, hx⟩ := reads os enc
  refine returnsInHanded_of_row (C := Tryz.checked) (s := Rows.OpenSpec.upto Rows.attestAllSpec) own started (by kernel_rfl) Tryz.func3
    (witness_row_atRef (enc := enc) (C := Tryz.checked) false (laidP os) wit (laidP_os _) (by kernel_rfl) (by kernel_rfl) (by kernel_rfl)
      (OpenSpec.preRow_of_cond 8 hx (by kernel_rfl) (fun k hk => by cases hk; kernel_rfl) (by kernel_rfl) (laid_met os))) ?_
  intro W base args ds gs before hval hW _ hcond hsz hL hS _
  exact contract H enc W base args ds gs before hval hW hL hsz hS (hcond _ rfl)

theorem said : Rows.AttestAllUptoSaid :=
  OpenClaim.holds_of_cond 3 Tryz.f3 rfl rfl rfl rfl rfl rfl rfl ⟨rfl, rfl, rfl, rfl, rfl⟩ rfl rfl rfl rfl rfl (by kernel_rfl) Tryz.func3 (by kernel_rfl)
    (of_decide_eq_true (by kernel_rfl)) (by unfold Func.isWrapper; first | (rw [if_pos (by decide +kernel)]; kernel_rfl) | (rw [if_neg (by decide +kernel)]; exact ⟨rfl, rfl⟩))
    (fun os started H enc _ F => by rw [OpenClaim.pre_eq_preRow]; exact lifted os started H enc F)

theorem plain (f : FuncId) (fn : Func) (hf : Tryz.pinned.checked.prog.funcNamed "warden/wardenlaw16.AttestAll" = some f) (hfn : Tryz.pinned.checked.prog.funcs[f]? = some fn) :
    true = Tryz.pinned.checked.prog.looks [] ∧ ∀ (j : Nat) t, fn.params[j]? = some t → Tryz.pinned.checked.prog.wantsStandIn t = false := by
  obtain rfl : f = 3 := Option.some.inj ((show Tryz.prog.funcNamed "warden/wardenlaw16.AttestAll" = some 3 by kernel_rfl).symm.trans hf) |>.symm
  obtain rfl : fn = Tryz.f3 := (Option.some.inj (Tryz.func3.symm.trans hfn)).symm
  refine ⟨by kernel_rfl, fun j t ht => ?_⟩
  rw [Tryz.params3] at ht
  have hm : t ∈ [9, 24, 30] := by simpa using Array.mem_of_getElem? ht
  have hall : ([9, 24, 30].all fun u => !Tryz.prog.wantsStandIn u) = true := by kernel_rfl
  exact (show Tryz.prog.wantsStandIn t = false by simpa using List.all_eq_true.1 hall t hm)

theorem card : Rows.AttestAllUptoCardSaid :=
  Claim7.holds_tied_plain_at .later [] _ _ _ _ said (fun _ h => by cases h) (by kernel_rfl) (fun _ h => by cases h) attestAllUpto_row_tie rfl ⟨rfl, rfl⟩ (by kernel_rfl) rfl plain (by kernel_rfl)
end Go.Proofs.YtbpdmkohihgnjaaGreatDoor.AttestAllT
namespace Go.Proofs.YtbpdmkohihgnjaaGreatDoor
theorem attestAllUpto_holds : Rows.AttestAllUptoCardSaid := AttestAllT.card
#print axioms attestAllUpto_holds
end Go.Proofs.YtbpdmkohihgnjaaGreatDoor
