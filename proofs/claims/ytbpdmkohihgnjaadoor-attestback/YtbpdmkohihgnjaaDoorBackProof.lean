import Derived.Test.YtbpdmkohihgnjaaDoorFeFfFgFh
import Derived.Test.YtbpdmkohihgnjaaDoorLwLj
import Derived.ChangeMaps5
namespace Go.Proofs.YtbpdmkohihgnjaaDoor.AttestBack
open Go.ChangeShapes Go.WideShapes Go.ChangeAt Go.RowKit
set_option maxRecDepth 100000
def wit : Array Value := #[.agg #[.int .u32 0, .int .u32 0, .int .u32 0, .int .u32 0, .int .u32 0, .int .u32 0, .int .u32 0, .int .u32 0, .int .u32 0, .int .u32 0, .int .u32 0, .int .u32 0, .int .u32 0, .int .u32 0, .int .u32 0, .int .u32 0, .int .u32 0, .int .u32 0, .int .u32 0, .int .u32 0, .int .u32 0, .int .u32 0, .int .u32 0, .int .u32 0], .string ⟨#[]⟩, .int .i64 0, .int .u8 0]
theorem open_quo {H : Type} {enc : TypeId × Value → H} {W : World} {base : Nat} {held : Bool} {v : Value} {dd : DataW H} {p : List MemPlace}
    (hv : Value.okWide Tryd.prog W .any base 38 v) (h : DataW.Trod enc Tryd.prog W 0 (fun _ => true) held 38 v dd p) :
    ∃ (m d t : List Int), v = Ag (quoL m d t) ∧ m.length = 8 ∧ d.length = 8 ∧ t.length = 8 ∧ Wds m ∧ Wds d ∧ Wds t := by
  obtain ⟨cs, rfl, hsz, _⟩ : ∃ cs, v = .agg cs ∧ cs.size = Tryd.prog.cellsOf 38 ∧ Row.okWide Tryd.prog W .any base 38 cs := by
    simpa [Value.okWide, Tryd.underlying38] using hv
  obtain ⟨fuel, hf⟩ := h
  obtain ⟨ys, m2, rfl, _, hlen2, hn2, hel2⟩ := DataW.trod_struct Tryd.underlying38 hf
  obtain ⟨cs⟩ := cs
  have hlen' : cs.length = 24 := by simpa [cells38] using hsz
  have hsz2 : ys.length = 3 := hn2
  match ys, hsz2 with
  | [y0, y1, y2], _ =>
    have f0 : DataW.trod enc Tryd.prog W 0 (fun _ => true) held m2 23 ((cs.drop 0).take (Tryd.prog.cellsOf 23)) = some y0 := hel2 0 _ rfl
    have f1 : DataW.trod enc Tryd.prog W 0 (fun _ => true) held m2 23 ((cs.drop 8).take (Tryd.prog.cellsOf 23)) = some y1 := hel2 1 _ rfl
    have f2 : DataW.trod enc Tryd.prog W 0 (fun _ => true) held m2 23 ((cs.drop 16).take (Tryd.prog.cellsOf 23)) = some y2 := hel2 2 _ rfl
    rw [cells23] at f0 f1 f2
    obtain ⟨qm, k0, lm, wm⟩ := open_arr8 f0
    obtain ⟨qd, k1, ld, wd⟩ := open_arr8 f1
    obtain ⟨qt, k2, lt, wt⟩ := open_arr8 f2
    refine ⟨qm, qd, qt, ?_, lm, ld, lt, wm, wd, wt⟩
    unfold Ag
    congr 1
    rw [show (({ toList := cs } : Array Value) = cs.toArray) from rfl]
    congr 1
    have a0 : cs.take 8 = qm.map (Value.int .u32) := by simpa using k0
    have a1 : (cs.drop 8).take 8 = qd.map (Value.int .u32) := k1
    have a2 : (cs.drop 16).take 8 = qt.map (Value.int .u32) := k2
    have a3 : cs.drop 24 = [] := List.drop_of_length_le (by omega)
    have hd : ∀ i, cs.drop i = (cs.drop i).take 8 ++ cs.drop (i + 8) := fun i => by rw [← List.drop_drop, List.take_append_drop]
    have e : cs = cs.take 8 ++ cs.drop 8 := (List.take_append_drop 8 cs).symm
    rw [e, hd 8, hd 16, a0, a1, a2, a3]
    simp [quoL]

theorem contract (H : Type) (enc : TypeId × Value → H) (W : World) (base : Nat) (args : Array Value) (ds gs : List (DataW H)) (before : List MemPlace)
    (hval : ∀ (j : Nat) t v, Tryd.f5.params[j]? = some t → args[j]? = some v → Value.okWide Tryd.prog W .any base t v)
    (hW : DataW.Whole enc Tryd.prog Tryd.f5.params.toList Rows.attestBackSpec.vars false W args.toList ds gs before) (hL : laidMetH Tryd.prog Rows.attestBackRow.laid W)
    (hsz : (DataW.weightsEach Tryd.prog (Tryd.f5.params.toList ++ Rows.attestBackSpec.plain.varTypes Tryd.prog) (ds ++ gs)).all (· ≤ reachBytes) = true) (hg : 12 < W.heap.size) :
    Calls Tryd.prog 5 args W fun e W' => ∃ v, e = .returned v ∧ Rows.attestBackSpec.post enc Tryd.prog Tryd.f5 false true false false W args v W' := by
  have hW' := hW
  obtain ⟨p, q, hA0, hV, rfl, hfz, hnd⟩ := hW
  have hA : DataW.TrodAll enc Tryd.prog W 0 (fun _ => true) true Tryd.f5.params.toList args.toList ds p := hA0
  rw [Tryd.params5] at hA hval
  rw [Tryd.params5] at hsz
  obtain ⟨v0, vs0, d0, ds0, p0, q0, hargs, rfl, rfl, h0, r0⟩ := trodAll_cons hA
  obtain ⟨v1, vs1, d1, ds1, p1, q1, rfl, rfl, rfl, h1, r1⟩ := trodAll_cons r0
  obtain ⟨v2, vs2, d2, ds2, p2, q2, rfl, rfl, rfl, h2, r2⟩ := trodAll_cons r1
  obtain ⟨v3, vs3, d3, ds3, p3, q3, rfl, rfl, rfl, h3, r3⟩ := trodAll_cons r2
  obtain ⟨rfl, rfl, rfl⟩ := trodAll_nil r3
  obtain rfl : args = #[v0, v1, v2, v3] := by cases args; simp_all
  obtain ⟨rfl, rfl⟩ := trodVars_none hV
  obtain ⟨m, d, t, rfl, lm, ld, lt, wm, wd, wt⟩ := open_quo (hval 0 38 v0 rfl rfl) h0
  obtain ⟨s, rfl, hd1, _, hs⟩ := Go.ChangeMaps.open_string Tryd.underlying9 (hval 1 9 v1 rfl rfl) h1
  have hsl : s.size ≤ 140737488355328 := by
    have := List.all_eq_true.1 hsz s.size (by
      rw [hd1]
      show s.size ∈ DataW.weights Tryd.prog 38 d0 ++ (DataW.weights Tryd.prog 9 (.lit (.string s.data.toList)) ++ _)
      refine List.mem_append_right _ (List.mem_append_left _ ?_)
      rw [DataW.weights]
      exact List.mem_singleton.2 rfl)
    simp only [reachBytes] at this
    have h2 := of_decide_eq_true this
    omega
  obtain ⟨x, rfl, _, _, wx⟩ := open_int Tryd.underlying3 (hval 2 3 v2 rfl rfl) h2
  obtain ⟨b, rfl, _, _, wb⟩ := open_int Tryd.underlying5 (hval 3 5 v3 rfl rfl) h3
  have hb : 0 ≤ b ∧ b ≤ 255 := by simpa [Lit.wf, IntKind.min, IntKind.max, IntKind.signed, IntKind.bits] using wb
  have hT : TabW W := by
    obtain ⟨ps, hv, _⟩ := hL
    exact tabW_of hv
  obtain ⟨E, hE⟩ := errs_of (rest := []) (laidMet.tail hL) hg
  refine (back_l W hT E hE m d t lm ld lt wm wd wt s hsl x b hb.1 (by omega)).mono fun e W' ⟨he, hg⟩ => ?_
  subst he
  exact ⟨_, rfl, law_post (by kernel_rfl) (by kernel_rfl) rfl rfl hW' hg⟩

theorem laid_met (os : Os) : laidMet Tryd.prog Rows.attestBackRow.laid ((World.laidAll Tryd.prog os Rows.attestBackRow.laid).forCall (fun _ _ => 0) ⟨#[], wit, []⟩).memory :=
  laidMet_laidAll _ (by kernel_rfl) (by kernel_rfl)
theorem reads (os : Os) {H : Type} (enc : TypeId × Value → H) : ∃ places, DataW.whole enc Tryd.prog ((World.laidAll Tryd.prog os Rows.attestBackRow.laid).forCall (fun _ _ => 0) ⟨#[], wit, []⟩).memory Tryd.f5.params.toList Rows.attestBackSpec.vars false (wit : Array Value).toList 8 = some ([.agg [.agg [.lit (.int .u32 0), .lit (.int .u32 0), .lit (.int .u32 0), .lit (.int .u32 0), .lit (.int .u32 0), .lit (.int .u32 0), .lit (.int .u32 0), .lit (.int .u32 0)], .agg [.lit (.int .u32 0), .lit (.int .u32 0), .lit (.int .u32 0), .lit (.int .u32 0), .lit (.int .u32 0), .lit (.int .u32 0), .lit (.int .u32 0), .lit (.int .u32 0)], .agg [.lit (.int .u32 0), .lit (.int .u32 0), .lit (.int .u32 0), .lit (.int .u32 0), .lit (.int .u32 0), .lit (.int .u32 0), .lit (.int .u32 0), .lit (.int .u32 0)]], .lit (.string []), .lit (.int .i64 0), .lit (.int .u8 0)], [], places) :=
  ⟨[], by kernel_rfl⟩

set_option maxRecDepth 100000 in
theorem lifted (os : Os) (started : os.Started) (H : Type) (enc : TypeId × Value → H) (F : Stop.Interp) :
    ReturnsInHanded {} Tryd.checked os 5 .any ((OpenSpec.ofChange Rows.attestBackSpec).preRow enc Tryd.prog Tryd.f5 Rows.attestBackRow.domain false Rows.attestBackRow.laid) (((OpenSpec.ofChange Rows.attestBackSpec).at F).post enc Tryd.prog Tryd.f5 false true false false) := by
  obtain ⟨places, hx⟩ := reads os enc
  refine returnsInHanded_of_row (C := Tryd.checked) (s := OpenSpec.ofChange Rows.attestBackSpec) own started (by kernel_rfl) Tryd.func5
    (witness_row_atRef (enc := enc) (C := Tryd.checked) false (World.laidAll Tryd.prog os Rows.attestBackRow.laid) wit (World.laidAll_os _ _ _) (by kernel_rfl) (by kernel_rfl) (by kernel_rfl)
      (OpenSpec.preRow_of_cond 8 hx (by kernel_rfl) (fun k hk => by cases hk) (by kernel_rfl) (laid_met os))) ?_
  intro W base args ds gs before hval hW _ _ hsz hL hS _
  exact contract H enc W base args ds gs before hval hW hL hsz (size_of_shape hS)

theorem said : Rows.AttestBackSaid :=
  OpenClaim.holds_of_cond 5 Tryd.f5 rfl rfl rfl rfl rfl rfl rfl ⟨rfl, rfl, rfl, rfl, rfl⟩ rfl rfl rfl rfl rfl (by kernel_rfl) Tryd.func5 (by kernel_rfl)
    (of_decide_eq_true (by kernel_rfl)) (by unfold Func.isWrapper; first | (rw [if_pos (by decide +kernel)]; kernel_rfl) | (rw [if_neg (by decide +kernel)]; exact ⟨rfl, rfl⟩))
    (fun os started H enc _ F => by rw [OpenClaim.pre_eq_preRow]; exact lifted os started H enc F)

theorem plain (f : FuncId) (fn : Func) (hf : Tryd.pinned.checked.prog.funcNamed "warden/wardenlaw16.AttestBack" = some f) (hfn : Tryd.pinned.checked.prog.funcs[f]? = some fn) :
    true = Tryd.pinned.checked.prog.looks [] ∧ ∀ (j : Nat) t, fn.params[j]? = some t → Tryd.pinned.checked.prog.wantsStandIn t = false := by
  obtain rfl : f = 5 := Option.some.inj ((show Tryd.prog.funcNamed "warden/wardenlaw16.AttestBack" = some 5 by kernel_rfl).symm.trans hf) |>.symm
  obtain rfl : fn = Tryd.f5 := (Option.some.inj (Tryd.func5.symm.trans hfn)).symm
  refine ⟨by kernel_rfl, fun j t ht => ?_⟩
  rw [Tryd.params5] at ht
  have hm : t ∈ [38, 9, 3, 5] := by simpa using Array.mem_of_getElem? ht
  have hall : ([38, 9, 3, 5].all fun u => !Tryd.prog.wantsStandIn u) = true := by kernel_rfl
  exact (show Tryd.prog.wantsStandIn t = false by simpa using List.all_eq_true.1 hall t hm)

/-- THE CARD -/
theorem card : Rows.AttestBackCardSaid :=
  Claim7.holds_tied_plain_at .later [] _ _ _ _ said (fun _ h => by cases h) (by kernel_rfl) (fun _ h => by cases h) attestBack_row_tie rfl ⟨rfl, rfl⟩ (by kernel_rfl) rfl plain (by kernel_rfl)
end Go.Proofs.YtbpdmkohihgnjaaDoor.AttestBack
namespace Go.Proofs.YtbpdmkohihgnjaaDoor
theorem attestBack_holds : Rows.AttestBackCardSaid := AttestBack.card
#print axioms attestBack_holds
end Go.Proofs.YtbpdmkohihgnjaaDoor
