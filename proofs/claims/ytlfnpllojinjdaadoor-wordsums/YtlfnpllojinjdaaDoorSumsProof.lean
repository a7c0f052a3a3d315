import Derived.Test.YtlfnpllojinjdaaDoorSumsA
import Derived.Test.YtlfnpllojinjdaaDoorSumsB
import Derived.Test.YtlfnpllojinjdaaDoorLaw
namespace Go.Proofs.YtlfnpllojinjdaaDoor.Sums
open Go.ChangeShapes Go.WideShapes Go.ChangeAt Go.RowKit

theorem walk (W : World) (hT : Tab W) (h0 : 0 < W.heap.size) (a b c0 c1 c2 : Int) (a0 : 0 ≤ a) (a1 : a < 4294967296) (b0 : 0 ≤ b) (b1 : b < 4294967296)
    (p0 : 0 ≤ c0) (q0 : c0 < 4294967296) (p1 : 0 ≤ c1) (q1 : c1 < 4294967296) (p2 : 0 ≤ c2) (q2 : c2 < 4294967296) :
    Calls Tryd.prog 3 #[.int .u32 a, .int .u32 b, .agg #[.int .u32 c0, .int .u32 c1, .int .u32 c2]] W fun e W' => e = .returned (.bool true) ∧ Below W.heap.size W W' := by
  by_cases hb : b ≤ 0
  · by_cases z1 : c1 ≤ 0
    · exact sums_z0 W hT h0 a b c0 c1 c2 a0 a1 b0 hb p0 q0 p1 z1 p2 q2
    · by_cases z2 : c2 ≤ 0
      · exact sums_z1 W hT h0 a b c0 c1 c2 a0 a1 b0 hb p0 q0 (by omega) q1 p2 z2
      · by_cases m1 : b + c2 ≤ a
        · exact sums_z2 W hT h0 a b c0 c1 c2 a0 a1 b0 hb p0 q0 (by omega) q1 (by omega) q2 m1
        · exact sums_z4 W hT h0 a b c0 c1 c2 a0 a1 b0 hb p0 q0 (by omega) q1 (by omega) q2 (by omega) (by omega)
  · by_cases z1 : c1 ≤ 0
    · exact sums_p0 W hT h0 a b c0 c1 c2 a0 a1 (by omega) b1 p0 q0 p1 z1 p2 q2
    · by_cases z2 : c2 ≤ 0
      · exact sums_p1 W hT h0 a b c0 c1 c2 a0 a1 (by omega) b1 p0 q0 (by omega) q1 p2 z2
      · by_cases m1 : b + c2 ≤ a
        · exact sums_p2 W hT h0 a b c0 c1 c2 a0 a1 (by omega) b1 p0 q0 (by omega) q1 (by omega) q2 m1
        · by_cases m2 : a + c1 ≤ b
          · exact sums_p3 W hT h0 a b c0 c1 c2 a0 a1 (by omega) b1 p0 q0 (by omega) q1 (by omega) q2 (by omega) m2
          · exact sums_p4 W hT h0 a b c0 c1 c2 a0 a1 (by omega) b1 p0 q0 (by omega) q1 (by omega) q2 (by omega) (by omega)

theorem cells23 : Tryd.prog.cellsOf 23 = 3 := by kernel_rfl

theorem open_words3 {H : Type} {enc : TypeId × Value → H} {W : World} {base b0 : Nat} {sp : Nat → Bool} {held : Bool} {v : Value} {d : DataW H} {p : List MemPlace} (hv : Value.okWide Tryd.prog W .any base 23 v) (h : DataW.Trod enc Tryd.prog W b0 sp held 23 v d p) :
    ∃ c0 c1 c2 : Int, v = .agg #[.int .u32 c0, .int .u32 c1, .int .u32 c2] ∧ (0 ≤ c0 ∧ c0 < 4294967296) ∧ (0 ≤ c1 ∧ c1 < 4294967296) ∧ (0 ≤ c2 ∧ c2 < 4294967296) := by
  simp only [Value.okWide, Tryd.underlying23] at hv
  obtain ⟨cs, rfl, hsz, _⟩ := hv
  rw [cells23] at hsz
  obtain ⟨l⟩ := cs
  obtain ⟨fuel, hf⟩ := h
  obtain ⟨xs, m, rfl, hx, hlen, hn, hel⟩ := DataW.trod_array Tryd.underlying23 hf
  match l, hsz, hel with
  | [x0, x1, x2], _, hel =>
    have e0 := hel 0 (by decide)
    have e1 := hel 1 (by decide)
    have e2 := hel 2 (by decide)
    rw [cells22] at e0 e1 e2
    match xs, hn with
    | [y0, y1, y2], _ =>
      obtain ⟨c0, g0, _, w0⟩ := DataW.trod_int Tryd.underlying22 (show _ = some y0 from e0)
      obtain ⟨c1, g1, _, w1⟩ := DataW.trod_int Tryd.underlying22 (show _ = some y1 from e1)
      obtain ⟨c2, g2, _, w2⟩ := DataW.trod_int Tryd.underlying22 (show _ = some y2 from e2)
      simp [Value.cells] at g0 g1 g2
      subst g0 g1 g2
      have k0 := bounds_u32 w0
      have k1 := bounds_u32 w1
      have k2 := bounds_u32 w2
      exact ⟨c0, c1, c2, rfl, by omega, by omega, by omega⟩

theorem contract (H : Type) (enc : TypeId × Value → H) (W : World) (base : Nat) (args : Array Value) (ds gs : List (DataW H)) (before : List MemPlace)
    (hval : ∀ (j : Nat) t v, Tryd.f3.params[j]? = some t → args[j]? = some v → Value.okWide Tryd.prog W .any base t v)
    (hW : DataW.Whole enc Tryd.prog Tryd.f3.params.toList Rows.wordSumsSpec.vars false W args.toList ds gs before) (hL : laidMetH Tryd.prog Rows.wordSumsRow.laid W) :
    Calls Tryd.prog 3 args W fun e W' => ∃ v, e = .returned v ∧ Rows.wordSumsSpec.post enc Tryd.prog Tryd.f3 false true false false W args v W' := by
  have hW' := hW
  obtain ⟨p, q, hA0, hV, rfl, hfz, hnd⟩ := hW
  have hA : DataW.TrodAll enc Tryd.prog W 0 (fun _ => true) true Tryd.f3.params.toList args.toList ds p := hA0
  rw [Tryd.params3] at hA hval
  obtain ⟨v0, vs0, d0, ds0, p0, q0, hargs, rfl, rfl, h0, r0⟩ := trodAll_cons hA
  obtain ⟨v1, vs1, d1, ds1, p1, q1, rfl, rfl, rfl, h1, r1⟩ := trodAll_cons r0
  obtain ⟨v2, vs2, d2, ds2, p2, q2, rfl, rfl, rfl, h2, r2⟩ := trodAll_cons r1
  obtain ⟨rfl, rfl, rfl⟩ := trodAll_nil r2
  obtain rfl : args = #[v0, v1, v2] := by cases args; simp_all
  obtain ⟨rfl, rfl⟩ := trodVars_none hV
  obtain ⟨a, rfl, rfl, rfl, wa⟩ := open_int Tryd.underlying22 (hval 0 22 v0 rfl rfl) h0
  obtain ⟨b, rfl, rfl, rfl, wb⟩ := open_int Tryd.underlying22 (hval 1 22 v1 rfl rfl) h1
  obtain ⟨c0, c1, c2, rfl, ⟨s0, t0⟩, ⟨s1, t1⟩, ⟨s2, t2⟩⟩ := open_words3 (hval 2 23 v2 rfl rfl) h2
  obtain ⟨hT, hz⟩ := tab_of hL
  have ka := bounds_u32 wa
  have kb := bounds_u32 wb
  refine (walk W hT hz a b c0 c1 c2 (by omega) (by omega) (by omega) (by omega) s0 t0 s1 t1 s2 t2).mono fun e W' ⟨he, hg⟩ => ?_
  subst he
  exact ⟨_, rfl, law_post (by kernel_rfl) (by kernel_rfl) rfl rfl hW' hg⟩

theorem laid_met (os : Os) : laidMet Tryd.prog Rows.wordSumsRow.laid ((laidWorld os).forCall (fun _ _ => 0) ⟨#[], #[.int .u32 0, .int .u32 0, .agg #[.int .u32 0, .int .u32 0, .int .u32 0]], []⟩).memory :=
  laidMet_of_run' 8 (by kernel_rfl) (by kernel_rfl)
theorem reads (os : Os) {H : Type} (enc : TypeId × Value → H) : ∃ places, DataW.whole enc Tryd.prog ((laidWorld os).forCall (fun _ _ => 0) ⟨#[], #[.int .u32 0, .int .u32 0, .agg #[.int .u32 0, .int .u32 0, .int .u32 0]], []⟩).memory Tryd.f3.params.toList Rows.wordSumsSpec.vars false #[Value.int .u32 0, .int .u32 0, .agg #[.int .u32 0, .int .u32 0, .int .u32 0]].toList 8 = some ([.lit (.int .u32 0), .lit (.int .u32 0), .agg [.lit (.int .u32 0), .lit (.int .u32 0), .lit (.int .u32 0)]], [], places) :=
  ⟨[], by kernel_rfl⟩

set_option maxRecDepth 100000 in
theorem lifted (os : Os) (started : os.Started) (H : Type) (enc : TypeId × Value → H) (F : Stop.Interp) :
    ReturnsInHanded {} Tryd.checked os 3 .any ((OpenSpec.ofChange Rows.wordSumsSpec).preRow enc Tryd.prog Tryd.f3 Rows.wordSumsRow.domain false Rows.wordSumsRow.laid) (((OpenSpec.ofChange Rows.wordSumsSpec).at F).post enc Tryd.prog Tryd.f3 false true false false) := by
  obtain ⟨places, hx⟩ := reads os enc
  refine returnsInHanded_of_row (C := Tryd.checked) (s := OpenSpec.ofChange Rows.wordSumsSpec) own started (by kernel_rfl) Tryd.func3
    (witness_row_at (enc := enc) (C := Tryd.checked) false (laidWorld os) #[.int .u32 0, .int .u32 0, .agg #[.int .u32 0, .int .u32 0, .int .u32 0]] rfl (by kernel_rfl) (by kernel_rfl) (by kernel_rfl)
      (OpenSpec.preRow_of_cond 8 hx (by kernel_rfl) (fun k hk => by cases hk) (by kernel_rfl) (laid_met os))) ?_
  intro W base args ds gs before hval hW _ _ _ hL _ _
  exact contract H enc W base args ds gs before hval hW hL

theorem said : Rows.WordSumsSaid :=
  OpenClaim.holds_of_cond 3 Tryd.f3 rfl rfl rfl rfl rfl rfl rfl ⟨rfl, rfl, rfl, rfl, rfl⟩ rfl rfl rfl rfl rfl (by kernel_rfl) Tryd.func3 (by kernel_rfl)
    (of_decide_eq_true (by kernel_rfl)) (by unfold Func.isWrapper; first | (rw [if_pos (by decide +kernel)]; kernel_rfl) | (rw [if_neg (by decide +kernel)]; exact ⟨rfl, rfl⟩))
    (fun os started H enc _ F => by rw [OpenClaim.pre_eq_preRow]; exact lifted os started H enc F)

theorem plain (f : FuncId) (fn : Func) (hf : Tryd.pinned.checked.prog.funcNamed "warden/wardenlaw01.WordSums" = some f) (hfn : Tryd.pinned.checked.prog.funcs[f]? = some fn) :
    false = Tryd.pinned.checked.prog.looks [] ∧ ∀ (j : Nat) t, fn.params[j]? = some t → Tryd.pinned.checked.prog.wantsStandIn t = false := by
  obtain rfl : f = 3 := Option.some.inj ((show Tryd.prog.funcNamed "warden/wardenlaw01.WordSums" = some 3 by kernel_rfl).symm.trans hf) |>.symm
  obtain rfl : fn = Tryd.f3 := (Option.some.inj (Tryd.func3.symm.trans hfn)).symm
  refine ⟨by kernel_rfl, fun j t ht => ?_⟩
  rw [Tryd.params3] at ht
  have hm : t ∈ [22, 22, 23] := by simpa using Array.mem_of_getElem? ht
  have hall : ([22, 22, 23].all fun u => !Tryd.prog.wantsStandIn u) = true := by kernel_rfl
  exact (show Tryd.prog.wantsStandIn t = false by simpa using List.all_eq_true.1 hall t hm)

/-- THE CARD -/
theorem card : Rows.WordSumsCardSaid :=
  Claim7.holds_tied_plain_at .later [] _ _ _ _ said (fun _ h => by cases h) (by kernel_rfl) (fun _ h => by cases h) wordSums_row_tie rfl ⟨rfl, rfl⟩ (by kernel_rfl) rfl plain (by kernel_rfl)
end Go.Proofs.YtlfnpllojinjdaaDoor.Sums
namespace Go.Proofs.YtlfnpllojinjdaaDoor
theorem wordSums_holds : Rows.WordSumsCardSaid := Sums.card
#print axioms wordSums_holds
end Go.Proofs.YtlfnpllojinjdaaDoor
