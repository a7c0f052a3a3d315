/- What every statement of this seat needs beside its walk: the tables, the witness, the row's end. -/
import Derived.Test.YtncnogndopgknaaDoorCards
import Derived.Test.YtncnogndopgknaaDoorTie
import Derived.Test.YtncnogndopgknaaDoorLw3
import Derived.ProofKit
import Derived.OpenShut
import Derived.ShutString
import Derived.ChangeOld
import Derived.ChangeSame
import Derived.Below
import Derived.Deep.DeepHandedRow
import Derived.Deep.CondSized
import Derived.SizedLaws
import Derived.Lib.SmallJoins
import Derived.Lib.LaidTab
namespace Go.Proofs.YtncnogndopgknaaDoor
open Go.ChangeShapes Go.WideShapes Go.ChangeAt Go.RowKit

theorem own : ownKnob Tryd.prog.godebug = none := by kernel_rfl
theorem laidOut : laidOutB Tryd.prog = true := by kernel_rfl
theorem gLows : Tryd.prog.globalNamed "warden/word.lows" = some 5 := by kernel_rfl
theorem gLowsType : (Tryd.prog.globals[5]?).map (·.type) = some 98 := by kernel_rfl
theorem gForms : Tryd.prog.globalNamed "warden/isa.forms" = some 0 := by kernel_rfl
theorem gFormsType : (Tryd.prog.globals[0]?).map (·.type) = some 79 := by kernel_rfl
theorem cells81 : Tryd.prog.cellsOf 98 = 33 := by kernel_rfl
theorem cells31 : Tryd.prog.cellsOf 23 = 1 := by kernel_rfl
theorem cells71 : Tryd.prog.cellsOf 79 = 50 := by kernel_rfl
theorem cells70 : Tryd.prog.cellsOf 78 = 2 := by kernel_rfl
theorem cells9 : Tryd.prog.cellsOf 9 = 1 := by kernel_rfl
def lows : List Int := (List.range 33).map fun i => 2 ^ i - 1
theorem vars_tail {P : Program} {W : World} {x : String × DataW Unit} {r : List (String × DataW Unit)} {ps : List MemPlace} (h : DataW.LaidVars P W (x :: r) ps) : ∃ q, DataW.LaidVars P W r q := by
  obtain ⟨n, d⟩ := x
  obtain ⟨g, t, cs, fuel, p, q, _, _, _, _, h, _⟩ := h
  exact ⟨q, h⟩
theorem tab_vars {P : Program} {W : World} {name : String} {k : IntKind} {zs : List Int} {rest : List (String × DataW Unit)} {g : Nat} {t e : TypeId} {n : Nat} {ps : List MemPlace}
    (hg : P.globalNamed name = some g) (hty : (P.globals[g]?).map (·.type) = some t) (ht : P.underlying t = some (.array n e)) (he : P.underlying e = some (.int k)) (hce : P.cellsOf e = 1) (hct : P.cellsOf t = n)
    (h : DataW.LaidVars P W ((name, Lib.tabData k zs) :: rest) ps) : Lib.TabIs P W name k zs := by
  obtain ⟨g', t', cs, fuel, p, q, hg', ht', hvar, hd, _, _⟩ := h
  obtain rfl := Option.some.inj (hg.symm.trans hg')
  obtain rfl := Option.some.inj (hty.symm.trans ht')
  unfold Lib.TabIs
  rw [hvar, ← Lib.cells_of_tab ht he hce hct hd]
theorem tab_of {rest : List (String × DataW Unit)} {W : World} {ps : List MemPlace} (h : DataW.LaidVars Tryd.prog W (("warden/word.lows", Rows.laid_warden_word_lows) :: rest) ps) : Tab W ∧ 5 < W.heap.size := by
  have hT : Lib.TabIs Tryd.prog W "warden/word.lows" .u32 lows := tab_vars (rest := rest) gLows gLowsType Tryd.underlying98 Tryd.underlying23 cells31 cells81 h
  have hc : ∀ i : Nat, i ≤ 32 → W.cell? ⟨5, i, none⟩ = some (.int .u32 (2 ^ i - 1)) := by
    intro i hi
    have := hT.cell gLows i (by simp [lows]; omega)
    rw [this]
    have e : lows.getD i 0 = 2 ^ i - 1 := by simp [lows, List.getD_eq_getElem?_getD, show i < 33 by omega]
    rw [e]
  refine ⟨hc, ?_⟩
  have := hc 0 (by decide)
  rcases Nat.lt_or_ge 5 W.heap.size with h0 | h0
  · exact h0
  · simp [World.cell?, Array.getElem?_eq_none h0] at this
def formD (n : Nat) : DataW Unit := .agg [.lit (.string (nameT.getD n [])), .lit (.string (shapeT.getD n []))]
theorem forms_eq : (Rows.laid_warden_isa_forms : DataW Unit) = .agg ((List.range 25).map formD) := by rfl
theorem str_of {W : World} {fuel : Nat} {cs : List Value} {l : List UInt8} {p : List MemPlace} (h : DataW.trod (fun _ => ()) Tryd.prog W 0 (fun _ => true) false fuel 9 cs = some (.lit (.string l), p)) : cs = [.string ⟨l.toArray⟩] := by
  obtain ⟨s, h1, h2, _⟩ := DataW.trod_string Tryd.underlying9 h
  simp only [Prod.mk.injEq, DataW.lit.injEq, Lit.string.injEq] at h2
  rw [h1, h2.1]
theorem forms_of {rest : List (String × DataW Unit)} {W : World} {ps : List MemPlace} (h : DataW.LaidVars Tryd.prog W (("warden/isa.forms", Rows.laid_warden_isa_forms) :: rest) ps) : Forms W := by
  obtain ⟨g', t', cs, fuel, p, q, hg', ht', hvar, hd, _, _⟩ := h
  obtain rfl := Option.some.inj (gForms.symm.trans hg')
  obtain rfl := Option.some.inj (gFormsType.symm.trans ht')
  have hcell := World.var?_cell gForms hvar
  obtain ⟨xs, m, _, hx, hlen, hn, hel⟩ := DataW.trod_array Tryd.underlying79 hd
  rw [cells70] at hel
  intro n hn25
  have he := hel n hn25
  have hxn : n < xs.length := by omega
  rw [List.getElem?_eq_getElem hxn] at he
  have hf : xs[n].1 = formD n := by
    have h1 : xs.map (·.1) = (List.range 25).map formD := by
      have := (Prod.mk.injEq _ _ _ _).mp hx
      rw [forms_eq] at this
      exact (DataW.agg.inj this.1).symm
    have h2 := congrArg (·[n]?) h1
    simpa [List.getElem?_eq_getElem hxn, hn25] using h2
  obtain ⟨y0, y1, k, hy, hl, e0, e1⟩ := trod_struct2 Tryd.underlying78 he
  rw [hy] at hf
  simp only [formD, DataW.agg.injEq, List.cons.injEq, and_true] at hf
  obtain ⟨z0, q0⟩ := y0
  obtain ⟨z1, q1⟩ := y1
  obtain ⟨rfl, rfl⟩ := hf
  have s0 := str_of e0
  have s1 := str_of e1
  have g0 := congrArg (·[0]?) s0
  have g1 := congrArg (·[0]?) s1
  simp [List.getElem?_take, List.getElem?_drop] at g0 g1
  refine ⟨?_, ?_⟩
  · rw [hcell, g0.2, nam, List.getD_eq_getElem?_getD]
  · rw [hcell, g1.2, shp, List.getD_eq_getElem?_getD]
theorem tabs_of {rest : List (String × DataW Unit)} {W : World} {ps : List MemPlace} (h : DataW.LaidVars Tryd.prog W (("warden/word.lows", Rows.laid_warden_word_lows) :: ("warden/isa.forms", Rows.laid_warden_isa_forms) :: rest) ps) : Tabs W := by
  obtain ⟨a, b⟩ := tab_of h
  obtain ⟨q, hq⟩ := vars_tail h
  exact ⟨forms_of hq, a, b⟩

/-- What was read as data reads so still, where nothing that was there has turned. -/
theorem trodAll_below {H : Type} {enc : TypeId × Value → H} {P : Program} (hl : laidOutB P = true) {W W' : World} (hb : Below W.heap.size W W') (ts : List TypeId) : ∀ {vs : List Value} {ds : List (DataW H)} {ps : List MemPlace},
    (ts.all fun t => P.readableRec t && decide (t < P.types.size)) = true → DataW.TrodAll enc P W 0 (fun _ => true) true ts vs ds ps → (∀ x ∈ ps, x.block < W.heap.size) →
    DataW.TrodAll enc P W' 0 (fun b => decide (b < W.heap.size)) true ts vs ds ps := by
  induction ts with
  | nil =>
    intro vs ds ps _ h _
    obtain ⟨rfl, rfl, rfl⟩ := trodAll_nil h
    exact trodAll_mk0
  | cons t ts ih =>
    intro vs ds ps ht h hlt
    obtain ⟨v0, vs0, d0, ds0, p0, q0, rfl, rfl, rfl, h0, r0⟩ := trodAll_cons h
    simp only [List.all_cons, Bool.and_eq_true, decide_eq_true_eq] at ht
    exact trodAll_cons_mk (Below.trod hl ht.1.1 ht.1.2 h0 hb (fun x hx => hlt x (by simp [hx]))) (ih (by simpa using ht.2) r0 (fun x hx => hlt x (by simp [hx])))

/-- THE ROW's END: a law that answered true and turned nothing. -/
theorem law_post {H : Type} {enc : TypeId × Value → H} {f : Func} {s : ChangeSpec} {W W' : World} {args : Array Value} {ds gs : List (DataW H)} {before : List MemPlace}
    (hts : (f.params.toList.all fun t => Tryd.prog.readableRec t && decide (t < Tryd.prog.types.size)) = true) (hr : f.resultTypes = #[4]) (hv : s.vars = [])
    (hs : s.fn H (ds ++ gs) = { results := [.lit (.bool true)], args := ds })
    (hW : DataW.Whole enc Tryd.prog f.params.toList s.vars false W args.toList ds gs before) (hb : Below W.heap.size W W') :
    s.post enc Tryd.prog f false true false false W args (.bool true) W' := by
  have hW' := hW
  have hlt := hW.lt
  obtain ⟨p, q, hA, hV, rfl, hfz, hnd⟩ := hW
  rw [hv] at hV
  obtain ⟨rfl, rfl⟩ := trodVars_none hV
  rw [List.append_nil] at hlt
  refine ⟨ds, [], _, [], p, [], hW', ?_, ?_, ?_, hb.frame _, fun h => by cases h⟩
  · rw [hs, hr]
    exact trodAll_mk1 (shut_bool Tryd.underlying4 _)
  · rw [hs]
    exact trodAll_below laidOut hb _ hts hA hlt
  · rw [hs, hv]
    rfl

theorem gPow : Tryd.prog.globalNamed "internal/strconv.uint64pow10" = some 6 := by kernel_rfl
theorem gPowType : (Tryd.prog.globals[6]?).map (·.type) = some 102 := by kernel_rfl
theorem cells102 : Tryd.prog.cellsOf 102 = 20 := by kernel_rfl
theorem cells65 : Tryd.prog.cellsOf 65 = 1 := by kernel_rfl
theorem pow_of {rest : List (String × DataW Unit)} {W : World} {ps : List MemPlace} (h : DataW.LaidVars Tryd.prog W (("internal/strconv.uint64pow10", Rows.laid_internal_strconv_uint64pow10) :: rest) ps) : PowTab W :=
  tab_vars (rest := rest) gPow gPowType Tryd.underlying102 Tryd.underlying65 cells65 cells102 h
def br64 : List Int := [0, 1, 56, 2, 57, 49, 28, 3, 61, 58, 42, 50, 38, 29, 17, 4, 62, 47, 59, 36, 45, 43, 51, 22, 53, 39, 33, 30, 24, 18, 12, 5, 63, 55, 48, 27, 60, 41, 37, 16, 46, 35, 44, 21, 52, 32, 23, 11, 54, 26, 40, 15, 34, 20, 31, 10, 25, 14, 19, 9, 13, 8, 7, 6]
theorem gBr : Tryd.prog.globalNamed "math/bits.deBruijn64tab" = some 8 := by kernel_rfl
theorem gBrType : (Tryd.prog.globals[8]?).map (·.type) = some 108 := by kernel_rfl
theorem cells108 : Tryd.prog.cellsOf 108 = 64 := by kernel_rfl
theorem cells5 : Tryd.prog.cellsOf 5 = 1 := by kernel_rfl
theorem size_of {rest : List (String × DataW Unit)} {W : World} {ps : List MemPlace} (h : DataW.LaidVars Tryd.prog W (("math/bits.deBruijn64tab", Rows.laid_math_bits_deBruijn64tab) :: rest) ps) : 8 < W.heap.size := by
  have hT : Lib.TabIs Tryd.prog W "math/bits.deBruijn64tab" .u8 br64 := tab_vars (rest := rest) gBr gBrType Tryd.underlying108 Tryd.underlying5 cells5 cells108 h
  have hc := hT.cell gBr 0 (by decide)
  rcases Nat.lt_or_ge 8 W.heap.size with h | h
  · exact h
  · simp [World.cell?, Array.getElem?_eq_none h] at hc
/-- A WORLD FOR THE WITNESSES: the settled one, each table holding what its initialiser lays. -/
def fillT (cs : Array Value) : Obj → Obj
  | .cells _ t frozen => .cells cs t frozen
  | o => o
def pow10C : Array Value := #[.int .u64 1, .int .u64 10, .int .u64 100, .int .u64 1000, .int .u64 10000, .int .u64 100000, .int .u64 1000000, .int .u64 10000000, .int .u64 100000000, .int .u64 1000000000, .int .u64 10000000000, .int .u64 100000000000, .int .u64 1000000000000, .int .u64 10000000000000, .int .u64 100000000000000, .int .u64 1000000000000000, .int .u64 10000000000000000, .int .u64 100000000000000000, .int .u64 1000000000000000000, .int .u64 10000000000000000000]
def bruijn32C : Array Value := #[.int .u8 0, .int .u8 1, .int .u8 28, .int .u8 2, .int .u8 29, .int .u8 14, .int .u8 24, .int .u8 3, .int .u8 30, .int .u8 22, .int .u8 20, .int .u8 15, .int .u8 25, .int .u8 17, .int .u8 4, .int .u8 8, .int .u8 31, .int .u8 27, .int .u8 13, .int .u8 23, .int .u8 21, .int .u8 19, .int .u8 16, .int .u8 7, .int .u8 26, .int .u8 12, .int .u8 18, .int .u8 6, .int .u8 11, .int .u8 5, .int .u8 10, .int .u8 9]
def bruijn64C : Array Value := #[.int .u8 0, .int .u8 1, .int .u8 56, .int .u8 2, .int .u8 57, .int .u8 49, .int .u8 28, .int .u8 3, .int .u8 61, .int .u8 58, .int .u8 42, .int .u8 50, .int .u8 38, .int .u8 29, .int .u8 17, .int .u8 4, .int .u8 62, .int .u8 47, .int .u8 59, .int .u8 36, .int .u8 45, .int .u8 43, .int .u8 51, .int .u8 22, .int .u8 53, .int .u8 39, .int .u8 33, .int .u8 30, .int .u8 24, .int .u8 18, .int .u8 12, .int .u8 5, .int .u8 63, .int .u8 55, .int .u8 48, .int .u8 27, .int .u8 60, .int .u8 41, .int .u8 37, .int .u8 16, .int .u8 46, .int .u8 35, .int .u8 44, .int .u8 21, .int .u8 52, .int .u8 32, .int .u8 23, .int .u8 11, .int .u8 54, .int .u8 26, .int .u8 40, .int .u8 15, .int .u8 34, .int .u8 20, .int .u8 31, .int .u8 10, .int .u8 25, .int .u8 14, .int .u8 19, .int .u8 9, .int .u8 13, .int .u8 8, .int .u8 7, .int .u8 6]
noncomputable def laidWorld (os : Os) : World :=
  { World.holding Tryd.prog os ⟨#[], #[], []⟩ with heap := (((((((((World.holding Tryd.prog os ⟨#[], #[], []⟩).heap.modify 0 (fillT #[.string ⟨#[]⟩, .string ⟨#[]⟩, .string ⟨#[109, 111, 118, 105]⟩, .string ⟨#[97, 117]⟩, .string ⟨#[109, 111, 118, 116]⟩, .string ⟨#[97, 117]⟩, .string ⟨#[109, 111, 118]⟩, .string ⟨#[97, 98]⟩, .string ⟨#[97, 100, 100]⟩, .string ⟨#[97, 98, 99]⟩, .string ⟨#[115, 117, 98]⟩, .string ⟨#[97, 98, 99]⟩, .string ⟨#[109, 117, 108]⟩, .string ⟨#[97, 98, 99]⟩, .string ⟨#[100, 105, 118]⟩, .string ⟨#[97, 98, 99]⟩, .string ⟨#[97, 110, 100]⟩, .string ⟨#[97, 98, 99]⟩, .string ⟨#[111, 114]⟩, .string ⟨#[97, 98, 99]⟩, .string ⟨#[120, 111, 114]⟩, .string ⟨#[97, 98, 99]⟩, .string ⟨#[115, 104, 108]⟩, .string ⟨#[97, 98, 99]⟩, .string ⟨#[115, 104, 114]⟩, .string ⟨#[97, 98, 99]⟩, .string ⟨#[115, 97, 114]⟩, .string ⟨#[97, 98, 99]⟩, .string ⟨#[97, 100, 100, 105]⟩, .string ⟨#[97, 98, 115]⟩, .string ⟨#[108, 100, 114]⟩, .string ⟨#[97, 98, 115]⟩, .string ⟨#[115, 116, 114]⟩, .string ⟨#[97, 98, 115]⟩, .string ⟨#[108, 100, 120]⟩, .string ⟨#[97, 98, 99]⟩, .string ⟨#[115, 116, 120]⟩, .string ⟨#[97, 98, 99]⟩, .string ⟨#[99, 109, 112]⟩, .string ⟨#[97, 98]⟩, .string ⟨#[99, 109, 112, 105]⟩, .string ⟨#[97, 115]⟩, .string ⟨#[98]⟩, .string ⟨#[107, 111]⟩, .string ⟨#[98, 108]⟩, .string ⟨#[111]⟩, .string ⟨#[98, 114]⟩, .string ⟨#[97]⟩, .string ⟨#[115, 118, 99]⟩, .string ⟨#[117]⟩])).modify 1 (fillT #[.string ⟨#[]⟩, .string ⟨#[109, 111, 118, 105]⟩, .string ⟨#[109, 111, 118, 116]⟩, .string ⟨#[109, 111, 118]⟩, .string ⟨#[97, 100, 100]⟩, .string ⟨#[115, 117, 98]⟩, .string ⟨#[109, 117, 108]⟩, .string ⟨#[100, 105, 118]⟩, .string ⟨#[97, 110, 100]⟩, .string ⟨#[111, 114]⟩, .string ⟨#[120, 111, 114]⟩, .string ⟨#[115, 104, 108]⟩, .string ⟨#[115, 104, 114]⟩, .string ⟨#[115, 97, 114]⟩, .string ⟨#[97, 100, 100, 105]⟩, .string ⟨#[108, 100, 114]⟩, .string ⟨#[115, 116, 114]⟩, .string ⟨#[108, 100, 120]⟩, .string ⟨#[115, 116, 120]⟩, .string ⟨#[99, 109, 112]⟩, .string ⟨#[99, 109, 112, 105]⟩, .string ⟨#[98]⟩, .string ⟨#[98, 108]⟩, .string ⟨#[98, 114]⟩, .string ⟨#[115, 118, 99]⟩])).modify 4 (fillT #[.string ⟨#[97, 108]⟩, .string ⟨#[101, 113]⟩, .string ⟨#[110, 101]⟩, .string ⟨#[108, 116]⟩, .string ⟨#[103, 101]⟩, .string ⟨#[108, 111]⟩, .string ⟨#[104, 115]⟩])).modify 3 (fillT #[.string ⟨#[97, 108]⟩, .string ⟨#[101, 113]⟩, .string ⟨#[110, 101]⟩, .string ⟨#[108, 116]⟩, .string ⟨#[103, 101]⟩, .string ⟨#[108, 111]⟩, .string ⟨#[104, 115]⟩])).modify 2 (fillT #[.string ⟨#[]⟩, .string ⟨#[97, 117]⟩, .string ⟨#[97, 117]⟩, .string ⟨#[97, 98]⟩, .string ⟨#[97, 98, 99]⟩, .string ⟨#[97, 98, 99]⟩, .string ⟨#[97, 98, 99]⟩, .string ⟨#[97, 98, 99]⟩, .string ⟨#[97, 98, 99]⟩, .string ⟨#[97, 98, 99]⟩, .string ⟨#[97, 98, 99]⟩, .string ⟨#[97, 98, 99]⟩, .string ⟨#[97, 98, 99]⟩, .string ⟨#[97, 98, 99]⟩, .string ⟨#[97, 98, 115]⟩, .string ⟨#[97, 98, 115]⟩, .string ⟨#[97, 98, 115]⟩, .string ⟨#[97, 98, 99]⟩, .string ⟨#[97, 98, 99]⟩, .string ⟨#[97, 98]⟩, .string ⟨#[97, 115]⟩, .string ⟨#[107, 111]⟩, .string ⟨#[111]⟩, .string ⟨#[97]⟩, .string ⟨#[117]⟩])).modify 5 (fillT #[.int .u32 0, .int .u32 1, .int .u32 3, .int .u32 7, .int .u32 15, .int .u32 31, .int .u32 63, .int .u32 127, .int .u32 255, .int .u32 511, .int .u32 1023, .int .u32 2047, .int .u32 4095, .int .u32 8191, .int .u32 16383, .int .u32 32767, .int .u32 65535, .int .u32 131071, .int .u32 262143, .int .u32 524287, .int .u32 1048575, .int .u32 2097151, .int .u32 4194303, .int .u32 8388607, .int .u32 16777215, .int .u32 33554431, .int .u32 67108863, .int .u32 134217727, .int .u32 268435455, .int .u32 536870911, .int .u32 1073741823, .int .u32 2147483647, .int .u32 4294967295])).modify 6 (fillT pow10C)).modify 7 (fillT bruijn32C)).modify 8 (fillT bruijn64C) }
end Go.Proofs.YtncnogndopgknaaDoor
