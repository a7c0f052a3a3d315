import Derived.Test.YtncnogndopgknaaGreatDoorCards
import Derived.Test.YtncnogndopgknaaGreatDoorTie
import Derived.Test.YtncnogndopgknaaGreatDoorP32
import Derived.LaidHandle
import Derived.ProofKit
import Derived.OpenShut
import Derived.ShutString
import Derived.ChangeOld
import Derived.ChangeSame
import Derived.Below
import Derived.Deep.DeepHandedRow
import Derived.Deep.CondSized
import Derived.SizedLaws
import Derived.Lib.SmallJoins
import Derived.Lib.LaidTab
namespace Go.Proofs.YtncnogndopgknaaGreatDoor
open Go.ChangeShapes Go.WideShapes Go.ChangeAt Go.RowKit

theorem own : ownKnob Tryz.prog.godebug = none := by kernel_rfl
theorem laidOut : laidOutB Tryz.prog = true := by kernel_rfl
theorem gLows : Tryz.prog.globalNamed "warden/word.lows" = some 3 := by kernel_rfl
theorem gLowsType : (Tryz.prog.globals[3]?).map (·.type) = some 171 := by kernel_rfl
theorem gForms : Tryz.prog.globalNamed "warden/isa.forms" = some 1 := by kernel_rfl
theorem gFormsType : (Tryz.prog.globals[1]?).map (·.type) = some 122 := by kernel_rfl
theorem cells81 : Tryz.prog.cellsOf 171 = 33 := by kernel_rfl
theorem cells31 : Tryz.prog.cellsOf 22 = 1 := by kernel_rfl
theorem cells70 : Tryz.prog.cellsOf 121 = 2 := by kernel_rfl
theorem cells9 : Tryz.prog.cellsOf 9 = 1 := by kernel_rfl
def lows : List Int := (List.range 33).map fun i => 2 ^ i - 1
theorem vars_tail {P : Program} {W : World} {x : String × DataW Unit} {r : List (String × DataW Unit)} {ps : List MemPlace} (h : DataW.LaidVars P W (x :: r) ps) : ∃ q, DataW.LaidVars P W r q := by
  obtain ⟨n, d⟩ := x
  obtain ⟨g, t, cs, fuel, p, q, _, _, _, _, h, _⟩ := h
  exact ⟨q, h⟩
theorem tab_vars {P : Program} {W : World} {name : String} {k : IntKind} {zs : List Int} {rest : List (String × DataW Unit)} {g : Nat} {t e : TypeId} {n : Nat} {ps : List MemPlace}
    (hg : P.globalNamed name = some g) (hty : (P.globals[g]?).map (·.type) = some t) (ht : P.underlying t = some (.array n e)) (he : P.underlying e = some (.int k)) (hce : P.cellsOf e = 1) (hct : P.cellsOf t = n)
    (h : DataW.LaidVars P W ((name, Lib.tabData k zs) :: rest) ps) : Lib.TabIs P W name k zs := by
  obtain ⟨g', t', cs, fuel, p, q, hg', ht', hvar, hd, _, _⟩ := h
  obtain rfl := Option.some.inj (hg.symm.trans hg')
  obtain rfl := Option.some.inj (hty.symm.trans ht')
  unfold Lib.TabIs
  rw [hvar, ← Lib.cells_of_tab ht he hce hct hd]
theorem tab_of {rest : List (String × DataW Unit)} {W : World} {ps : List MemPlace} (h : DataW.LaidVars Tryz.prog W (("warden/word.lows", Rows.laid_warden_word_lows) :: rest) ps) : Tab W ∧ 3 < W.heap.size := by
  have hT : Lib.TabIs Tryz.prog W "warden/word.lows" .u32 lows := tab_vars (rest := rest) gLows gLowsType Tryz.underlying171 Tryz.underlying22 cells31 cells81 h
  have hc : ∀ i : Nat, i ≤ 32 → W.cell? ⟨3, i, none⟩ = some (.int .u32 (2 ^ i - 1)) := by
    intro i hi
    have := hT.cell gLows i (by simp [lows]; omega)
    rw [this]
    have e : lows.getD i 0 = 2 ^ i - 1 := by simp [lows, List.getD_eq_getElem?_getD, show i < 33 by omega]
    rw [e]
  refine ⟨hc, ?_⟩
  have := hc 0 (by decide)
  rcases Nat.lt_or_ge 3 W.heap.size with h0 | h0
  · exact h0
  · simp [World.cell?, Array.getElem?_eq_none h0] at this
def formD (n : Nat) : DataW Unit := .agg [.lit (.string (nameT.getD n [])), .lit (.string (shapeT.getD n []))]
theorem forms_eq : (Rows.laid_warden_isa_forms : DataW Unit) = .agg ((List.range 25).map formD) := by rfl
theorem str_of {W : World} {fuel : Nat} {cs : List Value} {l : List UInt8} {p : List MemPlace} (h : DataW.trod (fun _ => ()) Tryz.prog W 0 (fun _ => true) false fuel 9 cs = some (.lit (.string l), p)) : cs = [.string ⟨l.toArray⟩] := by
  obtain ⟨s, h1, h2, _⟩ := DataW.trod_string Tryz.underlying9 h
  simp only [Prod.mk.injEq, DataW.lit.injEq, Lit.string.injEq] at h2
  rw [h1, h2.1]
theorem forms_of {rest : List (String × DataW Unit)} {W : World} {ps : List MemPlace} (h : DataW.LaidVars Tryz.prog W (("warden/isa.forms", Rows.laid_warden_isa_forms) :: rest) ps) : Forms W := by
  obtain ⟨g', t', cs, fuel, p, q, hg', ht', hvar, hd, _, _⟩ := h
  obtain rfl := Option.some.inj (gForms.symm.trans hg')
  obtain rfl := Option.some.inj (gFormsType.symm.trans ht')
  have hcell := World.var?_cell gForms hvar
  obtain ⟨xs, m, _, hx, hlen, hn, hel⟩ := DataW.trod_array Tryz.underlying122 hd
  rw [cells70] at hel
  intro n hn25
  have he := hel n hn25
  have hxn : n < xs.length := by omega
  rw [List.getElem?_eq_getElem hxn] at he
  have hf : xs[n].1 = formD n := by
    have h1 : xs.map (·.1) = (List.range 25).map formD := by
      have := (Prod.mk.injEq _ _ _ _).mp hx
      rw [forms_eq] at this
      exact (DataW.agg.inj this.1).symm
    have h2 := congrArg (·[n]?) h1
    simpa [List.getElem?_eq_getElem hxn, hn25] using h2
  obtain ⟨y0, y1, k, hy, hl, e0, e1⟩ := trod_struct2 Tryz.underlying121 he
  rw [hy] at hf
  simp only [formD, DataW.agg.injEq, List.cons.injEq, and_true] at hf
  obtain ⟨z0, q0⟩ := y0
  obtain ⟨z1, q1⟩ := y1
  obtain ⟨rfl, rfl⟩ := hf
  have s0 := str_of e0
  have s1 := str_of e1
  have g0 := congrArg (·[0]?) s0
  have g1 := congrArg (·[0]?) s1
  simp [List.getElem?_take, List.getElem?_drop] at g0 g1
  refine ⟨?_, ?_⟩
  · rw [hcell, g0.2, nam, List.getD_eq_getElem?_getD]
  · rw [hcell, g1.2, shp, List.getD_eq_getElem?_getD]
theorem trodAll_below {H : Type} {enc : TypeId × Value → H} {P : Program} (hl : laidOutB P = true) {W W' : World} (hb : Below W.heap.size W W') (ts : List TypeId) : ∀ {vs : List Value} {ds : List (DataW H)} {ps : List MemPlace},
    (ts.all fun t => P.readableRec t && decide (t < P.types.size)) = true → DataW.TrodAll enc P W 0 (fun _ => true) true ts vs ds ps → (∀ x ∈ ps, x.block < W.heap.size) →
    DataW.TrodAll enc P W' 0 (fun b => decide (b < W.heap.size)) true ts vs ds ps := by
  induction ts with
  | nil =>
    intro vs ds ps _ h _
    obtain ⟨rfl, rfl, rfl⟩ := trodAll_nil h
    exact trodAll_mk0
  | cons t ts ih =>
    intro vs ds ps ht h hlt
    obtain ⟨v0, vs0, d0, ds0, p0, q0, rfl, rfl, rfl, h0, r0⟩ := trodAll_cons h
    simp only [List.all_cons, Bool.and_eq_true, decide_eq_true_eq] at ht
    exact trodAll_cons_mk (Below.trod hl ht.1.1 ht.1.2 h0 hb (fun x hx => hlt x (by simp [hx]))) (ih (by simpa using ht.2) r0 (fun x hx => hlt x (by simp [hx])))

theorem law_post {H : Type} {enc : TypeId × Value → H} {f : Func} {s : ChangeSpec} {W W' : World} {args : Array Value} {ds gs : List (DataW H)} {before : List MemPlace}
    (hts : (f.params.toList.all fun t => Tryz.prog.readableRec t && decide (t < Tryz.prog.types.size)) = true) (hr : f.resultTypes = #[4]) (hv : s.vars = [])
    (hs : s.fn H (ds ++ gs) = { results := [.lit (.bool true)], args := ds })
    (hW : DataW.Whole enc Tryz.prog f.params.toList s.vars false W args.toList ds gs before) (hb : Below W.heap.size W W') :
    s.post enc Tryz.prog f false true false false W args (.bool true) W' := by
  have hW' := hW
  have hlt := hW.lt
  obtain ⟨p, q, hA, hV, rfl, hfz, hnd⟩ := hW
  rw [hv] at hV
  obtain ⟨rfl, rfl⟩ := trodVars_none hV
  rw [List.append_nil] at hlt
  refine ⟨ds, [], _, [], p, [], hW', ?_, ?_, ?_, hb.frame _, fun h => by cases h⟩
  · rw [hs, hr]
    exact trodAll_mk1 (shut_bool Tryz.underlying4 _)
  · rw [hs]
    exact trodAll_below laidOut hb _ hts hA hlt
  · rw [hs, hv]
    rfl

def fillT (cs : Array Value) : Obj → Obj
  | .cells _ t frozen => .cells cs t frozen
  | o => o
theorem strs_of {rest : List (String × DataW Unit)} {W : World} {ps : List MemPlace} {name : String} {g : Nat} {t : TypeId} {n : Nat} {zs : List (List UInt8)}
    (hg : Tryz.prog.globalNamed name = some g) (hty : (Tryz.prog.globals[g]?).map (·.type) = some t) (ht : Tryz.prog.underlying t = some (.array n 9))
    (h : DataW.LaidVars Tryz.prog W ((name, .agg (zs.map fun z => .lit (.string z))) :: rest) ps) : ∀ i < n, W.cell? ⟨g, i, none⟩ = some (.string ⟨(zs.getD i []).toArray⟩) := by
  obtain ⟨g', t', cs, fuel, p, q, hg', ht', hvar, hd, _, _⟩ := h
  obtain rfl := Option.some.inj (hg.symm.trans hg')
  obtain rfl := Option.some.inj (hty.symm.trans ht')
  have hcell := World.var?_cell hg hvar
  obtain ⟨xs, m, _, hx, hlen, hn, hel⟩ := DataW.trod_array ht hd
  rw [cells9] at hel
  intro i hi
  have he := hel i hi
  have hxn : i < xs.length := by omega
  rw [List.getElem?_eq_getElem hxn] at he
  have h1 : xs.map (·.1) = zs.map fun z => (DataW.lit (.string z) : DataW Unit) := by
    have := (Prod.mk.injEq _ _ _ _).mp hx
    exact (DataW.agg.inj this.1).symm
  have hz : i < zs.length := by have := congrArg List.length h1; simp at this; omega
  have hf : xs[i].1 = .lit (.string zs[i]) := by
    have h2 := congrArg (·[i]?) h1
    simpa [List.getElem?_eq_getElem hxn, List.getElem?_eq_getElem hz] using h2
  obtain ⟨y, hy⟩ : ∃ y, xs[i] = y := ⟨_, rfl⟩
  rw [hy] at he hf
  obtain ⟨z0, q0⟩ := y
  simp only at hf
  subst hf
  have s0 := str_of he
  have g0 := congrArg (·[0]?) s0
  simp [List.getElem?_drop] at g0
  rw [hcell, g0, List.getD_eq_getElem?_getD, List.getElem?_eq_getElem hz]
  rfl
theorem gCondN : Tryz.prog.globalNamed "warden/isa.condNames" = some 0 := by kernel_rfl
theorem gCondNType : (Tryz.prog.globals[0]?).map (·.type) = some 118 := by kernel_rfl
theorem condN_of {rest : List (String × DataW Unit)} {W : World} {ps : List MemPlace} (h : DataW.LaidVars Tryz.prog W (("warden/isa.condNames", Rows.laid_warden_isa_condNames) :: rest) ps) : CNames W :=
  strs_of (zs := condT) gCondN gCondNType Tryz.underlying118 h
theorem gErr : Tryz.prog.globalNamed "errors.errorType" = some 2 := by kernel_rfl
theorem rtT : (Tryz.prog.cutTypes.find? (·.1 == "internal/reflectlite.rtype")).map (·.2) = some 200 := by kernel_rfl
theorem typesN : Tryz.prog.types.size = 310 := by kernel_rfl
theorem oneRow : ((List.range 310).filter fun t => Tryz.prog.rowNamed t [101, 114, 114, 111, 114]) = [70] := by kernel_rfl
theorem err_of {W : World} (h : handlesMet Tryz.prog [("errors.errorType", Rows.laid_errors_errorType)] W) : ErrT W := by
  obtain ⟨name, u, ty, e1, e2, e3, e4, e5⟩ := h _ (List.mem_singleton.2 rfl)
  have en : name = [101, 114, 114, 111, 114] := (Option.some.inj e1).symm
  subst en
  obtain rfl := Option.some.inj (rtT.symm.trans e2)
  have hm : ty ∈ (List.range 310).filter fun t => Tryz.prog.rowNamed t [101, 114, 114, 111, 114] := List.mem_filter.2 ⟨List.mem_range.2 (by rw [← typesN]; exact e3), e4⟩
  rw [oneRow] at hm
  obtain rfl := List.mem_singleton.1 hm
  have hh : typeHandle Tryz.prog 70 = .pointer (some ⟨13, 70, none⟩) := by kernel_rfl
  rw [hh] at e5
  have h9 := World.var?_cell gErr e5 0
  unfold ErrT
  simpa using h9
set_option maxRecDepth 20000 in
theorem cell_seven {W : World} (h : W.ShapedOpen Tryz.prog) : ∃ m : Int, W.cell? ⟨7, 0, none⟩ = some (.int .i64 m) := by
  have h0 : ((begin Tryz.prog (fun _ _ => 0) default).world.heap[7]?).bind Obj.row? = some (#[.int .i64 0], 3) := by kernel_rfl
  obtain ⟨cs, hh, hs, hr⟩ := h.1 7 _ _ (by rw [show Tryz.prog.globals.size = 13 from by kernel_rfl]; decide) h0
  obtain ⟨ts, ht, _, hc⟩ := hr (by kernel_rfl)
  have hts : Tryz.prog.cellTypes Tryz.prog.depth 3 = some [3] := by kernel_rfl
  obtain rfl : ts = [3] := by rw [hts] at ht; exact (Option.some.inj ht).symm
  have hs' : cs.size = 1 := hs
  have hcell : W.cell? ⟨7, 0, none⟩ = some (cs[0]'(by omega)) := by
    rw [cell_of_row W 7 0 cs 3 (0, 0) hh]
    exact Array.getElem?_eq_getElem (by omega)
  obtain ⟨u, hu, hok⟩ := hc 0 (cs[0]'(by omega)) (Array.getElem?_eq_getElem (by omega))
  obtain rfl : 3 = u := Option.some.inj hu
  generalize (cs[0]'(by omega)) = v at hok hcell
  have hok' : (match some (TypeDesc.int .i64), v with | some (.int k), .int k' n => k' = k ∧ k.has n | _, _ => False) := by
    unfold Cell.ok at hok
    rw [Tryz.underlying3] at hok
    cases v <;> first | exact hok | exact hok.elim
  cases v with
  | int k n => obtain ⟨rfl, _⟩ := hok'; exact ⟨_, hcell⟩
  | _ => exact hok'.elim
def acceptC : Array Value := #[.int .u8 128, .int .u8 191, .int .u8 160, .int .u8 191, .int .u8 128, .int .u8 159, .int .u8 144, .int .u8 191, .int .u8 128, .int .u8 143, .int .u8 0, .int .u8 0, .int .u8 0, .int .u8 0, .int .u8 0, .int .u8 0, .int .u8 0, .int .u8 0, .int .u8 0, .int .u8 0, .int .u8 0, .int .u8 0, .int .u8 0, .int .u8 0, .int .u8 0, .int .u8 0, .int .u8 0, .int .u8 0, .int .u8 0, .int .u8 0, .int .u8 0, .int .u8 0]
def firstC : Array Value := (Go.Pinned.utf8FirstZ.map fun (n : Nat) => Value.int .u8 (n : Int)).toArray
def errC : Array Value := #[.iface 200 (.agg #[.pointer (some ⟨13, 70, none⟩)])]
def condC : Array Value := #[.string ⟨#[97, 108]⟩, .string ⟨#[101, 113]⟩, .string ⟨#[110, 101]⟩, .string ⟨#[108, 116]⟩, .string ⟨#[103, 101]⟩, .string ⟨#[108, 111]⟩, .string ⟨#[104, 115]⟩]
def formC : Array Value := #[.string ⟨#[]⟩, .string ⟨#[]⟩, .string ⟨#[109, 111, 118, 105]⟩, .string ⟨#[97, 117]⟩, .string ⟨#[109, 111, 118, 116]⟩, .string ⟨#[97, 117]⟩, .string ⟨#[109, 111, 118]⟩, .string ⟨#[97, 98]⟩, .string ⟨#[97, 100, 100]⟩, .string ⟨#[97, 98, 99]⟩, .string ⟨#[115, 117, 98]⟩, .string ⟨#[97, 98, 99]⟩, .string ⟨#[109, 117, 108]⟩, .string ⟨#[97, 98, 99]⟩, .string ⟨#[100, 105, 118]⟩, .string ⟨#[97, 98, 99]⟩, .string ⟨#[97, 110, 100]⟩, .string ⟨#[97, 98, 99]⟩, .string ⟨#[111, 114]⟩, .string ⟨#[97, 98, 99]⟩, .string ⟨#[120, 111, 114]⟩, .string ⟨#[97, 98, 99]⟩, .string ⟨#[115, 104, 108]⟩, .string ⟨#[97, 98, 99]⟩, .string ⟨#[115, 104, 114]⟩, .string ⟨#[97, 98, 99]⟩, .string ⟨#[115, 97, 114]⟩, .string ⟨#[97, 98, 99]⟩, .string ⟨#[97, 100, 100, 105]⟩, .string ⟨#[97, 98, 115]⟩, .string ⟨#[108, 100, 114]⟩, .string ⟨#[97, 98, 115]⟩, .string ⟨#[115, 116, 114]⟩, .string ⟨#[97, 98, 115]⟩, .string ⟨#[108, 100, 120]⟩, .string ⟨#[97, 98, 99]⟩, .string ⟨#[115, 116, 120]⟩, .string ⟨#[97, 98, 99]⟩, .string ⟨#[99, 109, 112]⟩, .string ⟨#[97, 98]⟩, .string ⟨#[99, 109, 112, 105]⟩, .string ⟨#[97, 115]⟩, .string ⟨#[98]⟩, .string ⟨#[107, 111]⟩, .string ⟨#[98, 108]⟩, .string ⟨#[111]⟩, .string ⟨#[98, 114]⟩, .string ⟨#[97]⟩, .string ⟨#[115, 118, 99]⟩, .string ⟨#[117]⟩]
def lowC : Array Value := #[.int .u32 0, .int .u32 1, .int .u32 3, .int .u32 7, .int .u32 15, .int .u32 31, .int .u32 63, .int .u32 127, .int .u32 255, .int .u32 511, .int .u32 1023, .int .u32 2047, .int .u32 4095, .int .u32 8191, .int .u32 16383, .int .u32 32767, .int .u32 65535, .int .u32 131071, .int .u32 262143, .int .u32 524287, .int .u32 1048575, .int .u32 2097151, .int .u32 4194303, .int .u32 8388607, .int .u32 16777215, .int .u32 33554431, .int .u32 67108863, .int .u32 134217727, .int .u32 268435455, .int .u32 536870911, .int .u32 1073741823, .int .u32 2147483647, .int .u32 4294967295]
noncomputable def laidWorld (os : Os) : World :=
  { World.holding Tryz.prog os ⟨#[], #[], []⟩ with heap := ((((((World.holding Tryz.prog os ⟨#[], #[], []⟩).heap.modify 0 (fillT condC)).modify 1 (fillT formC)).modify 2 (fillT errC)).modify 3 (fillT lowC)).modify 11 (fillT firstC)).modify 12 (fillT acceptC) }
end Go.Proofs.YtncnogndopgknaaGreatDoor
