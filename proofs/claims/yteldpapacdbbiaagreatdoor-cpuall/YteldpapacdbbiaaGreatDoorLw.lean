/- The frame of a law's proof; arguments opened. -/
import Derived.Test.YteldpapacdbbiaaGreatDoorCb
import Derived.Test.YteldpapacdbbiaaGreatDoorCards
import Derived.Test.YteldpapacdbbiaaGreatDoorTie
import Derived.Test.YteldpapacdbbiaaGreatDoorRows
import Derived.ProofKit
import Derived.OpenShut
import Derived.ShutString
import Derived.ChangeOld
import Derived.Below
import Derived.Deep.DeepHandedRow
import Derived.SizedLaws
import Derived.Lib.LaidTab
namespace Go.Proofs.YteldpapacdbbiaaGreatDoor
open Go.ChangeShapes Go.WideShapes Go.ChangeAt Go.RowKit
set_option maxRecDepth 100000
theorem own : ownKnob Tryz.prog.godebug = none := by kernel_rfl
theorem laidOut : laidOutB Tryz.prog = true := by kernel_rfl
theorem under3 : Tryz.prog.underlying 3 = some (.int .i64) := by kernel_rfl
theorem cells3 : Tryz.prog.cellsOf 3 = 1 := by kernel_rfl
theorem cells4 : Tryz.prog.cellsOf 4 = 1 := by kernel_rfl
theorem cells22 : Tryz.prog.cellsOf 23 = 1 := by kernel_rfl
theorem trodAll_below {H : Type} {enc : TypeId × Value → H} {P : Program} (hl : laidOutB P = true) {W W' : World} (hb : Below W.heap.size W W') (ts : List TypeId) : ∀ {vs : List Value} {ds : List (DataW H)} {ps : List MemPlace},
    (ts.all fun t => P.readableRec t && decide (t < P.types.size)) = true → DataW.TrodAll enc P W 0 (fun _ => true) true ts vs ds ps → (∀ x ∈ ps, x.block < W.heap.size) →
    DataW.TrodAll enc P W' 0 (fun b => decide (b < W.heap.size)) true ts vs ds ps := by
  induction ts with
  | nil =>
    intro vs ds ps _ h _
    obtain ⟨rfl, rfl, rfl⟩ := trodAll_nil h
    exact trodAll_mk0
  | cons t ts ih =>
    intro vs ds ps ht h hlt
    obtain ⟨v0, vs0, d0, ds0, p0, q0, rfl, rfl, rfl, h0, r0⟩ := trodAll_cons h
    simp only [List.all_cons, Bool.and_eq_true, decide_eq_true_eq] at ht
    exact trodAll_cons_mk (Below.trod hl ht.1.1 ht.1.2 h0 hb (fun x hx => hlt x (by simp [hx]))) (ih (by simpa using ht.2) r0 (fun x hx => hlt x (by simp [hx])))
theorem law_post {H : Type} {enc : TypeId × Value → H} {f : Func} {s : ChangeSpec} {W W' : World} {args : Array Value} {ds gs : List (DataW H)} {before : List MemPlace}
    (hts : (f.params.toList.all fun t => Tryz.prog.readableRec t && decide (t < Tryz.prog.types.size)) = true) (hr : f.resultTypes = #[4]) (hv : s.vars = [])
    (hs : s.fn H (ds ++ gs) = { results := [.lit (.bool true)], args := ds })
    (hW : DataW.Whole enc Tryz.prog f.params.toList s.vars false W args.toList ds gs before) (hb : Below W.heap.size W W') :
    s.post enc Tryz.prog f false true false false W args (.bool true) W' := by
  have hW' := hW
  have hlt := hW.lt
  obtain ⟨p, q, hA, hV, rfl, hfz, hnd⟩ := hW
  rw [hv] at hV
  obtain ⟨rfl, rfl⟩ := trodVars_none hV
  rw [List.append_nil] at hlt
  refine ⟨ds, [], _, [], p, [], hW', ?_, ?_, ?_, hb.frame _, fun h => by cases h⟩
  · rw [hs, hr]
    exact trodAll_mk1 (shut_bool under4 _)
  · rw [hs]
    exact trodAll_below laidOut hb _ hts hA hlt
  · rw [hs, hv]
    rfl
theorem take_one {cs : List Value} {k : Nat} {v : Value} (h : (cs.drop k).take 1 = [v]) : cs[k]? = some v := by
  have := congrArg (fun l => l[0]?) h
  simpa using this
theorem lit_u32 {n : Int} (h : (Lit.int .u32 n).wf = true) : 0 ≤ n ∧ n < 4294967296 := by
  simp only [Lit.wf, IntKind.min, IntKind.max, IntKind.signed, IntKind.bits, Bool.and_eq_true] at h
  obtain ⟨h1, h2⟩ := h
  simp at h1 h2
  omega
set_option maxRecDepth 100000 in
theorem open_slice {H : Type} {enc : TypeId × Value → H} {W : World} {fuel : Nat} {held : Bool} {cs0 : List Value} {y0 : DataW H × List MemPlace} {t e : TypeId} {st : Nat} (ht : Tryz.prog.underlying t = some (.slice e)) (hce : Tryz.prog.cellsOf e = st) (hst : 0 < st)
    (hf : DataW.trod enc Tryz.prog W 0 (fun _ => true) held fuel t cs0 = some y0) :
    ∃ (ao : Option Addr) (n cap b off : Nat), cs0 = [.slice ao n cap] ∧ n ≤ cap ∧ (0 < n → ao = some ⟨b, off, none⟩ ∧ b < W.heap.size) ∧
      (∀ k, k < n → ∃ cs m y, W.rangeAt b (off + k * st) cs ∧ DataW.trod enc Tryz.prog W 0 (fun _ => true) held m e cs = some y) ∧ (n = 0 ∨ ∃ elems spare, y0.1 = .slice elems spare ∧ elems.length = n) := by
  rcases DataW.trod_slice ht hf with ⟨hcs, hx⟩ | ⟨a, len, cap', elems, rest, m, rfl, hcs, hx, hb0, hl, hm, hlen, hel, hsp, hns⟩
  · exact ⟨none, 0, 0, 0, 0, hcs, Nat.le_refl _, fun h => absurd h (by decide), fun k hk => absurd hk (by omega), .inl rfl⟩
  · rw [hce] at hel
    have hd : len = 0 ∨ ∃ es sp, y0.1 = .slice es sp ∧ es.length = len := .inr ⟨_, _, by rw [hx], by rw [List.length_map]; exact hlen⟩
    rcases Nat.eq_zero_or_pos len with h0 | hn
    · subst h0
      exact ⟨_, 0, _, 0, 0, hcs, hl, fun h => absurd h (by decide), fun k hk => absurd hk (by omega), .inl rfl⟩
    · have each : ∀ k (hk : k < len), ∃ cs y, W.cells? 0 (a.add (k * st)) st = some cs ∧ DataW.trod enc Tryz.prog W 0 (fun _ => true) held m e cs = some y := fun k hk => by
        have he := hel k hk
        obtain ⟨y, hy⟩ : ∃ y, elems[k]? = some y := ⟨elems[k], List.getElem?_eq_getElem (by omega)⟩
        rw [hy] at he
        obtain ⟨cs, h1, h2⟩ := Option.bind_eq_some_iff.1 he
        exact ⟨cs, y, h1, h2⟩
      obtain ⟨b, off, spot⟩ := a
      have hspot : spot = none := by
        obtain ⟨cs, y, h1, _⟩ := each 0 hn
        have := (World.cells?_some h1).2.2 0 hst
        have hc := (World.cells?_some h1).2.1
        rw [List.getElem?_eq_getElem (by omega)] at this
        simpa [Addr.add] using World.cell?_spot this
      subst hspot
      have hadd : ∀ i j, ((⟨b, off, none⟩ : Addr).add i).add j = ⟨b, off + i + j, none⟩ := fun i j => by rw [Addr.add_mid, Addr.add_mid]
      have hblk : b < W.heap.size := by
        obtain ⟨cs, y, h1, _⟩ := each 0 hn
        have := World.cells?_block h1 hst
        simpa [Addr.add] using this
      refine ⟨_, len, cap', b, off, hcs, hl, fun _ => ⟨rfl, hblk⟩, fun k hk => ?_, hd⟩
      obtain ⟨cs, y, h1, h2⟩ := each k hk
      refine ⟨cs, m, y, fun j v hv => ?_, h2⟩
      have hj : j < st := by have := (List.getElem?_eq_some_iff.1 hv).1; have := (World.cells?_some h1).2.1; omega
      have := (World.cells?_some h1).2.2 j hj
      rw [hadd] at this
      rw [this, hv]
theorem pick {Q : Nat → Int → Prop} (n : Nat) (h : ∀ k, k < n → ∃ x, Q k x) : ∃ f : Nat → Int, ∀ k, k < n → Q k (f k) :=
  ⟨fun k => if hk : k < n then (h k hk).choose else 0, fun k hk => by simp only [hk, dif_pos]; exact (h k hk).choose_spec⟩
theorem gLows : Tryz.prog.globalNamed "warden/word.lows" = some 3 := by kernel_rfl
theorem gLowsType : (Tryz.prog.globals[3]?).map (·.type) = some 177 := by kernel_rfl
theorem gForms : Tryz.prog.globalNamed "warden/isa.forms" = some 1 := by kernel_rfl
theorem gFormsType : (Tryz.prog.globals[1]?).map (·.type) = some 154 := by kernel_rfl
theorem gGroups : Tryz.prog.globalNamed "warden/cpu.groups" = some 0 := by kernel_rfl
theorem gGroupsType : (Tryz.prog.globals[0]?).map (·.type) = some 122 := by kernel_rfl
theorem under138 : Tryz.prog.underlying 177 = some (.array 33 23) := by kernel_rfl
theorem under121 : Tryz.prog.underlying 154 = some (.array 25 153) := by kernel_rfl
theorem under120 : Tryz.prog.underlying 153 = some (.struct (Tryz.prog.fieldsOf 153)) := by kernel_rfl
theorem under111 : Tryz.prog.underlying 122 = some (.array 25 121) := by kernel_rfl
theorem under110 : Tryz.prog.underlying 121 = some (.int .i64) := by kernel_rfl
theorem under9 : Tryz.prog.underlying 9 = some .string := by kernel_rfl
theorem cells138 : Tryz.prog.cellsOf 177 = 33 := by kernel_rfl
theorem cells121 : Tryz.prog.cellsOf 154 = 50 := by kernel_rfl
theorem cells120 : Tryz.prog.cellsOf 153 = 2 := by kernel_rfl
theorem cells111 : Tryz.prog.cellsOf 122 = 25 := by kernel_rfl
theorem cells110 : Tryz.prog.cellsOf 121 = 1 := by kernel_rfl
theorem cells9 : Tryz.prog.cellsOf 9 = 1 := by kernel_rfl
def lows : List Int := (List.range 33).map fun i => 2 ^ i - 1
theorem vars_tail {P : Program} {W : World} {x : String × DataW Unit} {r : List (String × DataW Unit)} {ps : List MemPlace} (h : DataW.LaidVars P W (x :: r) ps) : ∃ q, DataW.LaidVars P W r q := by
  obtain ⟨n, d⟩ := x
  obtain ⟨g, t, cs, fuel, p, q, _, _, _, _, h, _⟩ := h
  exact ⟨q, h⟩
theorem tab_vars {P : Program} {W : World} {name : String} {k : IntKind} {zs : List Int} {rest : List (String × DataW Unit)} {g : Nat} {t e : TypeId} {n : Nat} {ps : List MemPlace}
    (hg : P.globalNamed name = some g) (hty : (P.globals[g]?).map (·.type) = some t) (ht : P.underlying t = some (.array n e)) (he : P.underlying e = some (.int k)) (hce : P.cellsOf e = 1) (hct : P.cellsOf t = n)
    (h : DataW.LaidVars P W ((name, Lib.tabData k zs) :: rest) ps) : Lib.TabIs P W name k zs := by
  obtain ⟨g', t', cs, fuel, p, q, hg', ht', hvar, hd, _, _⟩ := h
  obtain rfl := Option.some.inj (hg.symm.trans hg')
  obtain rfl := Option.some.inj (hty.symm.trans ht')
  unfold Lib.TabIs
  rw [hvar, ← Lib.cells_of_tab ht he hce hct hd]
theorem tab_of {rest : List (String × DataW Unit)} {W : World} {ps : List MemPlace} (h : DataW.LaidVars Tryz.prog W (("warden/word.lows", Rows.laid_warden_word_lows) :: rest) ps) : I.Tab W ∧ 3 < W.heap.size := by
  have hT : Lib.TabIs Tryz.prog W "warden/word.lows" .u32 lows := tab_vars (rest := rest) gLows gLowsType under138 under22 cells22 cells138 h
  have hc : ∀ i : Nat, i ≤ 32 → W.cell? ⟨3, i, none⟩ = some (.int .u32 (2 ^ i - 1)) := by
    intro i hi
    have := hT.cell gLows i (by simp [lows]; omega)
    rw [this]
    have e : lows.getD i 0 = 2 ^ i - 1 := by simp [lows, List.getD_eq_getElem?_getD, show i < 33 by omega]
    rw [e]
  refine ⟨hc, ?_⟩
  have := hc 0 (by decide)
  rcases Nat.lt_or_ge 3 W.heap.size with h0 | h0
  · exact h0
  · simp [World.cell?, Array.getElem?_eq_none h0] at this
theorem grp_eq : (Rows.laid_warden_cpu_groups : DataW Unit) = Lib.tabData .i64 ((List.range 25).map grp) := by rfl
theorem grp_of {rest : List (String × DataW Unit)} {W : World} {ps : List MemPlace} (h : DataW.LaidVars Tryz.prog W (("warden/cpu.groups", Rows.laid_warden_cpu_groups) :: rest) ps) : ∀ n : Nat, n < 25 → W.cell? ⟨0, n, none⟩ = some (.int .i64 (grp n)) := by
  rw [grp_eq] at h
  have hT : Lib.TabIs Tryz.prog W "warden/cpu.groups" .i64 ((List.range 25).map grp) := tab_vars (rest := rest) gGroups gGroupsType under111 under110 cells110 cells111 h
  intro n hn
  have := hT.cell gGroups n (by simp; omega)
  rw [this]
  have e : ((List.range 25).map grp).getD n 0 = grp n := by simp [List.getD_eq_getElem?_getD, hn]
  rw [e]
def formD (n : Nat) : DataW Unit := .agg [.lit (.string (I.nameT.getD n [])), .lit (.string (I.shapeT.getD n []))]
theorem forms_eq : (Rows.laid_warden_isa_forms : DataW Unit) = .agg ((List.range 25).map formD) := by rfl
theorem str_of {W : World} {fuel : Nat} {cs : List Value} {l : List UInt8} {p : List MemPlace} (h : DataW.trod (fun _ => ()) Tryz.prog W 0 (fun _ => true) false fuel 9 cs = some (.lit (.string l), p)) : cs = [.string ⟨l.toArray⟩] := by
  obtain ⟨s, h1, h2, _⟩ := DataW.trod_string under9 h
  simp only [Prod.mk.injEq, DataW.lit.injEq, Lit.string.injEq] at h2
  rw [h1, h2.1]
theorem forms_of {rest : List (String × DataW Unit)} {W : World} {ps : List MemPlace} (h : DataW.LaidVars Tryz.prog W (("warden/isa.forms", Rows.laid_warden_isa_forms) :: rest) ps) : I.Forms W := by
  obtain ⟨g', t', cs, fuel, p, q, hg', ht', hvar, hd, _, _⟩ := h
  obtain rfl := Option.some.inj (gForms.symm.trans hg')
  obtain rfl := Option.some.inj (gFormsType.symm.trans ht')
  have hcell := World.var?_cell gForms hvar
  obtain ⟨xs, m, _, hx, hlen, hn, hel⟩ := DataW.trod_array under121 hd
  rw [cells120] at hel
  intro n hn25
  have he := hel n hn25
  have hxn : n < xs.length := by omega
  rw [List.getElem?_eq_getElem hxn] at he
  have hf : xs[n].1 = formD n := by
    have h1 : xs.map (·.1) = (List.range 25).map formD := by
      have := (Prod.mk.injEq _ _ _ _).mp hx
      rw [forms_eq] at this
      exact (DataW.agg.inj this.1).symm
    have h2 := congrArg (·[n]?) h1
    simpa [List.getElem?_eq_getElem hxn, hn25] using h2
  obtain ⟨y0, y1, k, hy, hl, e0, e1⟩ := trod_struct2 under120 he
  rw [hy] at hf
  simp only [formD, DataW.agg.injEq, List.cons.injEq, and_true] at hf
  obtain ⟨z0, q0⟩ := y0
  obtain ⟨z1, q1⟩ := y1
  obtain ⟨rfl, rfl⟩ := hf
  have s0 := str_of e0
  have s1 := str_of e1
  have g0 := congrArg (·[0]?) s0
  have g1 := congrArg (·[0]?) s1
  simp [List.getElem?_take, List.getElem?_drop] at g0 g1
  refine ⟨?_, ?_⟩
  · rw [hcell, g0.2, I.nam, List.getD_eq_getElem?_getD]
  · rw [hcell, g1.2, I.shp, List.getD_eq_getElem?_getD]
theorem strs_of {rest : List (String × DataW Unit)} {W : World} {ps : List MemPlace} {name : String} {g : Nat} {t : TypeId} {n : Nat} {zs : List (List UInt8)}
    (hg : Tryz.prog.globalNamed name = some g) (hty : (Tryz.prog.globals[g]?).map (·.type) = some t) (ht : Tryz.prog.underlying t = some (.array n 9))
    (h : DataW.LaidVars Tryz.prog W ((name, .agg (zs.map fun z => .lit (.string z))) :: rest) ps) : ∀ i < n, W.cell? ⟨g, i, none⟩ = some (.string ⟨(zs.getD i []).toArray⟩) := by
  obtain ⟨g', t', cs, fuel, p, q, hg', ht', hvar, hd, _, _⟩ := h
  obtain rfl := Option.some.inj (hg.symm.trans hg')
  obtain rfl := Option.some.inj (hty.symm.trans ht')
  have hcell := World.var?_cell hg hvar
  obtain ⟨xs, m, _, hx, hlen, hn, hel⟩ := DataW.trod_array ht hd
  rw [cells9] at hel
  intro i hi
  have he := hel i hi
  have hxn : i < xs.length := by omega
  rw [List.getElem?_eq_getElem hxn] at he
  have h1 : xs.map (·.1) = zs.map fun z => (DataW.lit (.string z) : DataW Unit) := by
    have := (Prod.mk.injEq _ _ _ _).mp hx
    exact (DataW.agg.inj this.1).symm
  have hz : i < zs.length := by have := congrArg List.length h1; simp at this; omega
  have hf : xs[i].1 = .lit (.string zs[i]) := by
    have h2 := congrArg (·[i]?) h1
    simpa [List.getElem?_eq_getElem hxn, List.getElem?_eq_getElem hz] using h2
  obtain ⟨y, hy⟩ : ∃ y, xs[i] = y := ⟨_, rfl⟩
  rw [hy] at he hf
  obtain ⟨z0, q0⟩ := y
  simp only at hf
  subst hf
  have s0 := str_of he
  have g0 := congrArg (·[0]?) s0
  simp [List.getElem?_drop] at g0
  rw [hcell, g0, List.getD_eq_getElem?_getD, List.getElem?_eq_getElem hz]
  rfl
theorem gShapes : Tryz.prog.globalNamed "warden/wardenref05.shapes" = some 2 := by kernel_rfl
theorem gShapesType : (Tryz.prog.globals[2]?).map (·.type) = some 168 := by kernel_rfl
theorem under168 : Tryz.prog.underlying 168 = some (.array 25 9) := by kernel_rfl
theorem shapes_of {rest : List (String × DataW Unit)} {W : World} {ps : List MemPlace} (h : DataW.LaidVars Tryz.prog W (("warden/wardenref05.shapes", Rows.laid_warden_wardenref05_shapes) :: rest) ps) : I.RShapes W :=
  strs_of (zs := I.shapeT) gShapes gShapesType under168 h
theorem tb_of {rest : List (String × DataW Unit)} {W : World} {ps : List MemPlace} (h : DataW.LaidVars Tryz.prog W (("warden/wardenref05.shapes", Rows.laid_warden_wardenref05_shapes) :: ("warden/word.lows", Rows.laid_warden_word_lows) :: ("warden/isa.forms", Rows.laid_warden_isa_forms) :: ("warden/cpu.groups", Rows.laid_warden_cpu_groups) :: rest) ps) : Tb W := by
  have hs := h
  obtain ⟨q0, k0⟩ := vars_tail h
  have hl := k0
  obtain ⟨q1, k1⟩ := vars_tail k0
  have hf := k1
  obtain ⟨q2, k2⟩ := vars_tail k1
  have hg := k2
  exact ⟨grp_of hg, forms_of hf, (tab_of hl).1, shapes_of hs, (tab_of hl).2⟩
def fillT (cs : Array Value) : Obj → Obj
  | .cells _ t frozen => .cells cs t frozen
  | o => o
/-- A WORLD FOR THE WITNESSES: the settled one, each table holding what its initialiser lays. -/
noncomputable def laidWorld (os : Os) : World :=
  { World.holding Tryz.prog os ⟨#[], #[], []⟩ with heap := ((((World.holding Tryz.prog os ⟨#[], #[], []⟩).heap.modify 0 (fillT #[.int .i64 0, .int .i64 1, .int .i64 1, .int .i64 1, .int .i64 1, .int .i64 1, .int .i64 1, .int .i64 1, .int .i64 1, .int .i64 1, .int .i64 1, .int .i64 1, .int .i64 1, .int .i64 1, .int .i64 1, .int .i64 2, .int .i64 3, .int .i64 2, .int .i64 3, .int .i64 4, .int .i64 4, .int .i64 5, .int .i64 5, .int .i64 5, .int .i64 6])).modify 1 (fillT #[.string ⟨#[]⟩, .string ⟨#[]⟩, .string ⟨#[109, 111, 118, 105]⟩, .string ⟨#[97, 117]⟩, .string ⟨#[109, 111, 118, 116]⟩, .string ⟨#[97, 117]⟩, .string ⟨#[109, 111, 118]⟩, .string ⟨#[97, 98]⟩, .string ⟨#[97, 100, 100]⟩, .string ⟨#[97, 98, 99]⟩, .string ⟨#[115, 117, 98]⟩, .string ⟨#[97, 98, 99]⟩, .string ⟨#[109, 117, 108]⟩, .string ⟨#[97, 98, 99]⟩, .string ⟨#[100, 105, 118]⟩, .string ⟨#[97, 98, 99]⟩, .string ⟨#[97, 110, 100]⟩, .string ⟨#[97, 98, 99]⟩, .string ⟨#[111, 114]⟩, .string ⟨#[97, 98, 99]⟩, .string ⟨#[120, 111, 114]⟩, .string ⟨#[97, 98, 99]⟩, .string ⟨#[115, 104, 108]⟩, .string ⟨#[97, 98, 99]⟩, .string ⟨#[115, 104, 114]⟩, .string ⟨#[97, 98, 99]⟩, .string ⟨#[115, 97, 114]⟩, .string ⟨#[97, 98, 99]⟩, .string ⟨#[97, 100, 100, 105]⟩, .string ⟨#[97, 98, 115]⟩, .string ⟨#[108, 100, 114]⟩, .string ⟨#[97, 98, 115]⟩, .string ⟨#[115, 116, 114]⟩, .string ⟨#[97, 98, 115]⟩, .string ⟨#[108, 100, 120]⟩, .string ⟨#[97, 98, 99]⟩, .string ⟨#[115, 116, 120]⟩, .string ⟨#[97, 98, 99]⟩, .string ⟨#[99, 109, 112]⟩, .string ⟨#[97, 98]⟩, .string ⟨#[99, 109, 112, 105]⟩, .string ⟨#[97, 115]⟩, .string ⟨#[98]⟩, .string ⟨#[107, 111]⟩, .string ⟨#[98, 108]⟩, .string ⟨#[111]⟩, .string ⟨#[98, 114]⟩, .string ⟨#[97]⟩, .string ⟨#[115, 118, 99]⟩, .string ⟨#[117]⟩])).modify 2 (fillT #[.string ⟨#[]⟩, .string ⟨#[97, 117]⟩, .string ⟨#[97, 117]⟩, .string ⟨#[97, 98]⟩, .string ⟨#[97, 98, 99]⟩, .string ⟨#[97, 98, 99]⟩, .string ⟨#[97, 98, 99]⟩, .string ⟨#[97, 98, 99]⟩, .string ⟨#[97, 98, 99]⟩, .string ⟨#[97, 98, 99]⟩, .string ⟨#[97, 98, 99]⟩, .string ⟨#[97, 98, 99]⟩, .string ⟨#[97, 98, 99]⟩, .string ⟨#[97, 98, 99]⟩, .string ⟨#[97, 98, 115]⟩, .string ⟨#[97, 98, 115]⟩, .string ⟨#[97, 98, 115]⟩, .string ⟨#[97, 98, 99]⟩, .string ⟨#[97, 98, 99]⟩, .string ⟨#[97, 98]⟩, .string ⟨#[97, 115]⟩, .string ⟨#[107, 111]⟩, .string ⟨#[111]⟩, .string ⟨#[97]⟩, .string ⟨#[117]⟩])).modify 3 (fillT #[.int .u32 0, .int .u32 1, .int .u32 3, .int .u32 7, .int .u32 15, .int .u32 31, .int .u32 63, .int .u32 127, .int .u32 255, .int .u32 511, .int .u32 1023, .int .u32 2047, .int .u32 4095, .int .u32 8191, .int .u32 16383, .int .u32 32767, .int .u32 65535, .int .u32 131071, .int .u32 262143, .int .u32 524287, .int .u32 1048575, .int .u32 2097151, .int .u32 4194303, .int .u32 8388607, .int .u32 16777215, .int .u32 33554431, .int .u32 67108863, .int .u32 134217727, .int .u32 268435455, .int .u32 536870911, .int .u32 1073741823, .int .u32 2147483647, .int .u32 4294967295]) }
end Go.Proofs.YteldpapacdbbiaaGreatDoor
