/- The frame of a law's proof; arguments opened. -/
import Derived.Test.YtpijfaffbnojnaaDoorNm
import Derived.Test.YtpijfaffbnojnaaDoorRows
import Derived.Test.YtpijfaffbnojnaaDoorCards
import Derived.Test.YtpijfaffbnojnaaDoorTie
import Derived.ProofKit
import Derived.OpenShut
import Derived.ShutString
import Derived.ChangeOld
import Derived.Below
import Derived.Deep.DeepHandedRow
import Derived.SizedLaws
import Derived.Lib.LaidTab
namespace Go.Proofs.YtpijfaffbnojnaaDoor
open Go.ChangeShapes Go.WideShapes Go.ChangeAt Go.RowKit
theorem own : ownKnob Tryd.prog.godebug = none := by kernel_rfl
theorem laidOut : laidOutB Tryd.prog = true := by kernel_rfl
theorem cells3 : Tryd.prog.cellsOf 3 = 1 := by kernel_rfl
theorem cells4 : Tryd.prog.cellsOf 4 = 1 := by kernel_rfl
theorem cellsW : Tryd.prog.cellsOf 30 = 1 := by kernel_rfl
theorem trodAll_below {H : Type} {enc : TypeId × Value → H} {P : Program} (hl : laidOutB P = true) {W W' : World} (hb : Below W.heap.size W W') (ts : List TypeId) : ∀ {vs : List Value} {ds : List (DataW H)} {ps : List MemPlace},
    (ts.all fun t => P.readableRec t && decide (t < P.types.size)) = true → DataW.TrodAll enc P W 0 (fun _ => true) true ts vs ds ps → (∀ x ∈ ps, x.block < W.heap.size) →
    DataW.TrodAll enc P W' 0 (fun b => decide (b < W.heap.size)) true ts vs ds ps := by
  induction ts with
  | nil =>
    intro vs ds ps _ h _
    obtain ⟨rfl, rfl, rfl⟩ := trodAll_nil h
    exact trodAll_mk0
  | cons t ts ih =>
    intro vs ds ps ht h hlt
    obtain ⟨v0, vs0, d0, ds0, p0, q0, rfl, rfl, rfl, h0, r0⟩ := trodAll_cons h
    simp only [List.all_cons, Bool.and_eq_true, decide_eq_true_eq] at ht
    exact trodAll_cons_mk (Below.trod hl ht.1.1 ht.1.2 h0 hb (fun x hx => hlt x (by simp [hx]))) (ih (by simpa using ht.2) r0 (fun x hx => hlt x (by simp [hx])))
theorem law_post {H : Type} {enc : TypeId × Value → H} {f : Func} {s : ChangeSpec} {W W' : World} {args : Array Value} {ds gs : List (DataW H)} {before : List MemPlace}
    (hts : (f.params.toList.all fun t => Tryd.prog.readableRec t && decide (t < Tryd.prog.types.size)) = true) (hr : f.resultTypes = #[4]) (hv : s.vars = [])
    (hs : s.fn H (ds ++ gs) = { results := [.lit (.bool true)], args := ds })
    (hW : DataW.Whole enc Tryd.prog f.params.toList s.vars false W args.toList ds gs before) (hb : Below W.heap.size W W') :
    s.post enc Tryd.prog f false true false false W args (.bool true) W' := by
  have hW' := hW
  have hlt := hW.lt
  obtain ⟨p, q, hA, hV, rfl, hfz, hnd⟩ := hW
  rw [hv] at hV
  obtain ⟨rfl, rfl⟩ := trodVars_none hV
  rw [List.append_nil] at hlt
  refine ⟨ds, [], _, [], p, [], hW', ?_, ?_, ?_, hb.frame _, fun h => by cases h⟩
  · rw [hs, hr]
    exact trodAll_mk1 (shut_bool under4 _)
  · rw [hs]
    exact trodAll_below laidOut hb _ hts hA hlt
  · rw [hs, hv]
    rfl
theorem take_one {cs : List Value} {k : Nat} {v : Value} (h : (cs.drop k).take 1 = [v]) : cs[k]? = some v := by
  have := congrArg (fun l => l[0]?) h
  simpa using this
theorem lit_u32 {n : Int} (h : (Lit.int .u32 n).wf = true) : 0 ≤ n ∧ n < 4294967296 := by
  simp only [Lit.wf, IntKind.min, IntKind.max, IntKind.signed, IntKind.bits, Bool.and_eq_true] at h
  obtain ⟨h1, h2⟩ := h
  simp at h1 h2
  omega
theorem cellsR : Tryd.prog.cellsOf 29 = 5 := by kernel_rfl
theorem cellsA : Tryd.prog.cellsOf 31 = 2 := by kernel_rfl
set_option maxRecDepth 100000 in
theorem open_en {H : Type} {enc : TypeId × Value → H} {W : World} {base b0 : Nat} {held : Bool} {v : Value} {d : DataW H} {p : List MemPlace}
    (hv : Value.okWide Tryd.prog W .any base 29 v) (h : DataW.Trod enc Tryd.prog W b0 (fun _ => true) held 29 v d p) : ∃ x : En, v = x.v := by
  obtain ⟨cs, rfl, hsz, _⟩ : ∃ cs, v = .agg cs ∧ cs.size = Tryd.prog.cellsOf 29 ∧ Row.okWide Tryd.prog W .any base 29 cs := by
    simpa [Value.okWide, underR] using hv
  obtain ⟨fuel, hf⟩ := h
  obtain ⟨xs, m, rfl, hy, hlen, hn, hel⟩ := DataW.trod_struct underR hf
  obtain ⟨cl⟩ := cs
  have hl : cl.length = 5 := by rw [cellsR] at hsz; simpa using hsz
  have hs5 : xs.length = 5 := hn
  have hc : (Value.agg ⟨cl⟩).cells.toList = cl := by simp [Value.cells]
  rw [hc] at hel
  match xs, hs5 with
  | [x0, x1, x2, x3, x4], _ =>
    have e0 : DataW.trod enc Tryd.prog W b0 (fun _ => true) held m 3 ((cl.drop 0).take (Tryd.prog.cellsOf 3)) = some x0 := hel 0 _ rfl
    have e1 : DataW.trod enc Tryd.prog W b0 (fun _ => true) held m 3 ((cl.drop 1).take (Tryd.prog.cellsOf 3)) = some x1 := hel 1 _ rfl
    have e2 : DataW.trod enc Tryd.prog W b0 (fun _ => true) held m 3 ((cl.drop 2).take (Tryd.prog.cellsOf 3)) = some x2 := hel 2 _ rfl
    have e3 : DataW.trod enc Tryd.prog W b0 (fun _ => true) held m 3 ((cl.drop 3).take (Tryd.prog.cellsOf 3)) = some x3 := hel 3 _ rfl
    have e4 : DataW.trod enc Tryd.prog W b0 (fun _ => true) held m 4 ((cl.drop 4).take (Tryd.prog.cellsOf 4)) = some x4 := hel 4 _ rfl
    rw [cells3] at e0 e1 e2 e3
    rw [cells4] at e4
    obtain ⟨q0, g0, _, _⟩ := DataW.trod_int under3 (show _ = some x0 from e0)
    obtain ⟨q1, g1, _, _⟩ := DataW.trod_int under3 (show _ = some x1 from e1)
    obtain ⟨q2, g2, _, _⟩ := DataW.trod_int under3 (show _ = some x2 from e2)
    obtain ⟨q3, g3, _, _⟩ := DataW.trod_int under3 (show _ = some x3 from e3)
    obtain ⟨q4, g4, _⟩ := DataW.trod_bool under4 (show _ = some x4 from e4)
    refine ⟨⟨q0, q1, q2, q3, q4⟩, ?_⟩
    match cl, hl with
    | [c0, c1, c2, c3, c4], _ =>
      simp at g0 g1 g2 g3 g4
      rw [g0, g1, g2, g3, g4]
      rfl
set_option maxRecDepth 100000 in
theorem open_two {H : Type} {enc : TypeId × Value → H} {W : World} {base b0 : Nat} {held : Bool} {v : Value} {d : DataW H} {p : List MemPlace}
    (hv : Value.okWide Tryd.prog W .any base 31 v) (h : DataW.Trod enc Tryd.prog W b0 (fun _ => true) held 31 v d p) : ∃ a b : Int, v = twoV a b ∧ (0 ≤ a ∧ a < 4294967296) ∧ (0 ≤ b ∧ b < 4294967296) := by
  obtain ⟨cs, rfl, hsz, _⟩ : ∃ cs, v = .agg cs ∧ cs.size = Tryd.prog.cellsOf 31 ∧ Row.okWide Tryd.prog W .any base 31 cs := by
    simpa [Value.okWide, underA] using hv
  obtain ⟨fuel, hf⟩ := h
  obtain ⟨xs, m, rfl, hy, hlen, hn, hel⟩ := DataW.trod_array underA hf
  rw [cellsW] at hel
  obtain ⟨cl⟩ := cs
  have hl : cl.length = 2 := by rw [cellsA] at hsz; simpa using hsz
  have e : ∀ k, k < 2 → ∃ q, cl[k]? = some (.int .u32 q) ∧ (0 ≤ q ∧ q < 4294967296) := fun k hk => by
    have he := hel k hk
    rw [List.getElem?_eq_getElem (by omega)] at he
    obtain ⟨q, g, _, hq⟩ := DataW.trod_int underW he
    refine ⟨q, ?_, lit_u32 hq⟩
    have := take_one g
    simpa [Value.cells] using this
  obtain ⟨q0, f0, h0⟩ := e 0 (by decide)
  obtain ⟨q1, f1, h1⟩ := e 1 (by decide)
  have hcl : cl = [.int .u32 q0, .int .u32 q1] := by
    apply List.ext_getElem?
    intro k
    match k with
    | 0 => exact f0
    | 1 => exact f1
    | k + 2 => rw [List.getElem?_eq_none (by omega)]; rfl
  subst hcl
  exact ⟨q0, q1, rfl, h0, h1⟩
theorem under9 : Tryd.prog.underlying 9 = some .string := by kernel_rfl
theorem cells9 : Tryd.prog.cellsOf 9 = 1 := by kernel_rfl
theorem under49 : Tryd.prog.underlying 49 = some (.array 7 9) := by kernel_rfl
theorem under50 : Tryd.prog.underlying 50 = some (.array 4 9) := by kernel_rfl
theorem vars_tail {P : Program} {W : World} {x : String × DataW Unit} {r : List (String × DataW Unit)} {ps : List MemPlace} (h : DataW.LaidVars P W (x :: r) ps) : ∃ q, DataW.LaidVars P W r q := by
  obtain ⟨n, d⟩ := x
  obtain ⟨g, t, cs, fuel, p, q, _, _, _, _, h, _⟩ := h
  exact ⟨q, h⟩
theorem str_of {W : World} {fuel : Nat} {cs : List Value} {l : List UInt8} {p : List MemPlace} (h : DataW.trod (fun _ => ()) Tryd.prog W 0 (fun _ => true) false fuel 9 cs = some (.lit (.string l), p)) : cs = [.string ⟨l.toArray⟩] := by
  obtain ⟨s, h1, h2, _⟩ := DataW.trod_string under9 h
  simp only [Prod.mk.injEq, DataW.lit.injEq, Lit.string.injEq] at h2
  rw [h1, h2.1]
/-- A table of texts lies where its initialiser laid it. -/
theorem strs_of {nm : String} {g T N : Nat} {L : List (List UInt8)} {D : DataW Unit} (hg : Tryd.prog.globalNamed nm = some g) (hT : (Tryd.prog.globals[g]?).map (·.type) = some T) (hu : Tryd.prog.underlying T = some (.array N 9)) (hD : D = .agg (L.map fun l => .lit (.string l)))
    {rest : List (String × DataW Unit)} {W : World} {ps : List MemPlace} (h : DataW.LaidVars Tryd.prog W ((nm, D) :: rest) ps) : ∀ n : Nat, n < N → W.cell? ⟨g, n, none⟩ = some (.string ⟨(L.getD n []).toArray⟩) := by
  obtain ⟨g', t', cs, fuel, p, q, hg', ht', hvar, hd, _, _⟩ := h
  obtain rfl := Option.some.inj (hg.symm.trans hg')
  obtain rfl := Option.some.inj (hT.symm.trans ht')
  have hcell := World.var?_cell hg hvar
  obtain ⟨xs, m, _, hx, hlen, hn, hel⟩ := DataW.trod_array hu hd
  rw [cells9] at hel
  intro n hn25
  have he := hel n hn25
  have hxn : n < xs.length := by omega
  rw [List.getElem?_eq_getElem hxn] at he
  have h1 : xs.map (·.1) = L.map fun l => .lit (.string l) := by
    have := (Prod.mk.injEq _ _ _ _).mp hx
    rw [hD] at this
    exact (DataW.agg.inj this.1).symm
  have hLl : n < L.length := by have := congrArg List.length h1; simp at this; omega
  have hf : xs[n].1 = .lit (.string (L.getD n [])) := by
    have h2 := congrArg (·[n]?) h1
    simpa [List.getElem?_eq_getElem hxn, List.getElem?_eq_getElem hLl, List.getD_eq_getElem?_getD] using h2
  generalize xs[n] = y at he hf
  obtain ⟨z0, q0⟩ := y
  simp only at hf
  subst hf
  have s0 := congrArg (·[0]?) (str_of he)
  simp [List.getElem?_drop] at s0
  rw [hcell, s0, List.getD_eq_getElem?_getD]
theorem g_ty : Tryd.prog.globalNamed "warden/entry.typeNames" = some 0 := by kernel_rfl
theorem gt_ty : (Tryd.prog.globals[0]?).map (·.type) = some 49 := by kernel_rfl
theorem ty_of {rest : List (String × DataW Unit)} {W : World} {ps : List MemPlace} (h : DataW.LaidVars Tryd.prog W (("warden/entry.typeNames", Rows.laid_warden_entry_typeNames) :: rest) ps) : ∀ n : Nat, n < 7 → W.cell? ⟨0, n, none⟩ = some (.string (tyS n)) := by
  have e := strs_of g_ty gt_ty under49 (show (Rows.laid_warden_entry_typeNames : DataW Unit) = .agg ((tyT).map fun l => .lit (.string l)) from rfl) h
  intro n hn
  rw [e n hn]
  rfl
theorem g_st : Tryd.prog.globalNamed "warden/entry.stateNames" = some 1 := by kernel_rfl
theorem gt_st : (Tryd.prog.globals[1]?).map (·.type) = some 50 := by kernel_rfl
theorem st_of {rest : List (String × DataW Unit)} {W : World} {ps : List MemPlace} (h : DataW.LaidVars Tryd.prog W (("warden/entry.stateNames", Rows.laid_warden_entry_stateNames) :: rest) ps) : ∀ n : Nat, n < 4 → W.cell? ⟨1, n, none⟩ = some (.string (stS n)) := by
  have e := strs_of g_st gt_st under50 (show (Rows.laid_warden_entry_stateNames : DataW Unit) = .agg ((stT).map fun l => .lit (.string l)) from rfl) h
  intro n hn
  rw [e n hn]
  rfl
theorem g_rty : Tryd.prog.globalNamed "warden/wardenref11.types" = some 2 := by kernel_rfl
theorem gt_rty : (Tryd.prog.globals[2]?).map (·.type) = some 49 := by kernel_rfl
theorem rty_of {rest : List (String × DataW Unit)} {W : World} {ps : List MemPlace} (h : DataW.LaidVars Tryd.prog W (("warden/wardenref11.types", Rows.laid_warden_wardenref11_types) :: rest) ps) : ∀ n : Nat, n < 7 → W.cell? ⟨2, n, none⟩ = some (.string (tyS n)) := by
  have e := strs_of g_rty gt_rty under49 (show (Rows.laid_warden_wardenref11_types : DataW Unit) = .agg ((tyT).map fun l => .lit (.string l)) from rfl) h
  intro n hn
  rw [e n hn]
  rfl
theorem g_rst : Tryd.prog.globalNamed "warden/wardenref11.states" = some 3 := by kernel_rfl
theorem gt_rst : (Tryd.prog.globals[3]?).map (·.type) = some 50 := by kernel_rfl
theorem rst_of {rest : List (String × DataW Unit)} {W : World} {ps : List MemPlace} (h : DataW.LaidVars Tryd.prog W (("warden/wardenref11.states", Rows.laid_warden_wardenref11_states) :: rest) ps) : ∀ n : Nat, n < 4 → W.cell? ⟨3, n, none⟩ = some (.string (stS n)) := by
  have e := strs_of g_rst gt_rst under50 (show (Rows.laid_warden_wardenref11_states : DataW Unit) = .agg ((stT).map fun l => .lit (.string l)) from rfl) h
  intro n hn
  rw [e n hn]
  rfl
theorem size_of {W : World} {g n : Nat} {v : Value} (h : W.cell? ⟨g, n, none⟩ = some v) : g < W.heap.size := by
  rcases Nat.lt_or_ge g W.heap.size with h0 | h0
  · exact h0
  · simp [World.cell?, Array.getElem?_eq_none h0] at h
theorem nt_of {rest : List (String × DataW Unit)} {W : World} {ps : List MemPlace} (h : DataW.LaidVars Tryd.prog W (("warden/entry.typeNames", Rows.laid_warden_entry_typeNames) :: ("warden/entry.stateNames", Rows.laid_warden_entry_stateNames) :: rest) ps) : Nt W := by
  obtain ⟨q, hq⟩ := vars_tail h
  exact ⟨ty_of h, st_of hq, size_of (st_of hq 0 (by decide))⟩
theorem nr_of {rest : List (String × DataW Unit)} {W : World} {ps : List MemPlace} (h : DataW.LaidVars Tryd.prog W (("warden/entry.typeNames", Rows.laid_warden_entry_typeNames) :: ("warden/entry.stateNames", Rows.laid_warden_entry_stateNames) :: ("warden/wardenref11.types", Rows.laid_warden_wardenref11_types) :: ("warden/wardenref11.states", Rows.laid_warden_wardenref11_states) :: rest) ps) : Nr W := by
  obtain ⟨q, hq⟩ := vars_tail h
  obtain ⟨q', hq'⟩ := vars_tail hq
  obtain ⟨q2, hq2⟩ := vars_tail hq'
  exact ⟨rty_of hq', rst_of hq2, size_of (rst_of hq2 0 (by decide))⟩
def fillT (cs : Array Value) : Obj → Obj
  | .cells _ t frozen => .cells cs t frozen
  | o => o
/-- A WORLD FOR THE WITNESSES: the settled one, each table holding what its initialiser lays. -/
noncomputable def laidWorld (os : Os) : World :=
  { World.holding Tryd.prog os ⟨#[], #[], []⟩ with heap := ((((World.holding Tryd.prog os ⟨#[], #[], []⟩).heap.modify 0 (fillT #[.string ⟨#[102, 114, 101, 101]⟩, .string ⟨#[115, 112, 97, 99, 101]⟩, .string ⟨#[116, 104, 114, 101, 97, 100]⟩, .string ⟨#[102, 105, 114, 115, 116]⟩, .string ⟨#[115, 101, 99, 111, 110, 100]⟩, .string ⟨#[100, 97, 116, 97]⟩, .string ⟨#[115, 112, 97, 114, 101]⟩])).modify 1 (fillT #[.string ⟨#[110, 111, 110, 101]⟩, .string ⟨#[105, 110, 105, 116]⟩, .string ⟨#[102, 105, 110, 97, 108]⟩, .string ⟨#[115, 116, 111, 112, 112, 101, 100]⟩])).modify 2 (fillT #[.string ⟨#[102, 114, 101, 101]⟩, .string ⟨#[115, 112, 97, 99, 101]⟩, .string ⟨#[116, 104, 114, 101, 97, 100]⟩, .string ⟨#[102, 105, 114, 115, 116]⟩, .string ⟨#[115, 101, 99, 111, 110, 100]⟩, .string ⟨#[100, 97, 116, 97]⟩, .string ⟨#[115, 112, 97, 114, 101]⟩])).modify 3 (fillT #[.string ⟨#[110, 111, 110, 101]⟩, .string ⟨#[105, 110, 105, 116]⟩, .string ⟨#[102, 105, 110, 97, 108]⟩, .string ⟨#[115, 116, 111, 112, 112, 101, 100]⟩]) }
end Go.Proofs.YtpijfaffbnojnaaDoor
