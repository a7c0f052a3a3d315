import Derived.Test.YtbpdmkohihgnjaaGreatDoorCards
import Derived.Test.YtbpdmkohihgnjaaGreatDoorTie
import Derived.Test.YtbpdmkohihgnjaaGreatDoorP46
import Derived.ProofKit
import Derived.OpenShut
import Derived.ShutString
import Derived.ChangeOld
import Derived.Below
import Derived.Deep.DeepHandedRow
import Derived.Deep.DeepWitnessRowRef
import Derived.Lib.LaidTab
import Derived.SizedLaws
import Derived.Lay
import Derived.Stop.LaidTwo
import Derived.LaidHandle
import Derived.LaidLaws
import Derived.ChangeMaps5
namespace Go.Proofs.YtbpdmkohihgnjaaGreatDoor
open Go.ChangeShapes Go.WideShapes Go.ChangeAt Go.RowKit
set_option maxRecDepth 100000
theorem bulk_pos {H : Type} (d : DataW H) : 1 ≤ Rows.uptoBulk d := by
  cases d with
  | lit l => cases l <;> simp [Rows.uptoBulk]
  | _ => simp [Rows.uptoBulk]
theorem bulk_len {H : Type} : ∀ (l : List (DataW H)), l.length ≤ Rows.uptoBulkAll l
  | [] => Nat.zero_le _
  | x :: l => by
    have := bulk_len l
    have := bulk_pos x
    simp only [Rows.uptoBulkAll, List.length_cons]
    omega
theorem own : ownKnob Tryz.prog.godebug = none := by kernel_rfl
theorem laidOut : laidOutB Tryz.prog = true := by kernel_rfl
theorem gTab : Tryz.prog.globalNamed "warden/sha.roundWords" = some 12 := by kernel_rfl
theorem gTabType : (Tryz.prog.globals[12]?).map (·.type) = some 208 := by kernel_rfl
theorem gTabW : Tryz.prog.globalNamed "warden/word.lows" = some 7 := by kernel_rfl
theorem gTabWType : (Tryz.prog.globals[7]?).map (·.type) = some 182 := by kernel_rfl
theorem cells208 : Tryz.prog.cellsOf 208 = 64 := by kernel_rfl
theorem cells182 : Tryz.prog.cellsOf 182 = 33 := by kernel_rfl
theorem cells25 : Tryz.prog.cellsOf 25 = 1 := by kernel_rfl
theorem cells26 : Tryz.prog.cellsOf 26 = 8 := by kernel_rfl
theorem vars_tail {P : Program} {W : World} {x : String × DataW Unit} {r : List (String × DataW Unit)} {ps : List MemPlace} (h : DataW.LaidVars P W (x :: r) ps) : ∃ q, DataW.LaidVars P W r q := by
  obtain ⟨n, d⟩ := x
  obtain ⟨g, t, cs, fuel, p, q, _, _, _, _, h, _⟩ := h
  exact ⟨q, h⟩
theorem tab_vars {P : Program} {W : World} {name : String} {k : IntKind} {zs : List Int} {rest : List (String × DataW Unit)} {g : Nat} {t e : TypeId} {n : Nat} {ps : List MemPlace}
    (hg : P.globalNamed name = some g) (hty : (P.globals[g]?).map (·.type) = some t) (ht : P.underlying t = some (.array n e)) (he : P.underlying e = some (.int k)) (hce : P.cellsOf e = 1) (hct : P.cellsOf t = n)
    (h : DataW.LaidVars P W ((name, Lib.tabData k zs) :: rest) ps) : Lib.TabIs P W name k zs := by
  obtain ⟨g', t', cs, fuel, p, q, hg', ht', hvar, hd, _, _⟩ := h
  obtain rfl := Option.some.inj (hg.symm.trans hg')
  obtain rfl := Option.some.inj (hty.symm.trans ht')
  unfold Lib.TabIs
  rw [hvar, ← Lib.cells_of_tab ht he hce hct hd]
def lows : List Int := (List.range 33).map fun i => 2 ^ i - 1
theorem tabW_of {rest : List (String × DataW Unit)} {W : World} {ps : List MemPlace} (h : DataW.LaidVars Tryz.prog W (("warden/word.lows", Rows.laid_warden_word_lows) :: rest) ps) : TabW W := by
  have hT : Lib.TabIs Tryz.prog W "warden/word.lows" .u32 lows := tab_vars (rest := rest) gTabW gTabWType Tryz.underlying182 Tryz.underlying25 cells25 cells182 h
  have hc : ∀ i : Nat, i < 33 → W.cell? ⟨7, i, none⟩ = some (.int .u32 (lows.getD i 0)) := fun i hi => hT.cell gTabW i hi
  intro i hi
  rw [hc i (by omega)]
  have e : lows.getD i 0 = 2 ^ i - 1 := by simp [lows, List.getD_eq_getElem?_getD, List.getElem?_range (show i < 33 by omega)]
  rw [e]
theorem tab_head {rest : List (String × DataW Unit)} {W : World} {ps : List MemPlace} (h : DataW.LaidVars Tryz.prog W (("warden/sha.roundWords", Rows.laid_warden_sha_roundWords) :: rest) ps) : Tab W := by
  have hT : Lib.TabIs Tryz.prog W "warden/sha.roundWords" .u32 S.K := tab_vars (rest := rest) gTab gTabType Tryz.underlying208 Tryz.underlying25 cells25 cells208 h
  have hc : ∀ i : Nat, i < 64 → W.cell? ⟨12, i, none⟩ = some (.int .u32 (S.K.getD i 0)) := fun i hi => hT.cell gTab i hi
  exact fun i hi => by rw [Nat.zero_add]; exact hc i hi
theorem size_of_shape {W : World} (h : W.ShapedOpen Tryz.prog) : 12 < W.heap.size := by
  have h0 : (((begin Tryz.prog (fun _ _ => 0) default).world.heap[12]?).bind Obj.row?).isSome = true := by kernel_rfl
  obtain ⟨⟨c, t⟩, hc⟩ := Option.isSome_iff_exists.1 h0
  obtain ⟨cs, hh, _, _⟩ := h.1 12 _ _ (by rw [show Tryz.prog.globals.size = 13 from by kernel_rfl]; decide) hc
  exact (Array.getElem?_eq_some_iff.1 hh).1
theorem trodAll_below {H : Type} {enc : TypeId × Value → H} {P : Program} (hl : laidOutB P = true) {W W' : World} (hb : Below W.heap.size W W') (ts : List TypeId) : ∀ {vs : List Value} {ds : List (DataW H)} {ps : List MemPlace},
    (ts.all fun t => P.readableRec t && decide (t < P.types.size)) = true → DataW.TrodAll enc P W 0 (fun _ => true) true ts vs ds ps → (∀ x ∈ ps, x.block < W.heap.size) →
    DataW.TrodAll enc P W' 0 (fun b => decide (b < W.heap.size)) true ts vs ds ps := by
  induction ts with
  | nil =>
    intro vs ds ps _ h _
    obtain ⟨rfl, rfl, rfl⟩ := trodAll_nil h
    exact trodAll_mk0
  | cons t ts ih =>
    intro vs ds ps ht h hlt
    obtain ⟨v0, vs0, d0, ds0, p0, q0, rfl, rfl, rfl, h0, r0⟩ := trodAll_cons h
    simp only [List.all_cons, Bool.and_eq_true, decide_eq_true_eq] at ht
    exact trodAll_cons_mk (Below.trod hl ht.1.1 ht.1.2 h0 hb (fun x hx => hlt x (by simp [hx]))) (ih (by simpa using ht.2) r0 (fun x hx => hlt x (by simp [hx])))
theorem law_post {H : Type} {enc : TypeId × Value → H} {f : Func} {s : ChangeSpec} {W W' : World} {args : Array Value} {ds gs : List (DataW H)} {before : List MemPlace}
    (hts : (f.params.toList.all fun t => Tryz.prog.readableRec t && decide (t < Tryz.prog.types.size)) = true) (hr : f.resultTypes = #[4]) (hv : s.vars = [])
    (hs : s.fn H (ds ++ gs) = { results := [.lit (.bool true)], args := ds })
    (hW : DataW.Whole enc Tryz.prog f.params.toList s.vars false W args.toList ds gs before) (hb : Below W.heap.size W W') :
    s.post enc Tryz.prog f false true false false W args (.bool true) W' := by
  have hW' := hW
  have hlt := hW.lt
  obtain ⟨p, q, hA, hV, rfl, hfz, hnd⟩ := hW
  rw [hv] at hV
  obtain ⟨rfl, rfl⟩ := trodVars_none hV
  rw [List.append_nil] at hlt
  refine ⟨ds, [], _, [], p, [], hW', ?_, ?_, ?_, hb.frame _, fun h => by cases h⟩
  · rw [hs, hr]
    exact trodAll_mk1 (shut_bool Tryz.underlying4 _)
  · rw [hs]
    exact trodAll_below laidOut hb _ hts hA hlt
  · rw [hs, hv]
    rfl
theorem wds_of {xs : List Int} (h : ∀ x ∈ xs, (Lit.int .u32 x).wf = true) : Wds xs := fun j => by
  have := range_u32 h j
  rw [List.getD_eq_getElem?_getD]
  omega
theorem ints_of (k : IntKind) : ∀ l : List Value, (∀ i, i < l.length → ∃ z, l[i]? = some (.int k z) ∧ (Lit.int k z).wf = true) → ∃ xs : List Int, l = xs.map (Value.int k) ∧ ∀ x ∈ xs, (Lit.int k x).wf = true
  | [], _ => ⟨[], rfl, fun x hx => by cases hx⟩
  | v :: l, h => by
    obtain ⟨z, hz, hw⟩ := h 0 (by simp)
    obtain ⟨xs, rfl, hx⟩ := ints_of k l fun i hi => by simpa using h (i + 1) (by simpa using hi)
    simp at hz
    subst hz
    exact ⟨z :: xs, rfl, by simpa using ⟨hw, hx⟩⟩
theorem weights_all_mem {H : Type} {P : Program} {e : TypeId} {d : DataW H} {z : Nat} : ∀ {l : List (DataW H)}, d ∈ l → z ∈ d.weights P e → z ∈ DataW.weightsAll P e l
  | [], h, _ => by cases h
  | x :: l, h, hz => by
    simp only [DataW.weightsAll, List.mem_append]
    rcases List.mem_cons.1 h with rfl | h
    · exact .inl hz
    · exact .inr (weights_all_mem h hz)
theorem cells63 : Tryz.prog.cellsOf 63 = 10 := by kernel_rfl
theorem cells24 : Tryz.prog.cellsOf 24 = 2 := by kernel_rfl
theorem cells22 : Tryz.prog.cellsOf 22 = 1 := by kernel_rfl
theorem cells28 : Tryz.prog.cellsOf 28 = 24 := by kernel_rfl
theorem cells30 : Tryz.prog.cellsOf 30 = 42 := by kernel_rfl
theorem cells4 : Tryz.prog.cellsOf 4 = 1 := by kernel_rfl
theorem cells9 : Tryz.prog.cellsOf 9 = 1 := by kernel_rfl
theorem take_one {α : Type} {cs : List α} {j : Nat} {v : α} (h : (cs.drop j).take 1 = [v]) : cs[j]? = some v := by
  have := congrArg (fun l => l[0]?) h
  simpa using this
theorem open_arr8 {H : Type} {enc : TypeId × Value → H} {W : World} {b0 fuel : Nat} {held : Bool} {cs : List Value} {y : DataW H × List MemPlace}
    (hf : DataW.trod enc Tryz.prog W b0 (fun _ => true) held fuel 26 cs = some y) : ∃ xs : List Int, cs = xs.map (Value.int .u32) ∧ xs.length = 8 ∧ Wds xs := by
  obtain ⟨ys, m, _, _, hcl, hl, hel⟩ := DataW.trod_array Tryz.underlying26 hf
  rw [cells26] at hcl
  obtain ⟨xs, hxs, hw⟩ := ints_of .u32 cs fun i hi => by
    have hE := hel i (by omega)
    rw [cells25, Nat.mul_one, List.getElem?_eq_getElem (by omega)] at hE
    obtain ⟨z, e1, _, e3⟩ := DataW.trod_int Tryz.underlying25 hE
    exact ⟨z, take_one e1, e3⟩
  exact ⟨xs, hxs, by rw [hxs] at hcl; simpa using hcl, wds_of hw⟩
theorem split8 {cs : List Value} {o k : Nat} {xs : List Int} (h : (cs.drop o).take k = xs.map (Value.int .u32)) (hk : xs.length = k) (j : Nat) (hj : j < k) : cs[o + j]? = some (.int .u32 (xs.getD j 0)) := by
  have := congrArg (fun l => l[j]?) h
  simp only [List.getElem?_take, hj, if_true, List.getElem?_drop, List.getElem?_map] at this
  rw [this, List.getElem?_eq_getElem (by omega)]
  simp [List.getD_eq_getElem?_getD, List.getElem?_eq_getElem (show j < xs.length by omega)]
theorem map_at {xs : List Int} {j : Nat} (hj : j < xs.length) : (xs.map (Value.int .u32))[j]? = some (.int .u32 (xs.getD j 0)) := by
  rw [List.getElem?_map, List.getElem?_eq_getElem hj]
  simp [List.getD_eq_getElem?_getD, List.getElem?_eq_getElem hj]
theorem open_rule {H : Type} {enc : TypeId × Value → H} {W : World} {b0 fuel : Nat} {held : Bool} {cs : List Value} {y : DataW H × List MemPlace}
    (h : DataW.trod enc Tryz.prog W b0 (fun _ => true) held fuel 63 cs = some y) : ∃ r : Rl, cs = r.cs ∧ r.ms.length = 8 ∧ Wds r.ms ∧ r.nm.size ∈ y.1.weights Tryz.prog 63 := by
  obtain ⟨xs, m, rfl, hy, hlen, hn, hel⟩ := DataW.trod_struct Tryz.underlying63 h
  rw [cells63] at hlen
  have hsz : xs.length = 3 := hn
  match xs, hsz with
  | [x0, x1, x2], _ =>
    have e0 : DataW.trod enc Tryz.prog W b0 (fun _ => true) held m 4 ((cs.drop 0).take (Tryz.prog.cellsOf 4)) = some x0 := hel 0 _ rfl
    have e1 : DataW.trod enc Tryz.prog W b0 (fun _ => true) held m 9 ((cs.drop 1).take (Tryz.prog.cellsOf 9)) = some x1 := hel 1 _ rfl
    have e2 : DataW.trod enc Tryz.prog W b0 (fun _ => true) held m 26 ((cs.drop 2).take (Tryz.prog.cellsOf 26)) = some x2 := hel 2 _ rfl
    rw [cells4] at e0
    rw [cells9] at e1
    rw [cells26] at e2
    obtain ⟨b, g0, _⟩ := DataW.trod_bool Tryz.underlying4 (show _ = some x0 from e0)
    obtain ⟨s, g1, hs1, _⟩ := DataW.trod_string Tryz.underlying9 (show _ = some x1 from e1)
    obtain ⟨ms, g2, hl, hw⟩ := open_arr8 e2
    refine ⟨⟨b, s, ms⟩, ?_, hl, hw, ?_⟩
    · apply List.ext_getElem?
      intro j
      by_cases h5 : j < 10
      · rcases (show j = 0 ∨ j = 1 ∨ ∃ i, j = 2 + i ∧ i < 8 from by
          rcases j with _ | _ | j
          · exact .inl rfl
          · exact .inr (.inl rfl)
          · exact .inr (.inr ⟨j, by omega, by omega⟩)) with rfl | rfl | ⟨i, rfl, hi⟩
        · exact take_one g0
        · exact take_one g1
        · rw [split8 g2 hl i hi, Rl.cs, show 2 + i = i + 1 + 1 by omega, List.getElem?_cons_succ, List.getElem?_cons_succ, map_at (by show i < ms.length; omega)]
      · rw [List.getElem?_eq_none (by omega), List.getElem?_eq_none (by simp [Rl.cs, hl]; omega)]
    · rw [show y.1 = _ from congrArg Prod.fst hy]
      subst hs1
      show s.size ∈ DataW.weights Tryz.prog 63 (.agg [x0.1, .lit (.string s.data.toList), x2.1])
      rw [DataW.weights, Tryz.underlying63]
      show s.size ∈ DataW.weights Tryz.prog 4 x0.1 ++ (DataW.weights Tryz.prog 9 (.lit (.string s.data.toList)) ++ _)
      refine List.mem_append_right _ (List.mem_append_left _ ?_)
      rw [DataW.weights]
      exact List.mem_singleton.2 rfl
theorem open_slice {H : Type} {enc : TypeId × Value → H} {W : World} {fuel : Nat} {held : Bool} {cs0 : List Value} {y0 : DataW H × List MemPlace} {t e : TypeId} {st : Nat} (ht : Tryz.prog.underlying t = some (.slice e)) (hce : Tryz.prog.cellsOf e = st) (hst : 0 < st)
    (hf : DataW.trod enc Tryz.prog W 0 (fun _ => true) held fuel t cs0 = some y0) :
    ∃ (ao : Option Addr) (n cap b off : Nat), cs0 = [.slice ao n cap] ∧ n ≤ cap ∧ (0 < n → ao = some ⟨b, off, none⟩ ∧ b < W.heap.size) ∧
      cap ≤ maxLen ∧ (n = 0 ∨ ∃ es sp, y0.1 = .slice es sp ∧ es.length = n ∧ ∀ k, k < n → ∃ cs m y, W.rangeAt b (off + k * st) cs ∧ DataW.trod enc Tryz.prog W 0 (fun _ => true) held m e cs = some y ∧ y.1 ∈ es) := by
  rcases DataW.trod_slice ht hf with ⟨hcs, hx⟩ | ⟨a, len, cap', elems, rest, m, rfl, hcs, hx, hb0, hl, hm, hlen, hel, hsp, hns⟩
  · exact ⟨none, 0, 0, 0, 0, hcs, Nat.le_refl _, fun h => absurd h (by decide), Nat.zero_le _, .inl rfl⟩
  · rw [hce] at hel
    rcases Nat.eq_zero_or_pos len with h0 | hn
    · subst h0
      exact ⟨_, 0, _, 0, 0, hcs, hl, fun h => absurd h (by decide), hm, .inl rfl⟩
    · have each : ∀ k (hk : k < len), ∃ cs y, W.cells? 0 (a.add (k * st)) st = some cs ∧ DataW.trod enc Tryz.prog W 0 (fun _ => true) held m e cs = some y ∧ y.1 ∈ elems.map (·.1) := fun k hk => by
        have he := hel k hk
        obtain ⟨y, hy⟩ : ∃ y, elems[k]? = some y := ⟨elems[k], List.getElem?_eq_getElem (by omega)⟩
        rw [hy] at he
        obtain ⟨cs, h1, h2⟩ := Option.bind_eq_some_iff.1 he
        exact ⟨cs, y, h1, h2, List.mem_map.2 ⟨y, List.mem_of_getElem? hy, rfl⟩⟩
      obtain ⟨b, off, spot⟩ := a
      have hspot : spot = none := by
        obtain ⟨cs, y, h1, _⟩ := each 0 hn
        have := (World.cells?_some h1).2.2 0 hst
        have hc := (World.cells?_some h1).2.1
        rw [List.getElem?_eq_getElem (by omega)] at this
        simpa [Addr.add] using World.cell?_spot this
      subst hspot
      have hadd : ∀ i j, ((⟨b, off, none⟩ : Addr).add i).add j = ⟨b, off + i + j, none⟩ := fun i j => by rw [Addr.add_mid, Addr.add_mid]
      have hblk : b < W.heap.size := by
        obtain ⟨cs, y, h1, _⟩ := each 0 hn
        have := World.cells?_block h1 hst
        simpa [Addr.add] using this
      refine ⟨_, len, cap', b, off, hcs, hl, fun _ => ⟨rfl, hblk⟩, hm, .inr ⟨elems.map (·.1), rest.map (·.1), by rw [hx], by rw [List.length_map]; exact hlen, fun k hk => ?_⟩⟩
      obtain ⟨cs, y, h1, h2, h3⟩ := each k hk
      refine ⟨cs, m, y, fun j v hv => ?_, h2, h3⟩
      have hj : j < st := by have := (List.getElem?_eq_some_iff.1 hv).1; have := (World.cells?_some h1).2.1; omega
      have := (World.cells?_some h1).2.2 j hj
      rw [hadd] at this
      rw [this, hv]
theorem pickr {Q : Nat → Rl → Prop} (n : Nat) (h : ∀ k, k < n → ∃ x, Q k x) : ∃ l : List Rl, l.length = n ∧ ∀ k x, l[k]? = some x → Q k x := by
  refine ⟨(List.range n).map (fun k => if hk : k < n then (h k hk).choose else ⟨false, ⟨#[]⟩, []⟩), by simp, fun k x hx => ?_⟩
  rw [List.getElem?_map] at hx
  obtain ⟨i, hi, rfl⟩ := Option.map_eq_some_iff.1 hx
  have hk : k < n := by simpa using (List.getElem?_eq_some_iff.1 hi).1
  rw [List.getElem?_range hk] at hi
  cases hi
  simp only [hk, dif_pos]
  exact (h k hk).choose_spec
theorem open_pol {H : Type} {enc : TypeId × Value → H} {W : World} {base : Nat} {held : Bool} {v : Value} {d : DataW H} {p : List MemPlace}
    (hv : Value.okWide Tryz.prog W .any base 24 v) (h : DataW.Trod enc Tryz.prog W 0 (fun _ => true) held 24 v d p) (hb : ∀ z ∈ d.weights Tryz.prog 24, z ≤ reachBytes) :
    ∃ (ao : Option Addr) (n c : Nat) (ot : Bool) (R : List Rl), v = .agg (polC ao n c ot).toArray ∧ R.length = n ∧ RulesAt W ao R ∧ (∀ r ∈ R, r.Ok) ∧ (n : Int) ≤ 9223372036854775807 ∧ n ≤ Rows.uptoBulk d := by
  obtain ⟨cs, rfl, hsz, _⟩ : ∃ cs, v = .agg cs ∧ cs.size = Tryz.prog.cellsOf 24 ∧ Row.okWide Tryz.prog W .any base 24 cs := by
    simpa [Value.okWide, Tryz.underlying24] using hv
  obtain ⟨fuel, hf⟩ := h
  obtain ⟨xs, m, rfl, hy, hlen, hn, hel⟩ := DataW.trod_struct Tryz.underlying24 hf
  obtain ⟨cs⟩ := cs
  have hlen' : cs.length = 2 := by simpa [cells24] using hsz
  have hsz' : xs.length = 2 := hn
  match cs, hlen' with
  | [v0, v1], _ =>
    match xs, hsz' with
    | [x0, x1], _ =>
      have e0 : DataW.trod enc Tryz.prog W 0 (fun _ => true) held m 22 (([v0, v1].drop 0).take (Tryz.prog.cellsOf 22)) = some x0 := hel 0 _ rfl
      have e1 : DataW.trod enc Tryz.prog W 0 (fun _ => true) held m 4 (([v0, v1].drop 1).take (Tryz.prog.cellsOf 4)) = some x1 := hel 1 _ rfl
      rw [cells22] at e0
      rw [cells4] at e1
      obtain ⟨ao, n, cap, b, off, hcs, hnc, hao, hcm, hk⟩ := open_slice Tryz.underlying22 cells63 (by decide) (show _ = some x0 from e0)
      obtain ⟨ot, g1, _⟩ := DataW.trod_bool Tryz.underlying4 (show _ = some x1 from e1)
      simp only [List.drop_zero, List.take_succ_cons, List.take_zero, List.cons.injEq, and_true] at hcs
      simp at g1
      subst hcs g1
      obtain ⟨R, hR, hQ⟩ := pickr (Q := fun k r => W.rangeAt b (off + k * 10) r.cs ∧ r.Ok) n fun k hkn => by
        rcases hk with rfl | ⟨es, sp, he, hel, hk⟩
        · omega
        · obtain ⟨cs, m', y, h1, h2, h3⟩ := hk k hkn
          obtain ⟨r, rfl, hl, hw, hwt⟩ := open_rule h2
          refine ⟨r, h1, hl, hw, ?_⟩
          have hz := hb r.nm.size (by
            rw [show d = _ from congrArg Prod.fst hy]
            simp only [DataW.weights, Tryz.underlying24, List.map_cons, List.map_nil, DataW.weightsEach, he, Tryz.underlying22]
            have := weights_all_mem (P := Tryz.prog) (e := 63) h3 hwt
            simp [this])
          simp only [reachBytes] at hz
          omega
      refine ⟨ao, n, cap, ot, R, rfl, hR, ?_, fun r hr => ?_, by unfold maxLen at hcm; omega, by
        rcases hk with h0 | ⟨es, sp, he, hel, _⟩
        · omega
        · rw [show d = _ from congrArg Prod.fst hy]
          simp only [List.map_cons, List.map_nil, he, Rows.uptoBulk, Rows.uptoBulkAll]
          have := bulk_len es
          omega⟩
      · rcases Nat.eq_zero_or_pos n with h0 | h0
        · exact .inl (List.eq_nil_of_length_eq_zero (by omega))
        · obtain ⟨rfl, hbl⟩ := hao h0
          exact .inr ⟨b, off, rfl, hbl, fun t r hr => (hQ t r hr).1⟩
      · obtain ⟨t, ht⟩ := List.getElem?_of_mem hr
        exact (hQ t r ht).2
theorem open_cla {H : Type} {enc : TypeId × Value → H} {W : World} {base : Nat} {held : Bool} {v : Value} {d : DataW H} {p : List MemPlace}
    (hv : Value.okWide Tryz.prog W .any base 30 v) (h : DataW.Trod enc Tryz.prog W 0 (fun _ => true) held 30 v d p) :
    ∃ (s o m d t : List Int) (ri sa : Bool), v = .agg (claC s o (quoL m d t) ri sa).toArray ∧ s.length = 8 ∧ o.length = 8 ∧ m.length = 8 ∧ d.length = 8 ∧ t.length = 8 ∧ Wds s ∧ Wds o ∧ Wds m ∧ Wds d ∧ Wds t := by
  obtain ⟨cs, rfl, hsz, _⟩ : ∃ cs, v = .agg cs ∧ cs.size = Tryz.prog.cellsOf 30 ∧ Row.okWide Tryz.prog W .any base 30 cs := by
    simpa [Value.okWide, Tryz.underlying30] using hv
  obtain ⟨fuel, hf⟩ := h
  obtain ⟨xs, m, rfl, hy, hlen, hn, hel⟩ := DataW.trod_struct Tryz.underlying30 hf
  obtain ⟨cs⟩ := cs
  have hlen' : cs.length = 42 := by simpa [cells30] using hsz
  have hsz' : xs.length = 5 := hn
  match xs, hsz' with
  | [x0, x1, x2, x3, x4], _ =>
    have e0 : DataW.trod enc Tryz.prog W 0 (fun _ => true) held m 26 ((cs.drop 0).take (Tryz.prog.cellsOf 26)) = some x0 := hel 0 _ rfl
    have e1 : DataW.trod enc Tryz.prog W 0 (fun _ => true) held m 26 ((cs.drop 8).take (Tryz.prog.cellsOf 26)) = some x1 := hel 1 _ rfl
    have e2 : DataW.trod enc Tryz.prog W 0 (fun _ => true) held m 28 ((cs.drop 16).take (Tryz.prog.cellsOf 28)) = some x2 := hel 2 _ rfl
    have e3 : DataW.trod enc Tryz.prog W 0 (fun _ => true) held m 4 ((cs.drop 40).take (Tryz.prog.cellsOf 4)) = some x3 := hel 3 _ rfl
    have e4 : DataW.trod enc Tryz.prog W 0 (fun _ => true) held m 4 ((cs.drop 41).take (Tryz.prog.cellsOf 4)) = some x4 := hel 4 _ rfl
    rw [cells26] at e0 e1
    rw [cells28] at e2
    rw [cells4] at e3 e4
    obtain ⟨s, g0, ls, ws⟩ := open_arr8 e0
    obtain ⟨o, g1, lo, wo⟩ := open_arr8 e1
    obtain ⟨ri, g3, _⟩ := DataW.trod_bool Tryz.underlying4 (show _ = some x3 from e3)
    obtain ⟨sa, g4, _⟩ := DataW.trod_bool Tryz.underlying4 (show _ = some x4 from e4)
    obtain ⟨ys, m2, rfl, _, hlen2, hn2, hel2⟩ := DataW.trod_struct Tryz.underlying28 (show _ = some x2 from e2)
    have hsz2 : ys.length = 3 := hn2
    match ys, hsz2 with
    | [y0, y1, y2], _ =>
      have f0 : DataW.trod enc Tryz.prog W 0 (fun _ => true) held m2 26 ((((cs.drop 16).take 24).drop 0).take (Tryz.prog.cellsOf 26)) = some y0 := hel2 0 _ rfl
      have f1 : DataW.trod enc Tryz.prog W 0 (fun _ => true) held m2 26 ((((cs.drop 16).take 24).drop 8).take (Tryz.prog.cellsOf 26)) = some y1 := hel2 1 _ rfl
      have f2 : DataW.trod enc Tryz.prog W 0 (fun _ => true) held m2 26 ((((cs.drop 16).take 24).drop 16).take (Tryz.prog.cellsOf 26)) = some y2 := hel2 2 _ rfl
      rw [cells26] at f0 f1 f2
      obtain ⟨qm, k0, lm, wm⟩ := open_arr8 f0
      obtain ⟨qd, k1, ld, wd⟩ := open_arr8 f1
      obtain ⟨qt, k2, lt, wt⟩ := open_arr8 f2
      refine ⟨s, o, qm, qd, qt, ri, sa, ?_, ls, lo, lm, ld, lt, ws, wo, wm, wd, wt⟩
      congr 1
      rw [show (({ toList := cs } : Array Value) = cs.toArray) from rfl]
      congr 1
      have a0 : cs.take 8 = s.map (Value.int .u32) := by simpa using g0
      have a1 : (cs.drop 8).take 8 = o.map (Value.int .u32) := g1
      have a2 : (cs.drop 16).take 8 = qm.map (Value.int .u32) := by rw [← k0, List.drop_zero, List.take_take]; rfl
      have a3 : (cs.drop 24).take 8 = qd.map (Value.int .u32) := by rw [← k1, List.drop_take, List.drop_drop, List.take_take]; rfl
      have a4 : (cs.drop 32).take 8 = qt.map (Value.int .u32) := by rw [← k2, List.drop_take, List.drop_drop, List.take_take]; rfl
      have a5 : (cs.drop 40) = [.bool ri, .bool sa] := by
        have h1 := take_one g3
        have h2 := take_one g4
        apply List.ext_getElem?
        intro j
        rw [List.getElem?_drop]
        match j with
        | 0 => exact h1
        | 1 => exact h2
        | j + 2 => rw [List.getElem?_eq_none (by omega)]; rfl
      have hd : ∀ i, cs.drop i = (cs.drop i).take 8 ++ cs.drop (i + 8) := fun i => by rw [← List.drop_drop, List.take_append_drop]
      have e : cs = cs.take 8 ++ cs.drop 8 := (List.take_append_drop 8 cs).symm
      rw [e, hd 8, hd 16, hd 24, hd 32, a0, a1, a2, a3, a4, a5]
      simp [claC, quoL]
theorem gE1 : Tryz.prog.globalNamed "warden/attest.errTag" = some 3 := by kernel_rfl
theorem gE2 : Tryz.prog.globalNamed "warden/attest.errNonce" = some 4 := by kernel_rfl
theorem gE3 : Tryz.prog.globalNamed "warden/attest.errDenied" = some 5 := by kernel_rfl
theorem gE4 : Tryz.prog.globalNamed "warden/attest.errLong" = some 0 := by kernel_rfl
theorem gE5 : Tryz.prog.globalNamed "warden/attest.errQuoted" = some 2 := by kernel_rfl
theorem gE6 : Tryz.prog.globalNamed "warden/attest.errPolicy" = some 1 := by kernel_rfl
theorem tE1 : (Tryz.prog.globals[3]?).map (·.type) = some 47 := by kernel_rfl
theorem tE2 : (Tryz.prog.globals[4]?).map (·.type) = some 47 := by kernel_rfl
theorem tE3 : (Tryz.prog.globals[5]?).map (·.type) = some 47 := by kernel_rfl
theorem tE4 : (Tryz.prog.globals[0]?).map (·.type) = some 47 := by kernel_rfl
theorem tE5 : (Tryz.prog.globals[2]?).map (·.type) = some 47 := by kernel_rfl
theorem tE6 : (Tryz.prog.globals[1]?).map (·.type) = some 47 := by kernel_rfl
theorem cells265 : Tryz.prog.cellsOf 265 = 1 := by kernel_rfl
theorem star : "*" ++ "errors.errorString" = "*errors.errorString" := by decide
theorem row245 (u : TypeId) (h : Tryz.prog.typeName? 3 u = some "*errors.errorString") : u = 245 :=
  typeName_ptr_named (nm := "errors.errorString") (by rw [star]; kernel_rfl) (by kernel_rfl) (by decide) u (by rw [star]; exact h)
theorem errs_of {W : World} {rest : List (String × DataW Unit)} (h : laidMet Tryz.prog (("warden/attest.errLong", Rows.laid_warden_attest_errLong) :: ("warden/attest.errQuoted", Rows.laid_warden_attest_errQuoted) :: ("warden/attest.errPolicy", Rows.laid_warden_attest_errPolicy) :: ("warden/attest.errTag", Rows.laid_warden_attest_errTag) :: ("warden/attest.errNonce", Rows.laid_warden_attest_errNonce) :: ("warden/attest.errDenied", Rows.laid_warden_attest_errDenied) :: rest) W) (hg : 12 < W.heap.size) : ∃ E, ErrS W E := by
  obtain ⟨ps, ⟨g4, t4, cs4, f4, p4, q4, hg4, ht4, hv4, hd4, ⟨g5, t5, cs5, f5, p5, q5, hg5, ht5, hv5, hd5, ⟨g6, t6, cs6, f6, p6, q6, hg6, ht6, hv6, hd6, ⟨g1, t1, cs1, f1, p1, q1, hg1, ht1, hv1, hd1, ⟨g2, t2, cs2, f2, p2, q2, hg2, ht2, hv2, hd2, ⟨g3, t3, cs3, f3, p3, q3, hg3, ht3, hv3, hd3, _, e3⟩, e2⟩, e1⟩, e6⟩, e5⟩, e4⟩, hnd, hrows⟩ := h
  obtain rfl := Option.some.inj (gE4.symm.trans hg4)
  obtain rfl := Option.some.inj (tE4.symm.trans ht4)
  obtain rfl := Option.some.inj (gE5.symm.trans hg5)
  obtain rfl := Option.some.inj (tE5.symm.trans ht5)
  obtain rfl := Option.some.inj (gE6.symm.trans hg6)
  obtain rfl := Option.some.inj (tE6.symm.trans ht6)
  obtain rfl := Option.some.inj (gE1.symm.trans hg1)
  obtain rfl := Option.some.inj (tE1.symm.trans ht1)
  obtain rfl := Option.some.inj (gE2.symm.trans hg2)
  obtain rfl := Option.some.inj (tE2.symm.trans ht2)
  obtain rfl := Option.some.inj (gE3.symm.trans hg3)
  obtain rfl := Option.some.inj (tE3.symm.trans ht3)
  subst e3
  subst e2
  subst e1
  subst e6
  subst e5
  subst e4
  obtain ⟨l4⟩ := cs4
  obtain ⟨l5⟩ := cs5
  obtain ⟨l6⟩ := cs6
  obtain ⟨l1⟩ := cs1
  obtain ⟨l2⟩ := cs2
  obtain ⟨l3⟩ := cs3
  have ok4 : ∀ u v, l4 = [.iface u v] → Value.okWide Tryz.prog W .any 0 u v := fun u v e => by
    subst e
    exact (hrows 0 0 (by simp [MemPlace.row])).2 u v (by simpa using World.var?_cell hg4 hv4 0)
  have ok5 : ∀ u v, l5 = [.iface u v] → Value.okWide Tryz.prog W .any 0 u v := fun u v e => by
    subst e
    exact (hrows 2 0 (by simp [MemPlace.row])).2 u v (by simpa using World.var?_cell hg5 hv5 0)
  have ok6 : ∀ u v, l6 = [.iface u v] → Value.okWide Tryz.prog W .any 0 u v := fun u v e => by
    subst e
    exact (hrows 1 0 (by simp [MemPlace.row])).2 u v (by simpa using World.var?_cell hg6 hv6 0)
  have ok1 : ∀ u v, l1 = [.iface u v] → Value.okWide Tryz.prog W .any 0 u v := fun u v e => by
    subst e
    exact (hrows 3 0 (by simp [MemPlace.row])).2 u v (by simpa using World.var?_cell hg1 hv1 0)
  have ok2 : ∀ u v, l2 = [.iface u v] → Value.okWide Tryz.prog W .any 0 u v := fun u v e => by
    subst e
    exact (hrows 4 0 (by simp [MemPlace.row])).2 u v (by simpa using World.var?_cell hg2 hv2 0)
  have ok3 : ∀ u v, l3 = [.iface u v] → Value.okWide Tryz.prog W .any 0 u v := fun u v e => by
    subst e
    exact (hrows 5 0 (by simp [MemPlace.row])).2 u v (by simpa using World.var?_cell hg3 hv3 0)
  obtain ⟨a4, s4, rfl, hc4, hs4, hz4, rfl⟩ := errorString_of_trod Tryz.underlying47 row245 Tryz.underlying245 Tryz.underlying265 rfl rfl Tryz.underlying9 cells265 cells9 hd4 ok4
  obtain ⟨a5, s5, rfl, hc5, hs5, hz5, rfl⟩ := errorString_of_trod Tryz.underlying47 row245 Tryz.underlying245 Tryz.underlying265 rfl rfl Tryz.underlying9 cells265 cells9 hd5 ok5
  obtain ⟨a6, s6, rfl, hc6, hs6, hz6, rfl⟩ := errorString_of_trod Tryz.underlying47 row245 Tryz.underlying245 Tryz.underlying265 rfl rfl Tryz.underlying9 cells265 cells9 hd6 ok6
  obtain ⟨a1, s1, rfl, hc1, hs1, hz1, rfl⟩ := errorString_of_trod Tryz.underlying47 row245 Tryz.underlying245 Tryz.underlying265 rfl rfl Tryz.underlying9 cells265 cells9 hd1 ok1
  obtain ⟨a2, s2, rfl, hc2, hs2, hz2, rfl⟩ := errorString_of_trod Tryz.underlying47 row245 Tryz.underlying245 Tryz.underlying265 rfl rfl Tryz.underlying9 cells265 cells9 hd2 ok2
  obtain ⟨a3, s3, rfl, hc3, hs3, hz3, rfl⟩ := errorString_of_trod Tryz.underlying47 row245 Tryz.underlying245 Tryz.underlying265 rfl rfl Tryz.underlying9 cells265 cells9 hd3 ok3
  have b4 := (hrows a4.block a4.off (by simp [MemPlace.row])).1
  have b5 := (hrows a5.block a5.off (by simp [MemPlace.row])).1
  have b6 := (hrows a6.block a6.off (by simp [MemPlace.row])).1
  have b1 := (hrows a1.block a1.off (by simp [MemPlace.row])).1
  have b2 := (hrows a2.block a2.off (by simp [MemPlace.row])).1
  have b3 := (hrows a3.block a3.off (by simp [MemPlace.row])).1
  have v4 : W.cell? ⟨0, 0, none⟩ = some (.iface 245 (.pointer (some a4))) := by simpa using World.var?_cell hg4 hv4 0
  have v5 : W.cell? ⟨2, 0, none⟩ = some (.iface 245 (.pointer (some a5))) := by simpa using World.var?_cell hg5 hv5 0
  have v6 : W.cell? ⟨1, 0, none⟩ = some (.iface 245 (.pointer (some a6))) := by simpa using World.var?_cell hg6 hv6 0
  have v1 : W.cell? ⟨3, 0, none⟩ = some (.iface 245 (.pointer (some a1))) := by simpa using World.var?_cell hg1 hv1 0
  have v2 : W.cell? ⟨4, 0, none⟩ = some (.iface 245 (.pointer (some a2))) := by simpa using World.var?_cell hg2 hv2 0
  have v3 : W.cell? ⟨5, 0, none⟩ = some (.iface 245 (.pointer (some a3))) := by simpa using World.var?_cell hg3 hv3 0
  have n4_5 : a4 ≠ a5 := by rintro rfl; simp [MemPlace.row] at hnd
  have n4_6 : a4 ≠ a6 := by rintro rfl; simp [MemPlace.row] at hnd
  have n4_1 : a4 ≠ a1 := by rintro rfl; simp [MemPlace.row] at hnd
  have n4_2 : a4 ≠ a2 := by rintro rfl; simp [MemPlace.row] at hnd
  have n4_3 : a4 ≠ a3 := by rintro rfl; simp [MemPlace.row] at hnd
  have n5_6 : a5 ≠ a6 := by rintro rfl; simp [MemPlace.row] at hnd
  have n5_1 : a5 ≠ a1 := by rintro rfl; simp [MemPlace.row] at hnd
  have n5_2 : a5 ≠ a2 := by rintro rfl; simp [MemPlace.row] at hnd
  have n5_3 : a5 ≠ a3 := by rintro rfl; simp [MemPlace.row] at hnd
  have n6_1 : a6 ≠ a1 := by rintro rfl; simp [MemPlace.row] at hnd
  have n6_2 : a6 ≠ a2 := by rintro rfl; simp [MemPlace.row] at hnd
  have n6_3 : a6 ≠ a3 := by rintro rfl; simp [MemPlace.row] at hnd
  have n1_2 : a1 ≠ a2 := by rintro rfl; simp [MemPlace.row] at hnd
  have n1_3 : a1 ≠ a3 := by rintro rfl; simp [MemPlace.row] at hnd
  have n2_3 : a2 ≠ a3 := by rintro rfl; simp [MemPlace.row] at hnd
  refine ⟨fun i => if i = 1 then a1 else if i = 2 then a2 else if i = 3 then a3 else if i = 4 then a4 else if i = 5 then a5 else a6, ?_, ?_, ?_, hg⟩
  · intro i h1 h2
    rcases (show i = 1 ∨ i = 2 ∨ i = 3 ∨ i = 4 ∨ i = 5 ∨ i = 6 by omega) with rfl | rfl | rfl | rfl | rfl | rfl
    · exact v1
    · exact v2
    · exact v3
    · exact v4
    · exact v5
    · exact v6
  · intro i j h1 h2 h3 h4 hij
    rcases (show i = 1 ∨ i = 2 ∨ i = 3 ∨ i = 4 ∨ i = 5 ∨ i = 6 by omega) with rfl | rfl | rfl | rfl | rfl | rfl <;> rcases (show j = 1 ∨ j = 2 ∨ j = 3 ∨ j = 4 ∨ j = 5 ∨ j = 6 by omega) with rfl | rfl | rfl | rfl | rfl | rfl
    · exact absurd rfl hij
    · exact n1_2
    · exact n1_3
    · exact n4_1.symm
    · exact n5_1.symm
    · exact n6_1.symm
    · exact n1_2.symm
    · exact absurd rfl hij
    · exact n2_3
    · exact n4_2.symm
    · exact n5_2.symm
    · exact n6_2.symm
    · exact n1_3.symm
    · exact n2_3.symm
    · exact absurd rfl hij
    · exact n4_3.symm
    · exact n5_3.symm
    · exact n6_3.symm
    · exact n4_1
    · exact n4_2
    · exact n4_3
    · exact absurd rfl hij
    · exact n4_5
    · exact n4_6
    · exact n5_1
    · exact n5_2
    · exact n5_3
    · exact n4_5.symm
    · exact absurd rfl hij
    · exact n5_6
    · exact n6_1
    · exact n6_2
    · exact n6_3
    · exact n4_6.symm
    · exact n5_6.symm
    · exact absurd rfl hij
  · intro i h1 h2
    rcases (show i = 1 ∨ i = 2 ∨ i = 3 ∨ i = 4 ∨ i = 5 ∨ i = 6 by omega) with rfl | rfl | rfl | rfl | rfl | rfl
    · exact b1
    · exact b2
    · exact b3
    · exact b4
    · exact b5
    · exact b6
theorem gTabR : Tryz.prog.globalNamed "warden/wardenref02.K" = some 9 := by kernel_rfl
theorem gTabRType : (Tryz.prog.globals[9]?).map (·.type) = some 208 := by kernel_rfl
theorem tabR_of {rest : List (String × DataW Unit)} {W : World} {ps : List MemPlace} (h : DataW.LaidVars Tryz.prog W (("warden/wardenref02.K", Rows.laid_warden_wardenref02_K) :: rest) ps) : TabR W := by
  have hT : Lib.TabIs Tryz.prog W "warden/wardenref02.K" .u32 S.K := tab_vars (rest := rest) gTabR gTabRType Tryz.underlying208 Tryz.underlying25 cells25 cells208 h
  have hc : ∀ i : Nat, i < 64 → W.cell? ⟨9, i, none⟩ = some (.int .u32 (S.K.getD i 0)) := fun i hi => hT.cell gTabR i hi
  exact fun i hi => by rw [Nat.zero_add]; exact hc i hi
end Go.Proofs.YtbpdmkohihgnjaaGreatDoor
