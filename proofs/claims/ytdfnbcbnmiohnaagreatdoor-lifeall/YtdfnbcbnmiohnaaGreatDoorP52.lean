import Derived.Test.YtdfnbcbnmiohnaaGreatDoorP44
import Derived.Test.YtdfnbcbnmiohnaaGreatDoorCards
import Derived.Test.YtdfnbcbnmiohnaaGreatDoorTie
import Derived.ProofKit
import Derived.OpenShut
import Derived.ShutString
import Derived.ChangeOld
import Derived.Below
import Derived.Deep.DeepHandedRow
import Derived.SizedLaws
import Derived.Lib.LaidTab
import Derived.Test.YtdfnbcbnmiohnaaGreatDoorP15
namespace Go.Proofs.YtdfnbcbnmiohnaaGreatDoor
open Go.ChangeShapes Go.WideShapes Go.ChangeAt Go.RowKit
theorem own : ownKnob Tryz.prog.godebug = none := by kernel_rfl
theorem laidOut : laidOutB Tryz.prog = true := by kernel_rfl
theorem gTab : Tryz.prog.globalNamed "warden/sha.roundWords" = some 0 := by kernel_rfl
theorem gTabType : (Tryz.prog.globals[0]?).map (·.type) = some 234 := by kernel_rfl
theorem celA : Tryz.prog.cellsOf 234 = 64 := by kernel_rfl
theorem celW : Tryz.prog.cellsOf 43 = 1 := by kernel_rfl
theorem celI : Tryz.prog.cellsOf 3 = 1 := by kernel_rfl
theorem tab_of {rest : List (String × DataW Unit)} {W : World} (h : laidMet Tryz.prog (("warden/sha.roundWords", Rows.laid_warden_sha_roundWords) :: rest) W) : H.Tab W := by
  have hT : Lib.TabIs Tryz.prog W "warden/sha.roundWords" .u32 H.S.K := Lib.tabIs_of_head (rest := rest) gTab gTabType Tryz.underlying234 Tryz.underlying43 celW celA h
  have hc : ∀ i : Nat, i < 64 → W.cell? ⟨0, i, none⟩ = some (.int .u32 (H.S.K.getD i 0)) := fun i hi => hT.cell gTab i hi
  exact fun i hi => by rw [Nat.zero_add]; exact hc i hi
theorem size_of_shape {W : World} (h : W.ShapedOpen Tryz.prog) : 1 < W.heap.size := by
  have h0 : ((begin Tryz.prog (fun _ _ => 0) default).world.heap[1]?).bind Obj.row? = some (#[.int .u32 0, .int .u32 0, .int .u32 0, .int .u32 0, .int .u32 0, .int .u32 0, .int .u32 0, .int .u32 0, .int .u32 0, .int .u32 0, .int .u32 0, .int .u32 0, .int .u32 0, .int .u32 0, .int .u32 0, .int .u32 0, .int .u32 0, .int .u32 0, .int .u32 0, .int .u32 0, .int .u32 0, .int .u32 0, .int .u32 0, .int .u32 0, .int .u32 0, .int .u32 0, .int .u32 0, .int .u32 0, .int .u32 0, .int .u32 0, .int .u32 0, .int .u32 0, .int .u32 0, .int .u32 0, .int .u32 0, .int .u32 0, .int .u32 0, .int .u32 0, .int .u32 0, .int .u32 0, .int .u32 0, .int .u32 0, .int .u32 0, .int .u32 0, .int .u32 0, .int .u32 0, .int .u32 0, .int .u32 0, .int .u32 0, .int .u32 0, .int .u32 0, .int .u32 0, .int .u32 0, .int .u32 0, .int .u32 0, .int .u32 0, .int .u32 0, .int .u32 0, .int .u32 0, .int .u32 0, .int .u32 0, .int .u32 0, .int .u32 0, .int .u32 0], 234) := by kernel_rfl
  obtain ⟨cs, hh, _, _⟩ := h.1 1 _ _ (by rw [show Tryz.prog.globals.size = 2 from by kernel_rfl]; decide) h0
  exact (Array.getElem?_eq_some_iff.1 hh).1
theorem trodAll_below {H : Type} {enc : TypeId × Value → H} {P : Program} (hl : laidOutB P = true) {W W' : World} (hb : Below W.heap.size W W') (ts : List TypeId) : ∀ {vs : List Value} {ds : List (DataW H)} {ps : List MemPlace},
    (ts.all fun t => P.readableRec t && decide (t < P.types.size)) = true → DataW.TrodAll enc P W 0 (fun _ => true) true ts vs ds ps → (∀ x ∈ ps, x.block < W.heap.size) →
    DataW.TrodAll enc P W' 0 (fun b => decide (b < W.heap.size)) true ts vs ds ps := by
  induction ts with
  | nil =>
    intro vs ds ps _ h _
    obtain ⟨rfl, rfl, rfl⟩ := trodAll_nil h
    exact trodAll_mk0
  | cons t ts ih =>
    intro vs ds ps ht h hlt
    obtain ⟨v0, vs0, d0, ds0, p0, q0, rfl, rfl, rfl, h0, r0⟩ := trodAll_cons h
    simp only [List.all_cons, Bool.and_eq_true, decide_eq_true_eq] at ht
    exact trodAll_cons_mk (Below.trod hl ht.1.1 ht.1.2 h0 hb (fun x hx => hlt x (by simp [hx]))) (ih (by simpa using ht.2) r0 (fun x hx => hlt x (by simp [hx])))
theorem law_post {H : Type} {enc : TypeId × Value → H} {f : Func} {s : ChangeSpec} {W W' : World} {args : Array Value} {ds gs : List (DataW H)} {before : List MemPlace}
    (hts : (f.params.toList.all fun t => Tryz.prog.readableRec t && decide (t < Tryz.prog.types.size)) = true) (hr : f.resultTypes = #[4]) (hv : s.vars = [])
    (hs : s.fn H (ds ++ gs) = { results := [.lit (.bool true)], args := ds })
    (hW : DataW.Whole enc Tryz.prog f.params.toList s.vars false W args.toList ds gs before) (hb : Below W.heap.size W W') :
    s.post enc Tryz.prog f false true false false W args (.bool true) W' := by
  have hW' := hW
  have hlt := hW.lt
  obtain ⟨p, q, hA, hV, rfl, hfz, hnd⟩ := hW
  rw [hv] at hV
  obtain ⟨rfl, rfl⟩ := trodVars_none hV
  rw [List.append_nil] at hlt
  refine ⟨ds, [], _, [], p, [], hW', ?_, ?_, ?_, hb.frame _, fun h => by cases h⟩
  · rw [hs, hr]
    exact trodAll_mk1 (shut_bool Tryz.underlying4 _)
  · rw [hs]
    exact trodAll_below laidOut hb _ hts hA hlt
  · rw [hs, hv]
    rfl
theorem lit_u32 {n : Int} (h : (Lit.int .u32 n).wf = true) : 0 ≤ n ∧ n < 4294967296 := by
  simp only [Lit.wf, IntKind.min, IntKind.max, IntKind.signed, IntKind.bits, Bool.and_eq_true] at h
  obtain ⟨h1, h2⟩ := h
  simp at h1 h2
  omega
set_option maxRecDepth 100000 in
theorem open_slice {H : Type} {enc : TypeId × Value → H} {W : World} {fuel : Nat} {held : Bool} {cs0 : List Value} {y0 : DataW H × List MemPlace} {t e : TypeId} {st : Nat} (ht : Tryz.prog.underlying t = some (.slice e)) (hce : Tryz.prog.cellsOf e = st) (hst : 0 < st)
    (hf : DataW.trod enc Tryz.prog W 0 (fun _ => true) held fuel t cs0 = some y0) :
    ∃ (ao : Option Addr) (n cap b off : Nat), cs0 = [.slice ao n cap] ∧ n ≤ cap ∧ (0 < n → ao = some ⟨b, off, none⟩ ∧ b < W.heap.size) ∧
      (∀ k, k < n → ∃ cs m y, W.rangeAt b (off + k * st) cs ∧ DataW.trod enc Tryz.prog W 0 (fun _ => true) held m e cs = some y) ∧ (n = 0 ∨ ∃ elems spare, y0.1 = .slice elems spare ∧ elems.length = n) := by
  rcases DataW.trod_slice ht hf with ⟨hcs, hx⟩ | ⟨a, len, cap', elems, rest, m, rfl, hcs, hx, hb0, hl, hm, hlen, hel, hsp, hns⟩
  · exact ⟨none, 0, 0, 0, 0, hcs, Nat.le_refl _, fun h => absurd h (by decide), fun k hk => absurd hk (by omega), .inl rfl⟩
  · rw [hce] at hel
    have hd : len = 0 ∨ ∃ es sp, y0.1 = .slice es sp ∧ es.length = len := .inr ⟨_, _, by rw [hx], by rw [List.length_map]; exact hlen⟩
    rcases Nat.eq_zero_or_pos len with h0 | hn
    · subst h0
      exact ⟨_, 0, _, 0, 0, hcs, hl, fun h => absurd h (by decide), fun k hk => absurd hk (by omega), .inl rfl⟩
    · have each : ∀ k (hk : k < len), ∃ cs y, W.cells? 0 (a.add (k * st)) st = some cs ∧ DataW.trod enc Tryz.prog W 0 (fun _ => true) held m e cs = some y := fun k hk => by
        have he := hel k hk
        obtain ⟨y, hy⟩ : ∃ y, elems[k]? = some y := ⟨elems[k], List.getElem?_eq_getElem (by omega)⟩
        rw [hy] at he
        obtain ⟨cs, h1, h2⟩ := Option.bind_eq_some_iff.1 he
        exact ⟨cs, y, h1, h2⟩
      obtain ⟨b, off, spot⟩ := a
      have hspot : spot = none := by
        obtain ⟨cs, y, h1, _⟩ := each 0 hn
        have := (World.cells?_some h1).2.2 0 hst
        have hc := (World.cells?_some h1).2.1
        rw [List.getElem?_eq_getElem (by omega)] at this
        simpa [Addr.add] using World.cell?_spot this
      subst hspot
      have hadd : ∀ i j, ((⟨b, off, none⟩ : Addr).add i).add j = ⟨b, off + i + j, none⟩ := fun i j => by rw [Addr.add_mid, Addr.add_mid]
      have hblk : b < W.heap.size := by
        obtain ⟨cs, y, h1, _⟩ := each 0 hn
        have := World.cells?_block h1 hst
        simpa [Addr.add] using this
      refine ⟨_, len, cap', b, off, hcs, hl, fun _ => ⟨rfl, hblk⟩, fun k hk => ?_, hd⟩
      obtain ⟨cs, y, h1, h2⟩ := each k hk
      refine ⟨cs, m, y, fun j v hv => ?_, h2⟩
      have hj : j < st := by have := (List.getElem?_eq_some_iff.1 hv).1; have := (World.cells?_some h1).2.1; omega
      have := (World.cells?_some h1).2.2 j hj
      rw [hadd] at this
      rw [this, hv]
theorem pick {Q : Nat → Int → Prop} (n : Nat) (h : ∀ k, k < n → ∃ x, Q k x) : ∃ f : Nat → Int, ∀ k, k < n → Q k (f k) :=
  ⟨fun k => if hk : k < n then (h k hk).choose else 0, fun k hk => by simp only [hk, dif_pos]; exact (h k hk).choose_spec⟩
theorem pickA {α : Type} [Inhabited α] {Q : Nat → α → Prop} (n : Nat) (h : ∀ k, k < n → ∃ x, Q k x) : ∃ f : Nat → α, ∀ k, k < n → Q k (f k) :=
  ⟨fun k => if hk : k < n then (h k hk).choose else default, fun k hk => by simp only [hk, dif_pos]; exact (h k hk).choose_spec⟩
theorem celOp : Tryz.prog.cellsOf 48 = 6 := by kernel_rfl
theorem bytesOp : Tryz.prog.bytesOf 48 = 40 := by kernel_rfl
set_option maxRecDepth 100000 in
theorem open_op {H : Type} {enc : TypeId × Value → H} {W : World} {b0 fuel : Nat} {sp : Nat → Bool} {held : Bool} {cs : List Value} {y : DataW H × List MemPlace}
    (h : DataW.trod enc Tryz.prog W b0 sp held fuel 48 cs = some y) : ∃ x : Oq, cs = x.cs ∧ x.Ok := by
  obtain ⟨xs, m, rfl, hy, hlen, hn, hel⟩ := DataW.trod_struct Tryz.underlying48 h
  rw [celOp] at hlen
  have hsz : xs.length = 6 := hn
  match xs, hsz with
  | [x0, x1, x2, x3, x4, x5], _ =>
    have e0 : DataW.trod enc Tryz.prog W b0 sp held m 3 ((cs.drop 0).take (Tryz.prog.cellsOf 3)) = some x0 := hel 0 _ rfl
    have e1 : DataW.trod enc Tryz.prog W b0 sp held m 43 ((cs.drop 1).take (Tryz.prog.cellsOf 43)) = some x1 := hel 1 _ rfl
    have e2 : DataW.trod enc Tryz.prog W b0 sp held m 43 ((cs.drop 2).take (Tryz.prog.cellsOf 43)) = some x2 := hel 2 _ rfl
    have e3 : DataW.trod enc Tryz.prog W b0 sp held m 3 ((cs.drop 3).take (Tryz.prog.cellsOf 3)) = some x3 := hel 3 _ rfl
    have e4 : DataW.trod enc Tryz.prog W b0 sp held m 3 ((cs.drop 4).take (Tryz.prog.cellsOf 3)) = some x4 := hel 4 _ rfl
    have e5 : DataW.trod enc Tryz.prog W b0 sp held m 43 ((cs.drop 5).take (Tryz.prog.cellsOf 43)) = some x5 := hel 5 _ rfl
    rw [celI] at e0 e3 e4
    rw [celW] at e1 e2 e5
    obtain ⟨q0, g0, _, k0⟩ := DataW.trod_int Tryz.underlying3 (show _ = some x0 from e0)
    obtain ⟨q1, g1, _, k1⟩ := DataW.trod_int Tryz.underlying43 (show _ = some x1 from e1)
    obtain ⟨q2, g2, _, k2⟩ := DataW.trod_int Tryz.underlying43 (show _ = some x2 from e2)
    obtain ⟨q3, g3, _, k3⟩ := DataW.trod_int Tryz.underlying3 (show _ = some x3 from e3)
    obtain ⟨q4, g4, _, k4⟩ := DataW.trod_int Tryz.underlying3 (show _ = some x4 from e4)
    obtain ⟨q5, g5, _, k5⟩ := DataW.trod_int Tryz.underlying43 (show _ = some x5 from e5)
    refine ⟨⟨q0, q1, q2, q3, q4, q5⟩, ?_, ⟨(lit_u32 k1).1, (lit_u32 k1).2, (lit_u32 k2).1, (lit_u32 k2).2, (lit_u32 k5).1, (lit_u32 k5).2⟩⟩
    match cs, hlen with
    | [c0, c1, c2, c3, c4, c5], _ =>
      simp at g0 g1 g2 g3 g4 g5
      rw [g0, g1, g2, g3, g4, g5]
      rfl
set_option maxRecDepth 100000 in
theorem open_ops {H : Type} {enc : TypeId × Value → H} {W : World} {base : Nat} {held : Bool} {v : Value} {d : DataW H} {p : List MemPlace}
    (hv : Value.okWide Tryz.prog W .any base 22 v) (h : DataW.Trod enc Tryz.prog W 0 (fun _ => true) held 22 v d p) :
    ∃ (ao : Option Addr) (n cp : Nat) (q : Nat → Oq), v = .slice ao n cp ∧ OpsAt W ao n q ∧ (n = 0 ∨ ∃ elems spare, d = .slice elems spare ∧ elems.length = n) := by
  obtain ⟨ao, n, cp, rfl⟩ := okWide_slice Tryz.underlying22 hv
  obtain ⟨fuel, hf⟩ := h
  obtain ⟨ao', n', cp', b, off, hcs, _, hao, hk, hd⟩ := open_slice Tryz.underlying22 celOp (by decide) hf
  simp only [Value.cells, List.cons.injEq, Value.slice.injEq, and_true] at hcs
  obtain ⟨rfl, rfl, rfl⟩ := hcs
  obtain ⟨F, hF⟩ := pickA (α := Oq) (Q := fun k x => W.rangeAt b (off + k * 6) x.cs ∧ x.Ok) n fun k hkn => by
    obtain ⟨cs, m, y, h1, h2⟩ := hk k hkn
    obtain ⟨x, rfl, hx⟩ := open_op h2
    exact ⟨x, h1, hx⟩
  exact ⟨ao, n, cp, F, rfl, ⟨fun hn => ⟨b, off, (hao hn).1, (hao hn).2, fun j hj => (hF j hj).1⟩, fun j hj => (hF j hj).2⟩, hd⟩
open Go.ChangeShapes Go.WideShapes Go.ChangeAt Go.RowKit
theorem vars_tail {P : Program} {W : World} {x : String × DataW Unit} {r : List (String × DataW Unit)} {ps : List MemPlace} (h : DataW.LaidVars P W (x :: r) ps) : ∃ q, DataW.LaidVars P W r q := by
  obtain ⟨n, d⟩ := x
  obtain ⟨g, t, cs, fuel, p, q, _, _, _, _, h, _⟩ := h
  exact ⟨q, h⟩
theorem tab_vars {P : Program} {W : World} {name : String} {k : IntKind} {zs : List Int} {rest : List (String × DataW Unit)} {g : Nat} {t e : TypeId} {n : Nat} {ps : List MemPlace}
    (hg : P.globalNamed name = some g) (hty : (P.globals[g]?).map (·.type) = some t) (ht : P.underlying t = some (.array n e)) (he : P.underlying e = some (.int k)) (hce : P.cellsOf e = 1) (hct : P.cellsOf t = n)
    (h : DataW.LaidVars P W ((name, Lib.tabData k zs) :: rest) ps) : Lib.TabIs P W name k zs := by
  obtain ⟨g', t', cs, fuel, p, q, hg', ht', hvar, hd, _, _⟩ := h
  obtain rfl := Option.some.inj (hg.symm.trans hg')
  obtain rfl := Option.some.inj (hty.symm.trans ht')
  unfold Lib.TabIs
  rw [hvar, ← Lib.cells_of_tab ht he hce hct hd]
theorem gTabR : Tryz.prog.globalNamed "warden/wardenref02.K" = some 1 := by kernel_rfl
theorem gTabRType : (Tryz.prog.globals[1]?).map (·.type) = some 234 := by kernel_rfl
theorem tabR_of {rest : List (String × DataW Unit)} {W : World} {ps : List MemPlace} (h : DataW.LaidVars Tryz.prog W (("warden/wardenref02.K", Rows.laid_warden_wardenref02_K) :: rest) ps) : H.TabR W := by
  have hT : Lib.TabIs Tryz.prog W "warden/wardenref02.K" .u32 H.S.K := tab_vars (rest := rest) gTabR gTabRType Tryz.underlying234 Tryz.underlying43 celW celA h
  have hc : ∀ i : Nat, i < 64 → W.cell? ⟨1, i, none⟩ = some (.int .u32 (H.S.K.getD i 0)) := fun i hi => hT.cell gTabR i hi
  exact fun i hi => by rw [Nat.zero_add]; exact hc i hi
end Go.Proofs.YtdfnbcbnmiohnaaGreatDoor
