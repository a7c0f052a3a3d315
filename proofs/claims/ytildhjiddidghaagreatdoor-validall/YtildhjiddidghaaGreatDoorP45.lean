import Derived.Test.YtildhjiddidghaaGreatDoorP44
import Derived.Test.YtildhjiddidghaaGreatDoorCards
import Derived.Test.YtildhjiddidghaaGreatDoorTie
import Derived.ProofKit
import Derived.OpenShut
import Derived.ShutString
import Derived.ChangeOld
import Derived.Below
import Derived.Deep.DeepHandedRow
import Derived.SizedLaws
import Derived.Lib.LaidTab
import Derived.Test.YtildhjiddidghaaGreatDoorP26
import Derived.Test.YtildhjiddidghaaGreatDoorP01
import Derived.Test.YtildhjiddidghaaGreatDoorP33
import Derived.Test.YtildhjiddidghaaGreatDoorP27
import Derived.Test.YtildhjiddidghaaGreatDoorP29
import Derived.Test.YtildhjiddidghaaGreatDoorP14
namespace Go.Proofs.YtildhjiddidghaaGreatDoor
open Go.ChangeShapes Go.WideShapes Go.ChangeAt Go.RowKit
theorem own : ownKnob Tryz.prog.godebug = none := by kernel_rfl
theorem laidOut : laidOutB Tryz.prog = true := by kernel_rfl
theorem gTab : Tryz.prog.globalNamed "warden/sha.roundWords" = some 2 := by kernel_rfl
theorem gTabType : (Tryz.prog.globals[2]?).map (·.type) = some 196 := by kernel_rfl
theorem celA : Tryz.prog.cellsOf 196 = 64 := by kernel_rfl
theorem celW : Tryz.prog.cellsOf 22 = 1 := by kernel_rfl
theorem celI : Tryz.prog.cellsOf 3 = 1 := by kernel_rfl
theorem tab_of {rest : List (String × DataW Unit)} {W : World} (h : laidMet Tryz.prog (("warden/sha.roundWords", Rows.laid_warden_sha_roundWords) :: rest) W) : H.Tab W := by
  have hT : Lib.TabIs Tryz.prog W "warden/sha.roundWords" .u32 H.S.K := Lib.tabIs_of_head (rest := rest) gTab gTabType Tryz.underlying196 Tryz.underlying22 celW celA h
  have hc : ∀ i : Nat, i < 64 → W.cell? ⟨2, i, none⟩ = some (.int .u32 (H.S.K.getD i 0)) := fun i hi => hT.cell gTab i hi
  exact fun i hi => by rw [Nat.zero_add]; exact hc i hi
theorem size_of_shape {W : World} (h : W.ShapedOpen Tryz.prog) : 2 < W.heap.size := by
  have h0 : ((begin Tryz.prog (fun _ _ => 0) default).world.heap[2]?).bind Obj.row? = some (#[.int .u32 0, .int .u32 0, .int .u32 0, .int .u32 0, .int .u32 0, .int .u32 0, .int .u32 0, .int .u32 0, .int .u32 0, .int .u32 0, .int .u32 0, .int .u32 0, .int .u32 0, .int .u32 0, .int .u32 0, .int .u32 0, .int .u32 0, .int .u32 0, .int .u32 0, .int .u32 0, .int .u32 0, .int .u32 0, .int .u32 0, .int .u32 0, .int .u32 0, .int .u32 0, .int .u32 0, .int .u32 0, .int .u32 0, .int .u32 0, .int .u32 0, .int .u32 0, .int .u32 0, .int .u32 0, .int .u32 0, .int .u32 0, .int .u32 0, .int .u32 0, .int .u32 0, .int .u32 0, .int .u32 0, .int .u32 0, .int .u32 0, .int .u32 0, .int .u32 0, .int .u32 0, .int .u32 0, .int .u32 0, .int .u32 0, .int .u32 0, .int .u32 0, .int .u32 0, .int .u32 0, .int .u32 0, .int .u32 0, .int .u32 0, .int .u32 0, .int .u32 0, .int .u32 0, .int .u32 0, .int .u32 0, .int .u32 0, .int .u32 0, .int .u32 0], 196) := by kernel_rfl
  obtain ⟨cs, hh, _, _⟩ := h.1 2 _ _ (by rw [show Tryz.prog.globals.size = 3 from by kernel_rfl]; decide) h0
  exact (Array.getElem?_eq_some_iff.1 hh).1
theorem trodAll_below {H : Type} {enc : TypeId × Value → H} {P : Program} (hl : laidOutB P = true) {W W' : World} (hb : Below W.heap.size W W') (ts : List TypeId) : ∀ {vs : List Value} {ds : List (DataW H)} {ps : List MemPlace},
    (ts.all fun t => P.readableRec t && decide (t < P.types.size)) = true → DataW.TrodAll enc P W 0 (fun _ => true) true ts vs ds ps → (∀ x ∈ ps, x.block < W.heap.size) →
    DataW.TrodAll enc P W' 0 (fun b => decide (b < W.heap.size)) true ts vs ds ps := by
  induction ts with
  | nil =>
    intro vs ds ps _ h _
    obtain ⟨rfl, rfl, rfl⟩ := trodAll_nil h
    exact trodAll_mk0
  | cons t ts ih =>
    intro vs ds ps ht h hlt
    obtain ⟨v0, vs0, d0, ds0, p0, q0, rfl, rfl, rfl, h0, r0⟩ := trodAll_cons h
    simp only [List.all_cons, Bool.and_eq_true, decide_eq_true_eq] at ht
    exact trodAll_cons_mk (Below.trod hl ht.1.1 ht.1.2 h0 hb (fun x hx => hlt x (by simp [hx]))) (ih (by simpa using ht.2) r0 (fun x hx => hlt x (by simp [hx])))
theorem law_post {H : Type} {enc : TypeId × Value → H} {f : Func} {s : ChangeSpec} {W W' : World} {args : Array Value} {ds gs : List (DataW H)} {before : List MemPlace}
    (hts : (f.params.toList.all fun t => Tryz.prog.readableRec t && decide (t < Tryz.prog.types.size)) = true) (hr : f.resultTypes = #[4]) (hv : s.vars = [])
    (hs : s.fn H (ds ++ gs) = { results := [.lit (.bool true)], args := ds })
    (hW : DataW.Whole enc Tryz.prog f.params.toList s.vars false W args.toList ds gs before) (hb : Below W.heap.size W W') :
    s.post enc Tryz.prog f false true false false W args (.bool true) W' := by
  have hW' := hW
  have hlt := hW.lt
  obtain ⟨p, q, hA, hV, rfl, hfz, hnd⟩ := hW
  rw [hv] at hV
  obtain ⟨rfl, rfl⟩ := trodVars_none hV
  rw [List.append_nil] at hlt
  refine ⟨ds, [], _, [], p, [], hW', ?_, ?_, ?_, hb.frame _, fun h => by cases h⟩
  · rw [hs, hr]
    exact trodAll_mk1 (shut_bool Tryz.underlying4 _)
  · rw [hs]
    exact trodAll_below laidOut hb _ hts hA hlt
  · rw [hs, hv]
    rfl
theorem lit_u32 {n : Int} (h : (Lit.int .u32 n).wf = true) : 0 ≤ n ∧ n < 4294967296 := by
  simp only [Lit.wf, IntKind.min, IntKind.max, IntKind.signed, IntKind.bits, Bool.and_eq_true] at h
  obtain ⟨h1, h2⟩ := h
  simp at h1 h2
  omega
set_option maxRecDepth 100000 in
theorem open_slice {H : Type} {enc : TypeId × Value → H} {W : World} {fuel : Nat} {held : Bool} {cs0 : List Value} {y0 : DataW H × List MemPlace} {t e : TypeId} {st : Nat} (ht : Tryz.prog.underlying t = some (.slice e)) (hce : Tryz.prog.cellsOf e = st) (hst : 0 < st)
    (hf : DataW.trod enc Tryz.prog W 0 (fun _ => true) held fuel t cs0 = some y0) :
    ∃ (ao : Option Addr) (n cap b off : Nat), cs0 = [.slice ao n cap] ∧ n ≤ cap ∧ (0 < n → ao = some ⟨b, off, none⟩ ∧ b < W.heap.size) ∧
      (∀ k, k < n → ∃ cs m y, W.rangeAt b (off + k * st) cs ∧ DataW.trod enc Tryz.prog W 0 (fun _ => true) held m e cs = some y) ∧ (n = 0 ∨ ∃ elems spare, y0.1 = .slice elems spare ∧ elems.length = n) := by
  rcases DataW.trod_slice ht hf with ⟨hcs, hx⟩ | ⟨a, len, cap', elems, rest, m, rfl, hcs, hx, hb0, hl, hm, hlen, hel, hsp, hns⟩
  · exact ⟨none, 0, 0, 0, 0, hcs, Nat.le_refl _, fun h => absurd h (by decide), fun k hk => absurd hk (by omega), .inl rfl⟩
  · rw [hce] at hel
    have hd : len = 0 ∨ ∃ es sp, y0.1 = .slice es sp ∧ es.length = len := .inr ⟨_, _, by rw [hx], by rw [List.length_map]; exact hlen⟩
    rcases Nat.eq_zero_or_pos len with h0 | hn
    · subst h0
      exact ⟨_, 0, _, 0, 0, hcs, hl, fun h => absurd h (by decide), fun k hk => absurd hk (by omega), .inl rfl⟩
    · have each : ∀ k (hk : k < len), ∃ cs y, W.cells? 0 (a.add (k * st)) st = some cs ∧ DataW.trod enc Tryz.prog W 0 (fun _ => true) held m e cs = some y := fun k hk => by
        have he := hel k hk
        obtain ⟨y, hy⟩ : ∃ y, elems[k]? = some y := ⟨elems[k], List.getElem?_eq_getElem (by omega)⟩
        rw [hy] at he
        obtain ⟨cs, h1, h2⟩ := Option.bind_eq_some_iff.1 he
        exact ⟨cs, y, h1, h2⟩
      obtain ⟨b, off, spot⟩ := a
      have hspot : spot = none := by
        obtain ⟨cs, y, h1, _⟩ := each 0 hn
        have := (World.cells?_some h1).2.2 0 hst
        have hc := (World.cells?_some h1).2.1
        rw [List.getElem?_eq_getElem (by omega)] at this
        simpa [Addr.add] using World.cell?_spot this
      subst hspot
      have hadd : ∀ i j, ((⟨b, off, none⟩ : Addr).add i).add j = ⟨b, off + i + j, none⟩ := fun i j => by rw [Addr.add_mid, Addr.add_mid]
      have hblk : b < W.heap.size := by
        obtain ⟨cs, y, h1, _⟩ := each 0 hn
        have := World.cells?_block h1 hst
        simpa [Addr.add] using this
      refine ⟨_, len, cap', b, off, hcs, hl, fun _ => ⟨rfl, hblk⟩, fun k hk => ?_, hd⟩
      obtain ⟨cs, y, h1, h2⟩ := each k hk
      refine ⟨cs, m, y, fun j v hv => ?_, h2⟩
      have hj : j < st := by have := (List.getElem?_eq_some_iff.1 hv).1; have := (World.cells?_some h1).2.1; omega
      have := (World.cells?_some h1).2.2 j hj
      rw [hadd] at this
      rw [this, hv]
theorem pick {Q : Nat → Int → Prop} (n : Nat) (h : ∀ k, k < n → ∃ x, Q k x) : ∃ f : Nat → Int, ∀ k, k < n → Q k (f k) :=
  ⟨fun k => if hk : k < n then (h k hk).choose else 0, fun k hk => by simp only [hk, dif_pos]; exact (h k hk).choose_spec⟩
theorem pickA {α : Type} [Inhabited α] {Q : Nat → α → Prop} (n : Nat) (h : ∀ k, k < n → ∃ x, Q k x) : ∃ f : Nat → α, ∀ k, k < n → Q k (f k) :=
  ⟨fun k => if hk : k < n then (h k hk).choose else default, fun k hk => by simp only [hk, dif_pos]; exact (h k hk).choose_spec⟩
theorem vars_tail {P : Program} {W : World} {x : String × DataW Unit} {r : List (String × DataW Unit)} {ps : List MemPlace} (h : DataW.LaidVars P W (x :: r) ps) : ∃ q, DataW.LaidVars P W r q := by
  obtain ⟨n, d⟩ := x
  obtain ⟨g, t, cs, fuel, p, q, _, _, _, _, h, _⟩ := h
  exact ⟨q, h⟩
theorem tab_vars {P : Program} {W : World} {name : String} {k : IntKind} {zs : List Int} {rest : List (String × DataW Unit)} {g : Nat} {t e : TypeId} {n : Nat} {ps : List MemPlace}
    (hg : P.globalNamed name = some g) (hty : (P.globals[g]?).map (·.type) = some t) (ht : P.underlying t = some (.array n e)) (he : P.underlying e = some (.int k)) (hce : P.cellsOf e = 1) (hct : P.cellsOf t = n)
    (h : DataW.LaidVars P W ((name, Lib.tabData k zs) :: rest) ps) : Lib.TabIs P W name k zs := by
  obtain ⟨g', t', cs, fuel, p, q, hg', ht', hvar, hd, _, _⟩ := h
  obtain rfl := Option.some.inj (hg.symm.trans hg')
  obtain rfl := Option.some.inj (hty.symm.trans ht')
  unfold Lib.TabIs
  rw [hvar, ← Lib.cells_of_tab ht he hce hct hd]
theorem gTabR : Tryz.prog.globalNamed "warden/wardenref02.K" = some 1 := by kernel_rfl
theorem gTabRType : (Tryz.prog.globals[1]?).map (·.type) = some 196 := by kernel_rfl
theorem tabR_of {rest : List (String × DataW Unit)} {W : World} {ps : List MemPlace} (h : DataW.LaidVars Tryz.prog W (("warden/wardenref02.K", Rows.laid_warden_wardenref02_K) :: rest) ps) : H.TabR W := by
  have hT : Lib.TabIs Tryz.prog W "warden/wardenref02.K" .u32 H.S.K := tab_vars (rest := rest) gTabR gTabRType Tryz.underlying196 Tryz.underlying22 celW celA h
  have hc : ∀ i : Nat, i < 64 → W.cell? ⟨1, i, none⟩ = some (.int .u32 (H.S.K.getD i 0)) := fun i hi => hT.cell gTabR i hi
  exact fun i hi => by rw [Nat.zero_add]; exact hc i hi
instance : Inhabited Aq := ⟨⟨0, 0, 0, 0, 0, none, 0, 0⟩⟩
theorem celAct : Tryz.prog.cellsOf 42 = 6 := by kernel_rfl
theorem bytesAct : Tryz.prog.bytesOf 42 = 64 := by kernel_rfl
theorem celS : Tryz.prog.cellsOf 40 = 1 := by kernel_rfl
set_option maxRecDepth 100000 in
theorem open_act {H' : Type} {enc : TypeId × Value → H'} {W : World} {fuel : Nat} {held : Bool} {cs : List Value} {y : DataW H' × List MemPlace}
    (h : DataW.trod enc Tryz.prog W 0 (fun _ => true) held fuel 42 cs = some y) : ∃ x : Aq, cs = x.cs ∧ 0 ≤ x.v ∧ x.v < 4294967296 := by
  obtain ⟨xs, m, rfl, hy, hlen, hn, hel⟩ := DataW.trod_struct Tryz.underlying42 h
  rw [celAct] at hlen
  have hsz : xs.length = 6 := hn
  match xs, hsz with
  | [x0, x1, x2, x3, x4, x5], _ =>
    have e0 : DataW.trod enc Tryz.prog W 0 (fun _ => true) held m 3 ((cs.drop 0).take (Tryz.prog.cellsOf 3)) = some x0 := hel 0 _ rfl
    have e1 : DataW.trod enc Tryz.prog W 0 (fun _ => true) held m 3 ((cs.drop 1).take (Tryz.prog.cellsOf 3)) = some x1 := hel 1 _ rfl
    have e2 : DataW.trod enc Tryz.prog W 0 (fun _ => true) held m 3 ((cs.drop 2).take (Tryz.prog.cellsOf 3)) = some x2 := hel 2 _ rfl
    have e3 : DataW.trod enc Tryz.prog W 0 (fun _ => true) held m 3 ((cs.drop 3).take (Tryz.prog.cellsOf 3)) = some x3 := hel 3 _ rfl
    have e4 : DataW.trod enc Tryz.prog W 0 (fun _ => true) held m 22 ((cs.drop 4).take (Tryz.prog.cellsOf 22)) = some x4 := hel 4 _ rfl
    have e5 : DataW.trod enc Tryz.prog W 0 (fun _ => true) held m 40 ((cs.drop 5).take (Tryz.prog.cellsOf 40)) = some x5 := hel 5 _ rfl
    rw [celI] at e0 e1 e2 e3
    rw [celW] at e4
    rw [celS] at e5
    obtain ⟨q0, g0, _, k0⟩ := DataW.trod_int Tryz.underlying3 (show _ = some x0 from e0)
    obtain ⟨q1, g1, _, k1⟩ := DataW.trod_int Tryz.underlying3 (show _ = some x1 from e1)
    obtain ⟨q2, g2, _, k2⟩ := DataW.trod_int Tryz.underlying3 (show _ = some x2 from e2)
    obtain ⟨q3, g3, _, k3⟩ := DataW.trod_int Tryz.underlying3 (show _ = some x3 from e3)
    obtain ⟨q4, g4, _, k4⟩ := DataW.trod_int Tryz.underlying22 (show _ = some x4 from e4)
    obtain ⟨ao, n, cp, _, _, g5, _⟩ := open_slice Tryz.underlying40 celW (by decide) e5
    refine ⟨⟨q0, q1, q2, q3, q4, ao, n, cp⟩, ?_, (lit_u32 k4).1, (lit_u32 k4).2⟩
    match cs, hlen with
    | [c0, c1, c2, c3, c4, c5], _ =>
      simp at g0 g1 g2 g3 g4 g5
      rw [g0, g1, g2, g3, g4, g5]
      rfl
set_option maxRecDepth 100000 in
theorem open_acts {H' : Type} {enc : TypeId × Value → H'} {W : World} {base : Nat} {held : Bool} {v : Value} {d : DataW H'} {p : List MemPlace}
    (hv : Value.okWide Tryz.prog W .any base 36 v) (h : DataW.Trod enc Tryz.prog W 0 (fun _ => true) held 36 v d p) :
    ∃ (ao : Option Addr) (n cp : Nat) (q : Nat → Aq), v = .slice ao n cp ∧ ActsAt W ao n q ∧ (n = 0 ∨ ∃ elems spare, d = .slice elems spare ∧ elems.length = n) := by
  obtain ⟨ao, n, cp, rfl⟩ := okWide_slice Tryz.underlying36 hv
  obtain ⟨fuel, hf⟩ := h
  obtain ⟨ao', n', cp', b, off, hcs, _, hao, hk, hd⟩ := open_slice Tryz.underlying36 celAct (by decide) hf
  simp only [Value.cells, List.cons.injEq, Value.slice.injEq, and_true] at hcs
  obtain ⟨rfl, rfl, rfl⟩ := hcs
  obtain ⟨F, hF⟩ := pickA (α := Aq) (Q := fun k x => W.rangeAt b (off + k * 6) x.cs ∧ 0 ≤ x.v ∧ x.v < 4294967296) n fun k hkn => by
    obtain ⟨cs, m, y, h1, h2⟩ := hk k hkn
    obtain ⟨x, rfl, hx⟩ := open_act h2
    exact ⟨x, h1, hx⟩
  exact ⟨ao, n, cp, F, rfl, ⟨fun hn => ⟨b, off, (hao hn).1, (hao hn).2, fun j hj => (hF j hj).1⟩, fun j hj => (hF j hj).2⟩, hd⟩
end Go.Proofs.YtildhjiddidghaaGreatDoor
namespace Go.Proofs.YtildhjiddidghaaGreatDoor
open Go.RowKit
set_option maxHeartbeats 4000000
set_option maxRecDepth 100000
theorem fframe_d (W : World) (p : Int) : Calls Tryz.prog 178 #[.int .i64 p] W fun x W' => x = .returned (fr true p) ∧ Below W.heap.size W W' := by
  unfold fr
  go_enter Tryz.func178, Tryz.ntmps178
  go_wp2_with fail
  go_returns
  exact ⟨rfl, below_one _ _⟩
theorem word_d (w : World) (p : Rp) (d : DS) (h : RDB w p d) (q off : Int) :
    Calls Tryz.prog 156 #[ptr p.g, .int .i64 q, .int .i64 off] w fun e w' => e = .returned (.int .u32 (d.m.word true q off)) ∧ Below w.heap.size w w' := by
  have HF := hid (fun w => fframe_d w q)
  have HP := hid (fun w' h' => rpeek_any w' p.r d.m h' true q off)
  have E1 := hid (And.intro (h.on (Below.refl _ _).drew) (below_on (Below.refl w.heap.size w) (Below.refl _ _).drew))
  clear h
  simp only [ptr, fr] at *
  generalize d.m.word true q off = u at *
  go_enter Tryz.func156, Tryz.ntmps156
  go_upto_region 1 with fail
  refine wp_region_held_drew (S := fun w => RDB w p d) (by kernel_rfl) E1.out.1 (fun hHeld => ?_)
  generalize World.drew _ = w3 at *
  refine tk 0 (some 7) (.pointer (some ⟨p.g, 0, none⟩)) ?_
  simp only [Act.put, tqA, tqZ, tqS]
  refine tk 1 (some 8) (.pointer (some ⟨p.g, 0, none⟩)) ?_
  simp only [Act.put, tqA, tqZ, tqS]
  refine tk 2 (some 9) (.pointer (some ⟨p.g, 0, none⟩)) ?_
  simp only [Act.put, tqA, tqZ, tqS]
  refine tk 3 (some 10) (.pointer (some ⟨p.r.g, 0, none⟩)) ?_ (hy := Or.inl ⟨by rfl, by intro w hSw; have hc := hSw.c0; go_simp⟩)
  simp only [Act.put, tqA, tqZ, tqS]
  refine tk 4 (some 11) (.int .i64 q) ?_
  simp only [Act.put, tqA, tqZ, tqS]
  refine tk 6 (some 13) (.int .i64 off) ?_
  simp only [Act.put, tqA, tqZ, tqS]
  refine wpAnyH_ready (rs := [5]) (by kernel_rfl) (by simp) (AllReadyH.cons (o := ⟨some 12, .call { callee := .value (.func 178), args := #[.tmp 11], argTypes := #[3] }, 64, "ref.go:24", #[⟨4, .data⟩], none⟩) rfl (fun KQ hK => ?_) AllReadyH.nil)
  go_simp
  refine (HF.out _).mono ?_
  rintro e w4 ⟨rfl, hb⟩
  have E2 := hid (And.intro (E1.out.1.on hb) (below_on E1.out.2 hb))
  clear hb E1
  go_wp2_with fail
  refine hK.out _ _ E2.out.1 (fun hHeld => ?_)
  clear hK KQ
  try simp only [Act.put, tqA, tqZ, tqS]
  refine wpAnyH_ready (rs := [7]) (by kernel_rfl) (by simp) (AllReadyH.cons (o := ⟨some 14, .call { callee := .value (.func 177), args := #[.tmp 10, .tmp 12, .tmp 13], argTypes := #[59, 64, 3] }, 22, "ref.go:24", #[⟨3, .data⟩, ⟨5, .data⟩, ⟨6, .data⟩, ⟨5, .chain⟩], none⟩) rfl (fun KQ hK => ?_) AllReadyH.nil)
  go_simp
  refine (HP.out _ E2.out.1.mem).mono ?_
  rintro e w5 ⟨rfl, hb⟩
  have E3 := hid (And.intro (E2.out.1.on hb) (below_on E2.out.2 hb))
  clear hb E2
  go_wp2_with fail
  refine hK.out _ _ E3.out.1 (fun hHeld => ?_)
  clear hK KQ
  try simp only [Act.put, tqA, tqZ, tqS]
  refine wpAnyH_ready (rs := [8]) (by kernel_rfl) (by simp) (AllReadyH.cons (o := ⟨some 6, .assign (.tmp 14), 22, "ref.go:24", #[⟨7, .data⟩, ⟨7, .chain⟩, ⟨0, .phase⟩, ⟨1, .phase⟩, ⟨2, .phase⟩, ⟨3, .phase⟩, ⟨4, .phase⟩, ⟨5, .phase⟩, ⟨6, .phase⟩, ⟨7, .phase⟩], none⟩) rfl (fun KQ hK => ?_) AllReadyH.nil)
  go_simp
  refine hK.out _ _ E3.out.1 (fun hHeld => ?_)
  clear hK KQ
  try simp only [Act.put, tqA, tqZ, tqS]
  refine wpAnyH_done (by kernel_rfl) ?_ _
  go_wp2_with fail
  go_ret
  exact ⟨rfl, E3.out.2⟩
theorem zero_d (w : World) (p : Rp) (d : DS) (h : RDB w p d) (q : Int) (lo hi : Nat) (h1 : lo ≤ 1024) (h2 : hi ≤ 1024) :
    Calls Tryz.prog 126 #[ptr p.g, .int .i64 q, .int .i64 (lo : Int), .int .i64 (hi : Int)] w fun e w' => e = .returned (.bool (d.zr q lo hi)) ∧ Below w.heap.size w w' := by
  have HV := hid h
  have HW := hid (fun w h off => word_d w p d h q off)
  have H1 := hid (And.intro h1 h2)
  have HY : Hid ((∀ k, lo ≤ k → k < hi → d.m.word true q (k : Int) = 0) → d.zr q lo hi = true) := hid DS.zr_yes
  have HN := hid (fun k a b c => DS.zr_no (d := d) (q := q) (lo := lo) (hi := hi) (k := k) a b c)
  clear h h1 h2
  simp only [ptr] at *
  generalize d.zr q lo hi = z at *
  go_enter Tryz.func126, Tryz.ntmps126
  go_wp2_with fail
  go_loopw [9] (fun i wr => ∃ j : Nat, lo ≤ j ∧ i = .int .i64 (j : Int) ∧ Hid (Below w.heap.size w wr ∧ (j ≤ hi ∨ j = lo) ∧ ∀ k, lo ≤ k → k < j → d.m.word true q (k : Int) = 0)) (fun i _ => hi - (intOf i).toNat)
  case atStart => exact ⟨lo, Nat.le_refl _, rfl, hid ⟨Below.refl _ _, .inr rfl, by intro k h h'; omega⟩⟩
  case round =>
    obtain ⟨j, hj, rfl, HQ⟩ := hrel
    by_cases hlt : j < hi
    · have q1 : (j : Int) < (hi : Int) := by omega
      have hh := H1.out
      have j4 : (j : Int) ≤ 1024 := by omega
      have HWj := hid (HW.out _ (HV.out.on HQ.out.1) (j : Int))
      have HJ := hid (And.intro hj hlt)
      clear hlt hj hh
      generalize hu : d.m.word true q (j : Int) = u at *
      have HU := hid hu
      clear hu
      by_cases hz : u = 0
      · subst hz
        go_wp2_with (go_at_call 156; refine HWj.out.mono ?_; rintro e w1 ⟨rfl, hb⟩; have HB := hid (below_on HQ.out.1 hb); clear hb)
        go_roundw
        case measure => have := HJ.out; simp [intOf] <;> omega
        case rel => exact ⟨j + 1, by have := HJ.out; omega, by simp, hid ⟨HB.out, .inl (by have := HJ.out; omega), fun k a b => by
          by_cases e : k = j
          · rw [e]; exact HU.out
          · exact HQ.out.2.2 k a (by omega)⟩⟩
      · have hz' : (u != 0) = true := by simpa using hz
        have HF := hid (HN.out j HJ.out.1 HJ.out.2 (by rw [HU.out]; exact hz))
        clear hz
        go_wp2_with (go_at_call 156; refine HWj.out.mono ?_; rintro e w1 ⟨rfl, hb⟩; have HB := hid (below_on HQ.out.1 hb); clear hb)
        go_ret
        rw [HF.out]
        exact ⟨rfl, HB.out⟩
    · have q1 : ¬ ((j : Int) < (hi : Int)) := by omega
      have HF := hid (HY.out (fun k a b => HQ.out.2.2 k a (by omega)))
      clear hlt hj
      go_wp2_with fail
      go_ret
      rw [HF.out]
      exact ⟨rfl, HQ.out.1⟩
theorem is_d (W : World) (p : Rp) (d : DS) (h : RDB W p d) (q t : Int) : Calls Tryz.prog 127 #[ptr p.g, .int .i64 q, .int .i64 t] W fun e W' => e = .returned (.bool (d.there q && ((d.ent q).t == t))) ∧ W = W' := by
  have c1 := h.c1
  by_cases hq : d.there q = true
  · obtain ⟨q0, q1, eq⟩ := there_lt hq
    rw [hq, ent_at hq]
    obtain ⟨r0, _, _, _, _⟩ := h.row q.toNat q1
    generalize q.toNat = k at *
    subst eq
    generalize (d.at k).t = dt at *
    have q2 : (k : Int) < (d.m.ns : Int) := by omega
    generalize d.m.ns = n at *
    clear h hq
    simp only [ptr, Bool.true_and] at *
    go_enter Tryz.func127, Tryz.ntmps127
    go_wp2_with fail
    go_ret
    exact ⟨rfl, rfl⟩
  · have hq' : d.there q = false := by simpa using hq
    rw [hq']
    have hc : q < 0 ∨ (0 ≤ q ∧ (d.m.ns : Int) ≤ q) := by
      have := of_decide_eq_false hq'
      omega
    clear h hq hq'
    simp only [ptr, Bool.false_and] at *
    generalize d.m.ns = n at *
    rcases hc with hc | ⟨h0, hc⟩
    · go_enter Tryz.func127, Tryz.ntmps127
      go_wp2_with fail
      go_ret
      exact ⟨rfl, rfl⟩
    · go_enter Tryz.func127, Tryz.ntmps127
      go_wp2_with fail
      go_ret
      exact ⟨rfl, rfl⟩
theorem of_d (W : World) (p : Rp) (d : DS) (h : RDB W p d) (q t o : Int) : Calls Tryz.prog 158 #[ptr p.g, .int .i64 q, .int .i64 t, .int .i64 o] W fun e W' => e = .returned (.bool (d.there q && ((d.ent q).t == t) && ((d.ent q).o == o))) ∧ W = W' := by
  have HI := hid (is_d W p d h q t)
  have c1 := h.c1
  by_cases hq : d.there q = true
  · obtain ⟨q0, q1, eq⟩ := there_lt hq
    rw [ent_at hq, hq] at HI; rw [ent_at hq, hq]
    obtain ⟨_, r1, _, _, _⟩ := h.row q.toNat q1
    generalize q.toNat = k at *
    subst eq
    simp only [ptr, Bool.true_and] at *
    generalize (d.at k).o = b at *
    generalize ((d.at k).t == t) = z at *
    have q2 : (k : Int) < (d.m.ns : Int) := by omega
    generalize d.m.ns = n at *
    clear h hq
    cases z
    · go_enter Tryz.func158, Tryz.ntmps158
      go_wp2_with (go_at_call 127; refine HI.out.mono ?_; rintro e w1 ⟨rfl, rfl⟩)
      go_ret
      exact ⟨rfl, rfl⟩
    · go_enter Tryz.func158, Tryz.ntmps158
      go_wp2_with (go_at_call 127; refine HI.out.mono ?_; rintro e w1 ⟨rfl, rfl⟩)
      go_ret
      exact ⟨rfl, rfl⟩
  · have hq' : d.there q = false := by simpa using hq
    rw [hq'] at HI; rw [hq']
    clear h hq hq' c1
    simp only [ptr, Bool.false_and] at *
    go_enter Tryz.func158, Tryz.ntmps158
    go_wp2_with (go_at_call 127; refine HI.out.mono ?_; rintro e w1 ⟨rfl, rfl⟩)
    go_ret
    exact ⟨rfl, rfl⟩
theorem alive_d (W : World) (p : Rp) (d : DS) (h : RDB W p d) (k : Nat) (hk : k < d.m.ns) : Calls Tryz.prog 132 #[ptr p.g, .int .i64 (k : Int)] W fun e W' => e = .returned (.bool (d.there (d.at k).o && ((d.ent (d.at k).o).t == 1) && ((d.ent (d.at k).o).s != 3))) ∧ W = W' := by
  have HI := hid (is_d W p d h (d.at k).o 1)
  have c1 := h.c1
  obtain ⟨_, r1, _, _, _⟩ := h.row k hk
  have p2 : (k : Int) < (d.m.ns : Int) := by omega
  generalize (d.at k).o = q at *
  by_cases hq : d.there q = true
  · obtain ⟨q0, q1, eq⟩ := there_lt hq
    rw [ent_at hq, hq] at HI; rw [ent_at hq, hq]
    obtain ⟨_, _, _, s1, _⟩ := h.row q.toNat q1
    generalize q.toNat = j at *
    subst eq
    simp only [ptr, Bool.true_and] at *
    generalize (d.at j).s = b at *
    generalize ((d.at j).t == 1) = z at *
    have q2 : (j : Int) < (d.m.ns : Int) := by omega
    generalize d.m.ns = n at *
    clear h hq hk
    cases z
    · go_enter Tryz.func132, Tryz.ntmps132
      go_wp2_with (go_at_call 127; refine HI.out.mono ?_; rintro e w1 ⟨rfl, rfl⟩)
      go_ret
      exact ⟨rfl, rfl⟩
    · go_enter Tryz.func132, Tryz.ntmps132
      go_wp2_with (go_at_call 127; refine HI.out.mono ?_; rintro e w1 ⟨rfl, rfl⟩)
      go_ret
      exact ⟨rfl, rfl⟩
  · have hq' : d.there q = false := by simpa using hq
    rw [hq'] at HI; rw [hq']
    clear h hq hq' hk
    simp only [ptr, Bool.false_and] at *
    generalize d.m.ns = n at *
    go_enter Tryz.func132, Tryz.ntmps132
    go_wp2_with (go_at_call 127; refine HI.out.mono ?_; rintro e w1 ⟨rfl, rfl⟩)
    go_ret
    exact ⟨rfl, rfl⟩
end Go.Proofs.YtildhjiddidghaaGreatDoor
namespace Go.Proofs.YtildhjiddidghaaGreatDoor
open Go.RowKit
set_option maxHeartbeats 4000000
set_option maxRecDepth 100000
theorem births_d (w : World) (p : Rp) (d : DS) (h : RDB w p d) (hU : d.m.U) (k : Nat) (hk : k < d.m.ns) :
    Calls Tryz.prog 129 #[ptr p.g, .int .i64 (k : Int)] w fun e w' => e = .returned (.bool (d.born1 k)) ∧ Below w.heap.size w w' := by
  have HV := hid h
  have HW1 : Hid (∀ w (j : Nat), RDB w p d → Calls Tryz.prog 156 #[ptr p.g, .int .i64 (j : Int), .int .i64 1] w fun e w' => e = .returned (.int .u32 (d.w j 1)) ∧ Below w.heap.size w w') := hid (fun w j h => word_d w p d h (j : Int) 1)
  have HW2 : Hid (∀ w, RDB w p d → Calls Tryz.prog 156 #[ptr p.g, .int .i64 (k : Int), .int .i64 2] w fun e w' => e = .returned (.int .u32 (d.w k 2)) ∧ Below w.heap.size w w') := hid (fun w h => word_d w p d h (k : Int) 2)
  have HC1 := hid (fun w (h : RDB w p d) => h.c1)
  have HC2 := hid (fun w (h : RDB w p d) => h.c2)
  have HRw := hid (fun w (h : RDB w p d) j hj => (h.row j hj).1)
  have n64 := h.ok.n64
  have HK := hid (And.intro hk n64)
  have hu : 0 ≤ d.w k 1 ∧ d.w k 1 < 4294967296 := hU.word _ _ _
  have wu : IntKind.wrap .i64 (d.w k 1) = d.w k 1 := by rw [IntKind.wrap_i64]; omega
  have HBo : Hid (d.born1 k = (!((List.range k).any (d.like k)) && (decide (d.w k 1 < d.b) && decide (d.w k 2 ≤ 4096)))) := hid rfl
  have HLk : Hid (∀ j, d.like k j = (((d.at j).t == 1) && (d.w j 1 == d.w k 1))) := hid (fun _ => rfl)
  clear h hk n64 hu hU
  generalize d.born1 k = z at *
  generalize hA : d.like k = A at *
  clear hA
  simp only [ptr] at *
  have HWk := hid (HW1.out · k ·)
  generalize d.w k 1 = u at *
  generalize d.w k 2 = y2 at *
  go_enter Tryz.func129, Tryz.ntmps129
  go_upto_region 2 with (go_at_call 156; refine (HWk.out _ HV.out).mono ?_; rintro e w1 ⟨rfl, hb⟩; have B1 := hid hb; clear hb)
  have HV1 := hid (HV.out.on B1.out)
  have x2 := HC2.out _ HV1.out
  by_cases hub : u < d.b
  · have hub' : ¬ (d.b ≤ u) := by omega
    by_cases hy2 : y2 ≤ 4096
    · have hy2' : ¬ (4096 < y2) := by omega
      rw [decide_eq_true hub, decide_eq_true hy2] at HBo
      clear hub
      go_upto_region 5 with (go_at_call 156; refine (HW2.out _ HV1.out).mono ?_; rintro e w2 ⟨rfl, hb⟩; have B2 := hid (below_on B1.out hb); clear hb)
      clear x2 HV1 B1 hub' hy2 hy2'
      go_loopw [6] (fun i wr => ∃ j : Nat, j ≤ k ∧ i = .int .i64 (j : Int) ∧ Hid (Below w.heap.size w wr ∧ ∀ q, q < j → A q = false)) (fun i _ => k - (intOf i).toNat)
      case atStart => exact ⟨0, Nat.zero_le _, rfl, hid ⟨B2.out, by intro q hq; omega⟩⟩
      case round =>
        obtain ⟨j, hj, rfl, HQ⟩ := hrel
        clear B2
        have HVj := hid (HV.out.on HQ.out.1)
        have x2 := HC1.out _ HVj.out
        have hkn := HK.out
        by_cases hlt : j < k
        · have q1 : (j : Int) < (k : Int) := by omega
          have q2 : (j : Int) < (d.m.ns : Int) := by omega
          have q3 : (j : Int) ≤ 64 := by omega
          have x3 := HRw.out _ HVj.out j (by omega)
          have HLj := hid (HLk.out j)
          have HJ := hid hlt
          have HWj := hid (HW1.out · j ·)
          clear hlt hj hkn
          generalize d.m.ns = n at *
          generalize (d.at j).t = t at *
          generalize hy : d.w j 1 = y at *
          clear hy
          cases ht : (t == 1)
          · have hA : A j = false := by rw [HLj.out, ht]; rfl
            have HAj := hid hA
            clear hA
            go_wp2_with fail
            go_roundw
            case measure => have := HJ.out; simp [intOf] <;> omega
            case rel => exact ⟨j + 1, HJ.out, by simp, hid ⟨HQ.out.1, fun q hq => by
              by_cases e : q = j
              · rw [e]; exact HAj.out
              · exact HQ.out.2 q (by omega)⟩⟩
          · cases hyu : (y == u)
            · have hA : A j = false := by rw [HLj.out, ht, hyu]; rfl
              have HAj := hid hA
              clear hA
              go_wp2_with (go_at_call 156; refine (HWj.out _ HVj.out).mono ?_; rintro e w2 ⟨rfl, hb⟩; have B2 := hid (below_on HQ.out.1 hb); clear hb)
              go_roundw
              case measure => have := HJ.out; simp [intOf] <;> omega
              case rel => exact ⟨j + 1, HJ.out, by simp, hid ⟨B2.out, fun q hq => by
                by_cases e : q = j
                · rw [e]; exact HAj.out
                · exact HQ.out.2 q (by omega)⟩⟩
            · have hA : A j = true := by rw [HLj.out, ht, hyu]; rfl
              have HZ : Hid (z = false) := hid (by rw [HBo.out, any_yes HJ.out hA]; rfl)
              clear hA
              go_wp2_with (go_at_call 156; refine (HWj.out _ HVj.out).mono ?_; rintro e w2 ⟨rfl, hb⟩; have B2 := hid (below_on HQ.out.1 hb); clear hb)
              go_ret
              rw [HZ.out]
              exact ⟨rfl, B2.out⟩
        · have hjk : j = k := by omega
          have HZ : Hid (z = true) := hid (by rw [HBo.out, any_no (fun q hq => HQ.out.2 q (by omega))]; rfl)
          subst hjk
          clear hlt hj x2 hkn
          go_wp2_with fail
          go_ret
          rw [HZ.out]
          exact ⟨rfl, HQ.out.1⟩
    · have hy2' : 4096 < y2 := by omega
      have HZ : Hid (z = false) := hid (by rw [HBo.out, decide_eq_false hy2]; simp)
      clear hub hy2
      go_wp2_with (go_at_call 156; refine (HW2.out _ HV1.out).mono ?_; rintro e w2 ⟨rfl, hb⟩; have B2 := hid (below_on B1.out hb); clear hb)
      go_ret
      rw [HZ.out]
      exact ⟨rfl, B2.out⟩
  · have hub' : d.b ≤ u := by omega
    have HZ : Hid (z = false) := hid (by rw [HBo.out, decide_eq_false hub]; simp)
    clear hub
    go_wp2_with fail
    go_ret
    rw [HZ.out]
    exact ⟨rfl, B1.out⟩
end Go.Proofs.YtildhjiddidghaaGreatDoor
namespace Go.Proofs.YtildhjiddidghaaGreatDoor
open Go.RowKit
set_option maxHeartbeats 4000000
set_option maxRecDepth 100000
theorem ofN_d (W : World) (p : Rp) (d : DS) (h : RDB W p d) (q : Nat) (t o : Int) : Calls Tryz.prog 158 #[ptr p.g, .int .i64 (q : Int), .int .i64 t, .int .i64 o] W fun e W' => e = .returned (.bool (d.isOf q t o)) ∧ W = W' := by
  have hh := of_d W p d h (q : Int) t o
  have e : (d.there (q : Int) && ((d.ent (q : Int)).t == t) && ((d.ent (q : Int)).o == o)) = d.isOf q t o := by
    unfold DS.isOf DS.ent DS.there
    by_cases hq : q < d.m.ns
    · have : (0 ≤ (q : Int) ∧ (q : Int) < (d.m.ns : Int)) := by omega
      simp [hq]
    · have : ¬ (0 ≤ (q : Int) ∧ (q : Int) < (d.m.ns : Int)) := by omega
      simp [hq]
  rw [e] at hh
  exact hh
theorem firsts_one {d : DS} {k : Nat} {u : Int} (h0 : 0 ≤ u) (h : (d.firsts k d.m.ns).length = 1) : ((d.firsts k d.m.ns).getD 0 0 == u) = d.isOf u.toNat 3 (k : Int) := by
  unfold DS.firsts at *
  rw [List.length_map] at h
  have hm : ∀ j, j ∈ (List.range d.m.ns).filter (fun j => d.isOf j 3 (k : Int)) ↔ d.isOf j 3 (k : Int) = true := fun j => by
    rw [List.mem_filter, List.mem_range]
    refine ⟨fun x => x.2, fun x => ⟨?_, x⟩⟩
    unfold DS.isOf at x
    simp at x
    exact x.1
  generalize (List.range d.m.ns).filter (fun j => d.isOf j 3 (k : Int)) = L at *
  match L, h with
  | [a], _ =>
    have ha := (hm a).1 (by simp)
    show ((a : Int) == u) = _
    by_cases e : (a : Int) = u
    · rw [← e]; simp [ha]
    · have : d.isOf u.toNat 3 (k : Int) = false := by
        cases hz : d.isOf u.toNat 3 (k : Int)
        · rfl
        · have := (hm _).2 hz
          rw [List.mem_singleton] at this
          omega
      rw [this]
      simpa using e
theorem first_d (w : World) (p : Rp) (d : DS) (h : RDB w p d) (hU : d.m.U) (k : Nat) (hk : k < d.m.ns) :
    Calls Tryz.prog 131 #[ptr p.g, .int .i64 (k : Int)] w fun e w' => e = .returned (.bool (d.one1 k)) ∧ Below w.heap.size w w' := by
  have HV := hid h
  have HW : Hid (∀ w, RDB w p d → Calls Tryz.prog 156 #[ptr p.g, .int .i64 (k : Int), .int .i64 0] w fun e w' => e = .returned (.int .u32 (d.w k 0)) ∧ Below w.heap.size w w') := hid (fun w h => word_d w p d h (k : Int) 0)
  have HI := hid (fun w h j => ofN_d w p d h j 3 (k : Int))
  have x2 := h.c1
  have x3 := (h.row k hk).2.2.2.1
  have HC2 := hid (fun w (h : RDB w p d) => h.c1)
  have n64 := h.ok.n64
  have HN := hid (And.intro hk n64)
  have q1 : (k : Int) < (d.m.ns : Int) := by omega
  have hu : 0 ≤ d.w k 0 ∧ d.w k 0 < 4294967296 := hU.word _ _ _
  have wu : IntKind.wrap .i64 (d.w k 0) = d.w k 0 := by rw [IntKind.wrap_i64]; omega
  have HIu := hid (fun w h => by have := ofN_d w p d h (d.w k 0).toNat 3 (k : Int); rw [Int.toNat_of_nonneg hu.1] at this; exact this)
  have HFu := hid (firsts_one (d := d) (k := k) hu.1)
  have HY := hid (fun j => @firsts_yes d k j)
  have HO := hid (fun j => @firsts_no d k j)
  have HL := hid (fun j => firsts_len d k j)
  have HF0 : Hid (d.firsts k 0 = []) := hid rfl
  unfold DS.one1
  clear h hk hu hU
  simp only [ptr] at *
  generalize d.w k 0 = u at *
  generalize hs : (d.at k).s = s at *
  clear hs
  by_cases h3 : s = 3
  · subst h3
    rw [if_pos rfl]
    generalize d.m.ns = n at *
    go_enter Tryz.func131, Tryz.ntmps131
    go_wp2_with fail
    go_ret
    exact ⟨rfl, Below.refl _ _⟩
  · rw [if_neg h3]
    have h3' : (s == 3) = false := by simpa using h3
    clear h3
    generalize hz : (((d.firsts k d.m.ns).length == 1) && ((d.firsts k d.m.ns).getD 0 0 == u)) = z
    have HZ := hid hz
    clear hz
    generalize hn : d.m.ns = n at *
    clear hn
    go_enter Tryz.func131, Tryz.ntmps131
    go_upto_region 5 with fail
    clear x2 x3
    go_loopw [5, 6] (fun t i wr => ∃ j : Nat, j ≤ n ∧ i = .int .i64 (j : Int) ∧ t = .int .i64 ((d.firsts k j).length : Int) ∧ Hid (Below w.heap.size w wr)) (fun _ i _ => n - (intOf i).toNat)
    case atStart => exact ⟨0, Nat.zero_le _, rfl, by rw [HF0.out]; rfl, hid (Below.refl _ _)⟩
    case round =>
      obtain ⟨j, hj, rfl, rfl, HQ⟩ := hrel
      have HVj := hid (HV.out.on HQ.out)
      have x2 := HC2.out _ HVj.out
      have hnn := HN.out
      have hll := HL.out j
      by_cases hlt : j < n
      · have q4 : (j : Int) < (n : Int) := by omega
        have q3 : (j : Int) ≤ 64 := by omega
        have l3 : ((d.firsts k j).length : Int) ≤ 64 := by omega
        have HJ := hid hlt
        have HIj := hid (HI.out _ HVj.out j)
        clear hlt hj hnn hll
        cases hi : d.isOf j 3 (k : Int)
        · have HE : Hid ((d.firsts k (j + 1)).length = (d.firsts k j).length) := hid (by rw [HO.out j hi])
          rw [hi] at HIj
          generalize (d.firsts k j).length = l at *
          go_wp2_with (go_at_call 158; refine HIj.out.mono ?_; rintro e w2 ⟨rfl, rfl⟩)
          go_roundw
          case measure => have := HJ.out; simp [intOf] <;> omega
          case rel => exact ⟨j + 1, HJ.out, by simp, by rw [HE.out], hid HQ.out⟩
        · have HE : Hid ((d.firsts k (j + 1)).length = (d.firsts k j).length + 1) := hid (by rw [HY.out j hi]; simp)
          rw [hi] at HIj
          generalize (d.firsts k j).length = l at *
          go_wp2_with (go_at_call 158; refine HIj.out.mono ?_; rintro e w2 ⟨rfl, rfl⟩)
          go_roundw
          case measure => have := HJ.out; simp [intOf] <;> omega
          case rel => exact ⟨j + 1, HJ.out, by simp, by rw [HE.out]; simp, hid HQ.out⟩
      · have hjn : j = n := by omega
        subst hjn
        clear hlt hj hnn hll
        by_cases hl : (d.firsts k j).length = 1
        · rw [HFu.out hl, hl] at HZ
          rw [hl]
          have HZ2 : Hid (z = d.isOf u.toNat 3 (k : Int)) := hid HZ.out.symm
          generalize d.isOf u.toNat 3 (k : Int) = y at *
          go_wp2_with (first | (go_at_call 156; refine (HW.out _ HVj.out).mono ?_; rintro e w2 ⟨rfl, hb⟩; have B2 := hid (And.intro (HVj.out.on hb) (below_on HQ.out hb)); clear hb) | (go_at_call 158; refine (HIu.out _ B2.out.1).mono ?_; rintro e w3 ⟨rfl, rfl⟩))
          go_ret
          rw [HZ2.out]
          exact ⟨rfl, B2.out.2⟩
        · have HZ2 : Hid (z = false) := hid (by have := HZ.out; rw [← this]; simp [hl])
          have hl' : (((d.firsts k j).length : Int) == 1) = false := by simp; omega
          clear hl
          generalize ((d.firsts k j).length : Int) = l at *
          go_wp2_with (go_at_call 156; refine (HW.out _ HVj.out).mono ?_; rintro e w2 ⟨rfl, hb⟩; have B2 := hid (And.intro (HVj.out.on hb) (below_on HQ.out hb)); clear hb)
          go_ret
          rw [HZ2.out]
          exact ⟨rfl, B2.out.2⟩
end Go.Proofs.YtildhjiddidghaaGreatDoor
namespace Go.Proofs.YtildhjiddidghaaGreatDoor
open Go.RowKit
set_option maxHeartbeats 8000000
set_option maxRecDepth 100000
theorem wds_succ (d : DS) (q : Int) (lo j : Nat) : d.wds q lo (j + 1) = d.wds q lo j ++ [d.m.word true q ((lo + j : Nat) : Int)] := by
  simp [DS.wds, List.range_succ]
theorem rowHl {w : World} {g : Nat} {ys : List Int} (h : ∀ j u, (u32s ys)[j]? = some u → w.cell? ⟨g, j, none⟩ = some u) : H.Row w .u32 g 0 ys := fun i hi => by
  rw [Nat.zero_add, List.getD_eq_getElem?_getD, List.getElem?_eq_getElem hi]
  exact h i _ (by rw [u32s, List.getElem?_map, List.getElem?_eq_getElem hi]; rfl)
theorem words_d (w : World) (p : Rp) (d : DS) (h : RDB w p d) (hu : d.m.U) (k : Nat) (hk : k < d.m.ns) :
    Calls Tryz.prog 130 #[ptr p.g, .int .i64 (k : Int)] w fun e w' => e = .returned (.bool (d.fits k)) ∧ Below w.heap.size w w' := by
  have HV := hid h
  have HZ := hid (zero_d w p d h (k : Int) 37 1024 (by decide) (by decide))
  have HW := hid (fun w h off => word_d w p d h (k : Int) off)
  have HI := hid (fun w h => zero_d w p d h (k : Int) 3 11 (by decide) (by decide))
  have HM := hid (fun w h => zero_d w p d h (k : Int) 11 37 (by decide) (by decide))
  have HC2 := hid (fun w (h : RDB w p d) => And.intro h.c1 (h.row k hk).2.2.2.1)
  have HL := hid (d.wds_len (k : Int) 11 26)
  have HR := hid (wds_rg hu (k : Int) 11 26)
  have HS := hid (fun j => wds_succ d (k : Int) 11 j)
  have HS0 : Hid (d.wds (k : Int) 11 0 = []) := hid rfl
  have HSl := hid (fun j => d.wds_len (k : Int) 11 j)
  have q1 : (k : Int) < (d.m.ns : Int) := by omega
  have HFt : Hid (d.fits k = (d.zr (k : Int) 37 1024 && (if (d.at k).s = 1 then d.inb (k : Int) else if (d.at k).s = 2 then d.zr (k : Int) 11 37 else d.inb (k : Int) || d.zr (k : Int) 11 37))) := hid rfl
  have HIn : Hid (d.inb (k : Int) = (decide (H.LoadOk (d.wds (k : Int) 11 26)) && d.zr (k : Int) 3 11)) := hid rfl
  clear h hu hk
  simp only [ptr] at *
  generalize d.fits k = F at *
  generalize d.inb (k : Int) = I at *
  generalize d.zr (k : Int) 11 37 = m at *
  generalize d.zr (k : Int) 3 11 = z3 at *
  generalize d.m.ns = n at *
  generalize (d.at k).s = s at *
  cases hz : d.zr (k : Int) 37 1024
  · rw [hz] at HZ HFt
    clear hz
    rw [Bool.false_and] at HFt
    go_enter Tryz.func130, Tryz.ntmps130
    go_wp2_with (go_at_call 126; refine HZ.out.mono ?_; rintro e w1 ⟨rfl, hb⟩; have B1 := hid hb; clear hb)
    go_ret
    rw [HFt.out]
    exact ⟨rfl, B1.out⟩
  · rw [hz] at HZ HFt
    clear hz
    rw [Bool.true_and] at HFt
    go_enter Tryz.func130, Tryz.ntmps130
    go_upto_region 5 with (go_at_call 126; refine HZ.out.mono ?_; rintro e w1 ⟨rfl, hb⟩; have B1 := hid hb; clear hb)
    go_loopw [5, 6] (fun t i wr => ∃ (j : Nat) (T : Value), j ≤ 26 ∧ i = .int .i64 (j : Int) ∧ t = T ∧ Hid (Hl w wr T (d.wds (k : Int) 11 j))) (fun _ i _ => 26 - (intOf i).toNat)
    case atStart => exact ⟨0, _, Nat.zero_le _, rfl, rfl, hid (by rw [HS0.out]; exact ⟨World.ownsRow_nil _ _ _ _, B1.out⟩)⟩
    case round =>
      obtain ⟨j, T, hj, rfl, hT, HQ⟩ := hrel
      clear B1 HZ
      obtain ⟨ao, c, hv, hf⟩ := HQ.out.form
      subst hv
      subst hT
      have HFm := hid hf
      clear hf
      by_cases hlt : j < 26
      · have q2 : (j : Int) < 26 := by omega
        have kw : IntKind.wrap .i64 (11 + (j : Int)) = ((11 + j : Nat) : Int) := by rw [IntKind.wrap_i64]; omega
        have HJ := hid hlt
        have HWj := hid (HW.out · · ((11 + j : Nat) : Int))
        have HSj := hid (HS.out j)
        have HLj := hid (HSl.out j)
        clear hlt hj HFm
        generalize d.m.word true (k : Int) ((11 + j : Nat) : Int) = u at *
        generalize ((11 + j : Nat) : Int) = lj at *
        generalize d.wds (k : Int) 11 j = A at *
        go_wp2_with (first | (go_at_call 156; refine (HWj.out _ (HV.out.on HQ.out.below)).mono ?_; rintro e w2 ⟨rfl, hb⟩; have HQ1 : Hid (Hl w (w2.alloc (.cells #[.int .u32 u] 22)) (.slice ao A.length c) A) := (hid ((HQ.out.on hb).on (below_one _ _))); clear hb) | (at_builtin; refine wpList_append_w (W := w) rfl _ _ rfl (.slice ao A.length c) A rfl HQ1.out ⟨w2.heap.size, 0, none⟩ 1 1 [u] rfl rfl (Cel.new w2 22 [.int .u32 u]).src (by have a := HLj.out; have b := HJ.out; omega) ?_; intro v' w' h' hgr; have HQ2 := hid h'; clear h' hgr))
        go_roundw
        case measure => have := HJ.out; simp [intOf] <;> omega
        case rel => exact ⟨j + 1, _, HJ.out, by simp, rfl, hid (by rw [HSj.out]; exact HQ2.out)⟩
      · have hjn : j = 26 := by omega
        subst hjn
        clear hlt hj HS HS0 HSl HW
        generalize d.wds (k : Int) 11 26 = ys at *
        have hyl := HL.out
        obtain ⟨g, rfl, _, hg, _, hcl⟩ := HFm.out (by omega)
        rw [hyl]
        have HC := hid (And.intro hg (rowHl hcl))
        have HB := hid HQ.out.below
        clear HQ HFm hcl hg hyl
        have hz : ∀ w, (zeroValue 132).run Tryz.prog w = .ok (.agg H.zero59.toArray) w := fun w => by rw [Tryz.zeroValue132]; rfl
        have hZl : H.zero59.length = 10 := rfl
        generalize H.zero59 = Z at hz hZl
        have HLd : Hid (∃ v : Int, (if H.LoadOk ys then 0 else 20) = v ∧ Calls Tryz.prog 157 #[.slice (some ⟨g, 0, none⟩) 26 c] wr fun e W' => Below wr.heap.size wr W' ∧ ∃ D : List Value, D.length = 10 ∧ (∀ u ∈ D, u.oneCell' = true) ∧ e = .returned (.tuple #[.agg D.toArray, .int .i64 v])) := hid ⟨_, rfl, (H.rload_any wr g 0 c ys HL.out HR.out HC.out.2 HC.out.1).mono (fun e W' h => ⟨h.1, by
          rcases h.2 with ⟨h2, ao', c', h3, _⟩ | ⟨h2, h3⟩
          · rw [if_pos h2]
            exact ⟨_, H.rdC_length _ _ _ (by rw [List.length_take, HL.out]; rfl), H.rdC_one _ _ _ _ _, h3⟩
          · rw [if_neg h2]
            exact ⟨_, rfl, H.zero59_one, h3⟩⟩)⟩
        obtain ⟨v, hv, HLd'⟩ := HLd.out
        have HLc := hid HLd'
        have HVv := hid hv
        clear HLd' hv HLd HC HL HR
        go_upto_region 9 with (first | (go_at_call 157; refine HLc.out.mono ?_; rintro e w2 ⟨hb, D, hD, hD1, rfl⟩; have B1 := hid (below_on HB.out hb); have HD := hid (And.intro hD hD1); have CN := hid (Cel.new w2 132 Z); clear hb hD hD1) | (refine H.wpList_store_cel rfl 132 _ _ rfl w2.heap.size D rfl rfl CN.out (by rw [HD.out.1]; exact H.size59) (by rw [HD.out.1, hZl]) HD.out.2 ?_; intro w3 hc hb hs; have B2 := hid (below_on B1.out ((below_one w2 _).trans (hb.below (Nat.le_refl _) (by simp)))); clear hc hb hs))
        clear hz hZl CN HD B1 HLc HB
        have T1 := hid trivial
        by_cases hok : H.LoadOk ys
        · rw [if_pos hok] at HVv
          rw [decide_eq_true hok, Bool.true_and] at HIn
          have HIv := HIn
          obtain rfl := HVv.out
          clear hok HVv HIn
          go_upto_region 10 with (go_at_call 126; revert T1; intro T1; refine (HI.out _ (HV.out.on B2.out)).mono ?_; rintro e w4 ⟨rfl, hb⟩; have B3 := hid (below_on B2.out hb); clear hb T1)
          have T2 := hid trivial
          go_upto_region 12 with (go_at_call 126; revert T2; intro T2; refine (HM.out _ (HV.out.on B3.out)).mono ?_; rintro e w5 ⟨rfl, hb⟩; have B4 := hid (below_on B3.out hb); obtain ⟨x2, x3⟩ := HC2.out _ (HV.out.on B4.out); clear hb T2)
          by_cases s1 : s = 1
          · subst s1
            rw [if_pos rfl] at HFt
            go_wp2_with fail
            go_ret
            rw [HFt.out, HIv.out]
            exact ⟨rfl, B4.out⟩
          · rw [if_neg s1] at HFt
            have s1' : (s == 1) = false := by simpa using s1
            by_cases s2 : s = 2
            · subst s2
              rw [if_pos rfl] at HFt
              clear s1 s1'
              go_wp2_with fail
              go_ret
              rw [HFt.out]
              exact ⟨rfl, B4.out⟩
            · rw [if_neg s2] at HFt
              have s2' : (s == 2) = false := by simpa using s2
              clear s1 s2
              rw [HIv.out] at HFt
              cases z3
              · go_wp2_with fail
                go_ret
                rw [HFt.out]
                exact ⟨by simp, B4.out⟩
              · go_wp2_with fail
                go_ret
                rw [HFt.out]
                exact ⟨by simp, B4.out⟩
        · rw [if_neg hok] at HVv
          rw [decide_eq_false hok, Bool.false_and] at HIn
          have HIv := HIn
          obtain rfl := HVv.out
          clear hok HVv HIn
          go_upto_region 10 with fail
          have T2 := hid trivial
          go_upto_region 12 with (go_at_call 126; revert T2; intro T2; refine (HM.out _ (HV.out.on B2.out)).mono ?_; rintro e w5 ⟨rfl, hb⟩; have B4 := hid (below_on B2.out hb); obtain ⟨x2, x3⟩ := HC2.out _ (HV.out.on B4.out); clear hb T2)
          by_cases s1 : s = 1
          · subst s1
            rw [if_pos rfl] at HFt
            go_wp2_with fail
            go_ret
            rw [HFt.out, HIv.out]
            exact ⟨rfl, B4.out⟩
          · rw [if_neg s1] at HFt
            have s1' : (s == 1) = false := by simpa using s1
            by_cases s2 : s = 2
            · subst s2
              rw [if_pos rfl] at HFt
              clear s1 s1'
              go_wp2_with fail
              go_ret
              rw [HFt.out]
              exact ⟨rfl, B4.out⟩
            · rw [if_neg s2] at HFt
              have s2' : (s == 2) = false := by simpa using s2
              clear s1 s2
              rw [HIv.out] at HFt
              go_wp2_with fail
              go_ret
              rw [HFt.out]
              exact ⟨by simp, B4.out⟩
end Go.Proofs.YtildhjiddidghaaGreatDoor
namespace Go.Proofs.YtildhjiddidghaaGreatDoor
open Go.RowKit
set_option maxHeartbeats 4000000
set_option maxRecDepth 100000
theorem rinsec_any (w : World) (r : Rf) (m : MS) (h : RMem w r m) : Calls Tryz.prog 161 #[ptr r.g] w fun x w' => x = .returned (.int .i64 ((m.P.length - m.ns : Nat) : Int)) ∧ Below w.heap.size w w' := by
  have B1 := hid (below_on (Below.refl w.heap.size w) (Below.refl _ _).drew)
  have h' := h.cel.on (Below.refl w.heap.size w).drew
  have C1 := hid (And.intro (h'.cell 0) (h'.cell 1))
  have h1 := h.ns0
  have h2 := h.most
  have kw : IntKind.wrap .i64 ((m.P.length : Int) - (m.ns : Int)) = ((m.P.length - m.ns : Nat) : Int) := by rw [IntKind.wrap_i64]; omega
  clear h h' h1 h2
  simp only [ptr, List.getElem?_cons_zero, List.getElem?_cons_succ] at *
  generalize ((m.P.length - m.ns : Nat) : Int) = k at *
  generalize m.P.length = n at *
  generalize m.ns = ns at *
  generalize r.cap = c at *
  go_enter Tryz.func161, Tryz.ntmps161
  go_upto_region 1 with fail
  refine wp_region_held_drew (S := fun w => w.cell? ⟨r.g, 0, none⟩ = some (.slice (some ⟨r.gp, 0, none⟩) n c) ∧ w.cell? ⟨r.g, 1, none⟩ = some (.int .i64 (ns : Int))) (by kernel_rfl) C1.out (fun hHeld => ?_)
  generalize World.drew _ = w3 at *
  refine tk 0 (some 3) (.pointer (some ⟨r.g, 0, none⟩)) ?_
  simp only [Act.put, tqA, tqZ, tqS]
  refine tk 1 (some 4) (.pointer (some ⟨r.g, 0, none⟩)) ?_
  simp only [Act.put, tqA, tqZ, tqS]
  refine tk 2 (some 5) (.pointer (some ⟨r.g, 0, none⟩)) ?_
  simp only [Act.put, tqA, tqZ, tqS]
  refine tk 3 (some 6) (.slice (some ⟨r.gp, 0, none⟩) n c) ?_ (hy := Or.inl ⟨by rfl, by intro w hSw; have hc := hSw.1; go_simp⟩)
  simp only [Act.put, tqA, tqZ, tqS]
  refine tk 4 (some 7) (.int .i64 (n : Int)) ?_
  simp only [Act.put, tqA, tqZ, tqS]
  refine tk 5 (some 8) (.pointer (some ⟨r.g, 0, none⟩)) ?_
  simp only [Act.put, tqA, tqZ, tqS]
  refine tk 6 (some 9) (.pointer (some ⟨r.g, 0, none⟩)) ?_
  simp only [Act.put, tqA, tqZ, tqS]
  refine tk 7 (some 10) (.pointer (some ⟨r.g, 1, none⟩)) ?_
  simp only [Act.put, tqA, tqZ, tqS]
  refine tk 8 (some 11) (.int .i64 (ns : Int)) ?_ (hy := Or.inl ⟨by rfl, by intro w hSw; have hc := hSw.2; go_simp⟩)
  simp only [Act.put, tqA, tqZ, tqS]
  refine tk 9 (some 12) (.int .i64 k) ?_
  simp only [Act.put, tqA, tqZ, tqS]
  refine wpAnyH_ready (rs := [10]) (by kernel_rfl) (by simp) (AllReadyH.cons (o := ⟨some 2, .assign (.tmp 12), 3, "ref.go:43", #[⟨9, .data⟩, ⟨0, .phase⟩, ⟨1, .phase⟩, ⟨2, .phase⟩, ⟨3, .phase⟩, ⟨4, .phase⟩, ⟨5, .phase⟩, ⟨6, .phase⟩, ⟨7, .phase⟩, ⟨8, .phase⟩, ⟨9, .phase⟩], none⟩) rfl (fun KQ hK => ?_) AllReadyH.nil)
  go_simp
  refine hK.out _ _ C1.out (fun hHeld => ?_)
  clear hK KQ
  try simp only [Act.put, tqA, tqZ, tqS]
  refine wpAnyH_done (by kernel_rfl) ?_ _
  go_wp2_with fail
  go_ret
  exact ⟨rfl, B1.out⟩
end Go.Proofs.YtildhjiddidghaaGreatDoor
