import Derived.Test.YtmomidkodjihjaaDoorCards
import Derived.Test.YtmomidkodjihjaaDoorTie
import Derived.Test.YtmomidkodjihjaaDoorP14
import Derived.ProofKit
import Derived.OpenShut
import Derived.ShutString
import Derived.ChangeOld
import Derived.Below
import Derived.Deep.DeepHandedRow
import Derived.Lib.LaidTab
import Derived.Test.YtmomidkodjihjaaDoorP23
import Derived.SizedLaws
import Derived.OwnWalk
namespace Go.Proofs.YtmomidkodjihjaaDoor
open Go.ChangeShapes Go.WideShapes Go.ChangeAt Go.RowKit
open H
theorem own : ownKnob Tryd.prog.godebug = none := by kernel_rfl
theorem laidOut : laidOutB Tryd.prog = true := by kernel_rfl
theorem gTab : Tryd.prog.globalNamed "warden/sha.roundWords" = some 0 := by kernel_rfl
theorem gTabType : (Tryd.prog.globals[0]?).map (·.type) = some 139 := by kernel_rfl
theorem cells139 : Tryd.prog.cellsOf 139 = 64 := by kernel_rfl
theorem cells24 : Tryd.prog.cellsOf 24 = 1 := by kernel_rfl
theorem tab_of {rest : List (String × DataW Unit)} {W : World} (h : laidMet Tryd.prog (("warden/sha.roundWords", Rows.laid_warden_sha_roundWords) :: rest) W) : Tab W := by
  have hT : Lib.TabIs Tryd.prog W "warden/sha.roundWords" .u32 S.K := Lib.tabIs_of_head (rest := rest) gTab gTabType Tryd.underlying139 Tryd.underlying24 cells24 cells139 h
  have hc : ∀ i : Nat, i < 64 → W.cell? ⟨0, i, none⟩ = some (.int .u32 (S.K.getD i 0)) := fun i hi => hT.cell gTab i hi
  exact fun i hi => by rw [Nat.zero_add]; exact hc i hi
theorem size_of_shape {W : World} (h : W.ShapedOpen Tryd.prog) : 1 < W.heap.size := by
  have h0 : ((begin Tryd.prog (fun _ _ => 0) default).world.heap[1]?).bind Obj.row? = some (#[.int .u32 0, .int .u32 0, .int .u32 0, .int .u32 0, .int .u32 0, .int .u32 0, .int .u32 0, .int .u32 0, .int .u32 0, .int .u32 0, .int .u32 0, .int .u32 0, .int .u32 0, .int .u32 0, .int .u32 0, .int .u32 0, .int .u32 0, .int .u32 0, .int .u32 0, .int .u32 0, .int .u32 0, .int .u32 0, .int .u32 0, .int .u32 0, .int .u32 0, .int .u32 0, .int .u32 0, .int .u32 0, .int .u32 0, .int .u32 0, .int .u32 0, .int .u32 0, .int .u32 0, .int .u32 0, .int .u32 0, .int .u32 0, .int .u32 0, .int .u32 0, .int .u32 0, .int .u32 0, .int .u32 0, .int .u32 0, .int .u32 0, .int .u32 0, .int .u32 0, .int .u32 0, .int .u32 0, .int .u32 0, .int .u32 0, .int .u32 0, .int .u32 0, .int .u32 0, .int .u32 0, .int .u32 0, .int .u32 0, .int .u32 0, .int .u32 0, .int .u32 0, .int .u32 0, .int .u32 0, .int .u32 0, .int .u32 0, .int .u32 0, .int .u32 0], 139) := by kernel_rfl
  obtain ⟨cs, hh, _, _⟩ := h.1 1 _ _ (by rw [show Tryd.prog.globals.size = 2 from by kernel_rfl]; decide) h0
  exact (Array.getElem?_eq_some_iff.1 hh).1

theorem trodAll_below {H : Type} {enc : TypeId × Value → H} {P : Program} (hl : laidOutB P = true) {W W' : World} (hb : Below W.heap.size W W') (ts : List TypeId) : ∀ {vs : List Value} {ds : List (DataW H)} {ps : List MemPlace},
    (ts.all fun t => P.readableRec t && decide (t < P.types.size)) = true → DataW.TrodAll enc P W 0 (fun _ => true) true ts vs ds ps → (∀ x ∈ ps, x.block < W.heap.size) →
    DataW.TrodAll enc P W' 0 (fun b => decide (b < W.heap.size)) true ts vs ds ps := by
  induction ts with
  | nil =>
    intro vs ds ps _ h _
    obtain ⟨rfl, rfl, rfl⟩ := trodAll_nil h
    exact trodAll_mk0
  | cons t ts ih =>
    intro vs ds ps ht h hlt
    obtain ⟨v0, vs0, d0, ds0, p0, q0, rfl, rfl, rfl, h0, r0⟩ := trodAll_cons h
    simp only [List.all_cons, Bool.and_eq_true, decide_eq_true_eq] at ht
    exact trodAll_cons_mk (Below.trod hl ht.1.1 ht.1.2 h0 hb (fun x hx => hlt x (by simp [hx]))) (ih (by simpa using ht.2) r0 (fun x hx => hlt x (by simp [hx])))

theorem law_post {H : Type} {enc : TypeId × Value → H} {f : Func} {s : ChangeSpec} {W W' : World} {args : Array Value} {ds gs : List (DataW H)} {before : List MemPlace}
    (hts : (f.params.toList.all fun t => Tryd.prog.readableRec t && decide (t < Tryd.prog.types.size)) = true) (hr : f.resultTypes = #[4]) (hv : s.vars = [])
    (hs : s.fn H (ds ++ gs) = { results := [.lit (.bool true)], args := ds })
    (hW : DataW.Whole enc Tryd.prog f.params.toList s.vars false W args.toList ds gs before) (hb : Below W.heap.size W W') :
    s.post enc Tryd.prog f false true false false W args (.bool true) W' := by
  have hW' := hW
  have hlt := hW.lt
  obtain ⟨p, q, hA, hV, rfl, hfz, hnd⟩ := hW
  rw [hv] at hV
  obtain ⟨rfl, rfl⟩ := trodVars_none hV
  rw [List.append_nil] at hlt
  refine ⟨ds, [], _, [], p, [], hW', ?_, ?_, ?_, hb.frame _, fun h => by cases h⟩
  · rw [hs, hr]
    exact trodAll_mk1 (shut_bool Tryd.underlying4 _)
  · rw [hs]
    exact trodAll_below laidOut hb _ hts hA hlt
  · rw [hs, hv]
    rfl

def laidAs (cs : Array Value) : Obj → Obj
  | .cells _ t frozen => .cells cs t frozen
  | o => o
noncomputable def laidWorld (os : Os) : World :=
  { World.holding Tryd.prog os ⟨#[], #[], []⟩ with heap := ((World.holding Tryd.prog os ⟨#[], #[], []⟩).heap.modify 0 (laidAs #[.int .u32 1116352408, .int .u32 1899447441, .int .u32 3049323471, .int .u32 3921009573, .int .u32 961987163, .int .u32 1508970993, .int .u32 2453635748, .int .u32 2870763221, .int .u32 3624381080, .int .u32 310598401, .int .u32 607225278, .int .u32 1426881987, .int .u32 1925078388, .int .u32 2162078206, .int .u32 2614888103, .int .u32 3248222580, .int .u32 3835390401, .int .u32 4022224774, .int .u32 264347078, .int .u32 604807628, .int .u32 770255983, .int .u32 1249150122, .int .u32 1555081692, .int .u32 1996064986, .int .u32 2554220882, .int .u32 2821834349, .int .u32 2952996808, .int .u32 3210313671, .int .u32 3336571891, .int .u32 3584528711, .int .u32 113926993, .int .u32 338241895, .int .u32 666307205, .int .u32 773529912, .int .u32 1294757372, .int .u32 1396182291, .int .u32 1695183700, .int .u32 1986661051, .int .u32 2177026350, .int .u32 2456956037, .int .u32 2730485921, .int .u32 2820302411, .int .u32 3259730800, .int .u32 3345764771, .int .u32 3516065817, .int .u32 3600352804, .int .u32 4094571909, .int .u32 275423344, .int .u32 430227734, .int .u32 506948616, .int .u32 659060556, .int .u32 883997877, .int .u32 958139571, .int .u32 1322822218, .int .u32 1537002063, .int .u32 1747873779, .int .u32 1955562222, .int .u32 2024104815, .int .u32 2227730452, .int .u32 2361852424, .int .u32 2428436474, .int .u32 2756734187, .int .u32 3204031479, .int .u32 3329325298])).modify 1 (laidAs #[.int .u32 1116352408, .int .u32 1899447441, .int .u32 3049323471, .int .u32 3921009573, .int .u32 961987163, .int .u32 1508970993, .int .u32 2453635748, .int .u32 2870763221, .int .u32 3624381080, .int .u32 310598401, .int .u32 607225278, .int .u32 1426881987, .int .u32 1925078388, .int .u32 2162078206, .int .u32 2614888103, .int .u32 3248222580, .int .u32 3835390401, .int .u32 4022224774, .int .u32 264347078, .int .u32 604807628, .int .u32 770255983, .int .u32 1249150122, .int .u32 1555081692, .int .u32 1996064986, .int .u32 2554220882, .int .u32 2821834349, .int .u32 2952996808, .int .u32 3210313671, .int .u32 3336571891, .int .u32 3584528711, .int .u32 113926993, .int .u32 338241895, .int .u32 666307205, .int .u32 773529912, .int .u32 1294757372, .int .u32 1396182291, .int .u32 1695183700, .int .u32 1986661051, .int .u32 2177026350, .int .u32 2456956037, .int .u32 2730485921, .int .u32 2820302411, .int .u32 3259730800, .int .u32 3345764771, .int .u32 3516065817, .int .u32 3600352804, .int .u32 4094571909, .int .u32 275423344, .int .u32 430227734, .int .u32 506948616, .int .u32 659060556, .int .u32 883997877, .int .u32 958139571, .int .u32 1322822218, .int .u32 1537002063, .int .u32 1747873779, .int .u32 1955562222, .int .u32 2024104815, .int .u32 2227730452, .int .u32 2361852424, .int .u32 2428436474, .int .u32 2756734187, .int .u32 3204031479, .int .u32 3329325298]) }
end Go.Proofs.YtmomidkodjihjaaDoor
namespace Go.Proofs.YtmomidkodjihjaaDoor
open Go.ChangeShapes Go.WideShapes Go.ChangeAt Go.RowKit
open H
set_option maxRecDepth 100000
theorem bytes94 : Tryd.prog.bytesOf 94 = 56 := by kernel_rfl
theorem cel94 : Tryd.prog.cellsOf 94 = 5 := by kernel_rfl
theorem celI : Tryd.prog.cellsOf 3 = 1 := by kernel_rfl
theorem cel22 : Tryd.prog.cellsOf 22 = 1 := by kernel_rfl
theorem wds_of {xs : List Int} (h : ∀ x ∈ xs, (Lit.int .u32 x).wf = true) : Wds xs := fun j => by
  have := range_u32 h j
  rw [List.getD_eq_getElem?_getD]
  omega
theorem open_words {H : Type} {enc : TypeId × Value → H} {W : World} {b0 fuel : Nat} {held : Bool} {cs : List Value} {y : DataW H × List MemPlace}
    (hf : DataW.trod enc Tryd.prog W b0 (fun _ => true) held fuel 22 cs = some y) :
    ∃ ao n cap xs, cs = [.slice ao n cap] ∧ n ≤ cap ∧ cap ≤ 9223372036854775807 ∧ xs.length = n ∧ Wds xs ∧ At W .u32 ao xs := by
  rcases open_ints Tryd.underlying22 Tryd.underlying24 cells24 hf with ⟨hcs, hx⟩ | ⟨x, n, cap, zs, hcs, hb, hl, hm, hz, hx, hcell, hwz⟩
  · exact ⟨none, 0, 0, [], hcs, Nat.le_refl _, by decide, rfl, fun j => by simp, .inl rfl⟩
  · simp only [if_true] at hz
    have hlen : (zs.take n).length = n := by simp; omega
    refine ⟨some x, n, cap, zs.take n, hcs, hl, hm, hlen, wds_of (fun y hy => hwz y (List.mem_of_mem_take hy)), ?_⟩
    rcases Nat.eq_zero_or_pos n with rfl | hn
    · exact .inl (by simp)
    · obtain ⟨b, off, spot⟩ := x
      have h0 := hcell 0 (by omega)
      have hspot : spot = none := by simpa [Addr.add] using World.cell?_spot h0
      subst hspot
      refine .inr ⟨b, off, rfl, ?_, ?_⟩
      · rcases Nat.lt_or_ge b W.heap.size with h | h
        · exact h
        · simp [Addr.add, World.cell?, Array.getElem?_eq_none h] at h0
      · intro i hi
        have := hcell i (by omega)
        have e1 : (⟨b, off, none⟩ : Addr).add i = ⟨b, off + i, none⟩ := by unfold Addr.add; split <;> simp_all
        rw [e1] at this
        rw [this]
        congr 2
        simp only [List.getD_eq_getElem?_getD, List.getElem?_take]
        rw [if_pos (by omega)]
theorem take_one {α : Type} {cs : List α} {j : Nat} {v : α} (h : (cs.drop j).take 1 = [v]) : cs[j]? = some v := by
  have := congrArg (fun l => l[0]?) h
  simpa using this
theorem lit_u32 {x : Int} (h : (Lit.int .u32 x).wf = true) : 0 ≤ x ∧ x < 4294967296 := by
  have := range_u32 (zs := [x]) (fun y hy => by rw [List.mem_singleton] at hy; subst hy; exact h) 0
  simp at this
  omega
theorem open_op {H : Type} {enc : TypeId × Value → H} {W : World} {b0 fuel : Nat} {held : Bool} {cs : List Value} {y : DataW H × List MemPlace}
    (h : DataW.trod enc Tryd.prog W b0 (fun _ => true) held fuel 94 cs = some y) : ∃ x : Lv, cs = x.cs ∧ LvW x ∧ At W .u32 x.p x.ld ∧ x.ld.length ≤ 9223372036854775807 := by
  obtain ⟨xs, m, rfl, hy, hlen, hn, hel⟩ := DataW.trod_struct Tryd.underlying94 h
  rw [cel94] at hlen
  have hsz : xs.length = 5 := hn
  match xs, hsz with
  | [x0, x1, x2, x3, x4], _ =>
    have e0 : DataW.trod enc Tryd.prog W b0 (fun _ => true) held m 3 ((cs.drop 0).take (Tryd.prog.cellsOf 3)) = some x0 := hel 0 _ rfl
    have e1 : DataW.trod enc Tryd.prog W b0 (fun _ => true) held m 24 ((cs.drop 1).take (Tryd.prog.cellsOf 24)) = some x1 := hel 1 _ rfl
    have e2 : DataW.trod enc Tryd.prog W b0 (fun _ => true) held m 22 ((cs.drop 2).take (Tryd.prog.cellsOf 22)) = some x2 := hel 2 _ rfl
    have e3 : DataW.trod enc Tryd.prog W b0 (fun _ => true) held m 3 ((cs.drop 3).take (Tryd.prog.cellsOf 3)) = some x3 := hel 3 _ rfl
    have e4 : DataW.trod enc Tryd.prog W b0 (fun _ => true) held m 24 ((cs.drop 4).take (Tryd.prog.cellsOf 24)) = some x4 := hel 4 _ rfl
    rw [celI] at e0 e3
    rw [cells24] at e1 e4
    rw [cel22] at e2
    obtain ⟨k, g0, _, _⟩ := DataW.trod_int Tryd.underlying3 (show _ = some x0 from e0)
    obtain ⟨a, g1, _, ka⟩ := DataW.trod_int Tryd.underlying24 (show _ = some x1 from e1)
    obtain ⟨ao, n, cap, ld, g2, hnc, hcm, hln, hw, hat⟩ := open_words e2
    obtain ⟨lg, g3, _, _⟩ := DataW.trod_int Tryd.underlying3 (show _ = some x3 from e3)
    obtain ⟨fl, g4, _, kf⟩ := DataW.trod_int Tryd.underlying24 (show _ = some x4 from e4)
    refine ⟨⟨k, a, ld, ao, cap, lg, fl⟩, ?_, ⟨(lit_u32 ka).1, (lit_u32 ka).2, hw, (lit_u32 kf).1, (lit_u32 kf).2⟩, hat, by show ld.length ≤ _; omega⟩
    apply List.ext_getElem?
    intro j
    by_cases h5 : j < 5
    · rcases (show j = 0 ∨ j = 1 ∨ j = 2 ∨ j = 3 ∨ j = 4 by omega) with rfl | rfl | rfl | rfl | rfl
      · exact take_one g0
      · exact take_one g1
      · rw [take_one g2, ← hln]; rfl
      · exact take_one g3
      · exact take_one g4
    · rw [List.getElem?_eq_none (by omega), List.getElem?_eq_none (by simp [Lv.cs]; omega)]
theorem open_slice {H : Type} {enc : TypeId × Value → H} {W : World} {fuel : Nat} {held : Bool} {cs0 : List Value} {y0 : DataW H × List MemPlace} {t e : TypeId} {st : Nat} (ht : Tryd.prog.underlying t = some (.slice e)) (hce : Tryd.prog.cellsOf e = st) (hst : 0 < st)
    (hf : DataW.trod enc Tryd.prog W 0 (fun _ => true) held fuel t cs0 = some y0) :
    ∃ (ao : Option Addr) (n cap b off : Nat), cs0 = [.slice ao n cap] ∧ n ≤ cap ∧ (0 < n → ao = some ⟨b, off, none⟩ ∧ b < W.heap.size) ∧
      (∀ k, k < n → ∃ cs m y, W.rangeAt b (off + k * st) cs ∧ DataW.trod enc Tryd.prog W 0 (fun _ => true) held m e cs = some y) ∧ (n = 0 ∨ ∃ elems spare, y0.1 = .slice elems spare ∧ elems.length = n) := by
  rcases DataW.trod_slice ht hf with ⟨hcs, hx⟩ | ⟨a, len, cap', elems, rest, m, rfl, hcs, hx, hb0, hl, hm, hlen, hel, hsp, hns⟩
  · exact ⟨none, 0, 0, 0, 0, hcs, Nat.le_refl _, fun h => absurd h (by decide), fun k hk => absurd hk (by omega), .inl rfl⟩
  · rw [hce] at hel
    have hd : len = 0 ∨ ∃ es sp, y0.1 = .slice es sp ∧ es.length = len := .inr ⟨_, _, by rw [hx], by rw [List.length_map]; exact hlen⟩
    rcases Nat.eq_zero_or_pos len with h0 | hn
    · subst h0
      exact ⟨_, 0, _, 0, 0, hcs, hl, fun h => absurd h (by decide), fun k hk => absurd hk (by omega), .inl rfl⟩
    · have each : ∀ k (hk : k < len), ∃ cs y, W.cells? 0 (a.add (k * st)) st = some cs ∧ DataW.trod enc Tryd.prog W 0 (fun _ => true) held m e cs = some y := fun k hk => by
        have he := hel k hk
        obtain ⟨y, hy⟩ : ∃ y, elems[k]? = some y := ⟨elems[k], List.getElem?_eq_getElem (by omega)⟩
        rw [hy] at he
        obtain ⟨cs, h1, h2⟩ := Option.bind_eq_some_iff.1 he
        exact ⟨cs, y, h1, h2⟩
      obtain ⟨b, off, spot⟩ := a
      have hspot : spot = none := by
        obtain ⟨cs, y, h1, _⟩ := each 0 hn
        have := (World.cells?_some h1).2.2 0 hst
        have hc := (World.cells?_some h1).2.1
        rw [List.getElem?_eq_getElem (by omega)] at this
        simpa [Addr.add] using World.cell?_spot this
      subst hspot
      have hadd : ∀ i j, ((⟨b, off, none⟩ : Addr).add i).add j = ⟨b, off + i + j, none⟩ := fun i j => by rw [Addr.add_mid, Addr.add_mid]
      have hblk : b < W.heap.size := by
        obtain ⟨cs, y, h1, _⟩ := each 0 hn
        have := World.cells?_block h1 hst
        simpa [Addr.add] using this
      refine ⟨_, len, cap', b, off, hcs, hl, fun _ => ⟨rfl, hblk⟩, fun k hk => ?_, hd⟩
      obtain ⟨cs, y, h1, h2⟩ := each k hk
      refine ⟨cs, m, y, fun j v hv => ?_, h2⟩
      have hj : j < st := by have := (List.getElem?_eq_some_iff.1 hv).1; have := (World.cells?_some h1).2.1; omega
      have := (World.cells?_some h1).2.2 j hj
      rw [hadd] at this
      rw [this, hv]
theorem flat_at {W : World} {b off : Nat} : ∀ (l : List Lv), (∀ k x, l[k]? = some x → W.rangeAt b (off + k * 5) x.cs) → ∀ j u, (l.flatMap Lv.cs)[j]? = some u → W.cell? ⟨b, off + j, none⟩ = some u := fun l h j u hu => by
  have hj : j < l.length * 5 := by
    rw [← lcs_len]
    exact (List.getElem?_eq_some_iff.1 hu).1
  obtain ⟨x, hx⟩ : ∃ x, l[j / 5]? = some x := ⟨l[j / 5]'(by omega), List.getElem?_eq_getElem _⟩
  have e := lcs_get l (j / 5) (j % 5) x hx (by omega)
  rw [show j / 5 * 5 + j % 5 = j by omega, hu] at e
  have := h (j / 5) x hx (j % 5) u e.symm
  rwa [show off + j / 5 * 5 + j % 5 = off + j by omega] at this
theorem pickl {Q : Nat → Lv → Prop} (n : Nat) (h : ∀ k, k < n → ∃ x, Q k x) : ∃ l : List Lv, l.length = n ∧ ∀ k x, l[k]? = some x → Q k x := by
  refine ⟨(List.range n).map (fun k => if hk : k < n then (h k hk).choose else ⟨0, 0, [], none, 0, 0, 0⟩), by simp, fun k x hx => ?_⟩
  rw [List.getElem?_map] at hx
  obtain ⟨i, hi, rfl⟩ := Option.map_eq_some_iff.1 hx
  have hk : k < n := by simpa using (List.getElem?_eq_some_iff.1 hi).1
  rw [List.getElem?_range hk] at hi
  cases hi
  simp only [hk, dif_pos]
  exact (h k hk).choose_spec
theorem open_ops {H : Type} {enc : TypeId × Value → H} {W : World} {base : Nat} {held : Bool} {v : Value} {d : DataW H} {p : List MemPlace}
    (hv : Value.okWide Tryd.prog W .any base 23 v) (h : DataW.Trod enc Tryd.prog W 0 (fun _ => true) held 23 v d p) :
    ∃ (ao : Option Addr) (n cap : Nat) (l : List Lv), v = .slice ao n cap ∧ l.length = n ∧ LL W ao l ∧ (∀ x ∈ l, LvW x) ∧ (n = 0 ∨ ∃ elems spare, d = .slice elems spare ∧ elems.length = n) := by
  obtain ⟨ao, n, cap, rfl⟩ := okWide_slice Tryd.underlying23 hv
  obtain ⟨fuel, hf⟩ := h
  obtain ⟨ao', n', cap', b, off, hcs, _, hao, hk, hd⟩ := open_slice Tryd.underlying23 cel94 (by decide) hf
  simp only [Value.cells, List.cons.injEq, Value.slice.injEq, and_true] at hcs
  obtain ⟨rfl, rfl, rfl⟩ := hcs
  obtain ⟨l, hl, hQ⟩ := pickl (Q := fun k x => W.rangeAt b (off + k * 5) x.cs ∧ LvW x ∧ At W .u32 x.p x.ld ∧ x.ld.length ≤ 9223372036854775807) n fun k hkn => by
    obtain ⟨cs, m, y, h1, h2⟩ := hk k hkn
    obtain ⟨x, rfl, hx⟩ := open_op h2
    exact ⟨x, h1, hx⟩
  refine ⟨ao, n, cap, l, rfl, hl, ⟨?_, fun x hx => ?_⟩, fun x hx => ?_, hd⟩
  · rcases Nat.eq_zero_or_pos n with h0 | h0
    · exact .inl (List.eq_nil_of_length_eq_zero (by omega))
    · obtain ⟨e1, e2⟩ := hao h0
      exact .inr ⟨b, off, e1, e2, flat_at l (fun k x hx => (hQ k x hx).1)⟩
  · obtain ⟨k, hk⟩ := List.mem_iff_getElem?.1 hx
    exact (hQ k x hk).2.2
  · obtain ⟨k, hk⟩ := List.mem_iff_getElem?.1 hx
    exact (hQ k x hk).2.1
end Go.Proofs.YtmomidkodjihjaaDoor
