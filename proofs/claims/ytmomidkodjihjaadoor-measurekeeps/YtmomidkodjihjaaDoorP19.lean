import Derived.Test.YtmomidkodjihjaaDoorP18
import Derived.Test.YtmomidkodjihjaaDoorP14
import Derived.Test.YtmomidkodjihjaaDoorP01
namespace Go.Proofs.YtmomidkodjihjaaDoor
open Go.RowKit
open H
set_option maxHeartbeats 4000000
set_option maxRecDepth 100000
theorem MOp.ext' {o p : MOp} (h1 : o.k = p.k) (h2 : o.a = p.a) (h3 : o.ws = p.ws) : o = p := by cases o; cases p; simp_all
theorem wds_split {o p : MOp} (ho : o.Ok) (hp : p.Ok) {s t : List Int} (h : o.wds ++ s = p.wds ++ t) : o = p ∧ s = t := by
  unfold MOp.wds at h
  simp only [List.cons_append, List.cons.injEq] at h
  obtain ⟨h1, h2, h3⟩ := h
  have hl : o.ws.length = p.ws.length := by rw [ho.2.2, hp.2.2, h1]
  obtain ⟨h4, h5⟩ := List.append_inj h3 hl
  exact ⟨MOp.ext' h1 h2 h4, h5⟩
theorem enc_cons (o : MOp) (l : List MOp) : enc (o :: l) = o.wds ++ enc l := by simp [enc]
theorem enc_app (l m : List MOp) : enc (l ++ m) = enc l ++ enc m := by simp [enc]
theorem enc_split : ∀ (l m : List MOp) (r : List Int), (∀ o ∈ l, o.Ok) → (∀ o ∈ m, o.Ok) → enc m = enc l ++ r → ∃ q, m = l ++ q ∧ enc q = r
  | [], m, r, _, _, h => ⟨m, rfl, by simpa [enc] using h⟩
  | o :: l, [], r, _, _, h => by
    rw [enc_cons] at h
    simp [enc, MOp.wds] at h
  | o :: l, p :: m, r, hl, hm, h => by
    rw [enc_cons, enc_cons, List.append_assoc] at h
    obtain ⟨h1, h2⟩ := wds_split (hm p (by simp)) (hl o (by simp)) h
    obtain ⟨q, h3, h4⟩ := enc_split l m r (fun x hx => hl x (by simp [hx])) (fun x hx => hm x (by simp [hx])) h2
    exact ⟨q, by rw [h1, h3]; rfl, h4⟩
theorem enc_inj {l m : List MOp} (hl : ∀ o ∈ l, o.Ok) (hm : ∀ o ∈ m, o.Ok) (h : enc l = enc m) : l = m := by
  obtain ⟨q, h1, h2⟩ := enc_split m l [] hm hl (by simpa using h)
  cases q with
  | nil => simpa using h1
  | cons o q => rw [enc_cons] at h2; simp [MOp.wds] at h2
theorem enc_two (l : List MOp) : 2 * l.length ≤ (enc l).length := by
  induction l with
  | nil => simp
  | cons o l ih => rw [enc_cons]; simp [MOp.wds]; omega
def decR (ws : List Int) (e : Ending) (W W' : World) : Prop :=
  262144 < ws.length ∧ e = .returned (.tuple #[.slice none 0 0, .int .i64 2]) ∨
  ws.length ≤ 262144 ∧ (∀ l, (∀ o ∈ l, o.Ok) → enc l ≠ ws) ∧ e = .returned (.tuple #[.slice none 0 0, .int .i64 150]) ∨
  ws.length ≤ 262144 ∧ ∃ v l, e = .returned (.tuple #[v, .int .i64 0]) ∧ HO W W' v l ∧ (∀ o ∈ l.map Ov.o, o.Ok) ∧ enc (l.map Ov.o) = ws
structure DecJ (W wr : World) (ws : List Int) (v : Value) (l : List Ov) (r : List Int) : Prop where
  ho : HO W wr v l
  ok : ∀ o ∈ l.map Ov.o, o.Ok
  is : ws = enc (l.map Ov.o) ++ r
theorem DecJ.no {W wr : World} {ws : List Int} {v : Value} {l : List Ov} {r : List Int} (h : DecJ W wr ws v l r) (hr : r ≠ []) (hn : ∀ (o : MOp) (t : List Int), o.Ok → r ≠ o.wds ++ t) : ∀ m, (∀ o ∈ m, o.Ok) → enc m ≠ ws := fun m hm he => by
  obtain ⟨q, h1, h2⟩ := enc_split (l.map Ov.o) m r h.ok hm (by rw [he]; exact h.is)
  cases q with
  | nil => exact hr (by simpa [enc] using h2.symm)
  | cons o q => exact hn o (enc q) (hm o (by rw [h1]; simp)) (by rw [← h2, enc_cons])
theorem no_short {r : List Int} (h : r.length < 2) : ∀ o t, MOp.Ok o → r ≠ o.wds ++ t := fun o t _ e => by rw [e] at h; simp [MOp.wds] at h; omega
theorem no_less {r : List Int} {k : Int} (hk : r.getD 0 0 = k) (h : r.length < 2 + pgN k) : ∀ o t, MOp.Ok o → r ≠ o.wds ++ t := fun o t ho e => by
  rw [e] at h hk
  have : o.k = k := by simpa [MOp.wds] using hk
  rw [← this, ← ho.2.2] at h
  simp [MOp.wds] at h
  omega
theorem no_kind {r : List Int} {k : Int} (hk : r.getD 0 0 = k) (h : ¬ (1 ≤ k ∧ k ≤ 4)) : ∀ o t, MOp.Ok o → r ≠ o.wds ++ t := fun o t ho e => by
  rw [e] at hk
  have : o.k = k := by simpa [MOp.wds] using hk
  exact h ⟨by rw [← this]; exact ho.1, by rw [← this]; exact ho.2.1⟩
theorem list_parts {r : List Int} {k a : Int} {p : Nat} (h : 2 + p ≤ r.length) (hk : r.getD 0 0 = k) (ha : r.getD 1 0 = a) : r = (k :: a :: (r.drop 2).take p) ++ r.drop (2 + p) := by
  obtain ⟨x, y, s, rfl⟩ : ∃ x y s, r = x :: y :: s := by
    match r, h with
    | [], h => simp at h
    | [x], h => simp at h; omega
    | x :: y :: s, _ => exact ⟨x, y, s, rfl⟩
  simp only [List.getD_cons_zero, List.getD_cons_succ] at hk ha
  subst hk ha
  simp [Nat.add_comm 2 p]
theorem wds_suffix {a b : List Int} (h : Wds (a ++ b)) : Wds b := fun i => by
  have := wds_drop h a.length i
  simpa using this
theorem cel_new2 (w : World) (o : Obj) (t : TypeId) (cs : List Value) : Cel ((w.alloc o).alloc (.cells cs.toArray t)) (w.heap.size + 1) t cs := by
  have := heap_alloc_new (w.alloc o) (.cells cs.toArray t)
  rwa [show (w.alloc o).heap.size = w.heap.size + 1 by simp] at this
theorem rest_at {W : World} {b off c : Nat} {r : List Int} (h : Row W .u32 b off r) (hb : b < W.heap.size) (n e : Nat) (hn : r.length = n) (hc : n ≤ c) (he : e ≤ n) : At W .u32 (some (cutA b off c e)) (r.drop e) := by
  have := At.cut (W := W) (k := .u32) (ao := some ⟨b, off, none⟩) (.inr ⟨b, off, rfl, hb, h⟩) n c e (n - e) hn hc (by omega)
  rw [List.take_of_length_le (by rw [List.length_drop]; omega)] at this
  unfold cutA
  split at this <;> simp_all [Addr.add_mid]
theorem decode_any (W : World) (ao : Option Addr) (n c : Nat) (ws : List Int) (hn : ws.length = n) (hw : Wds ws) (h : At W .u32 ao ws) (hc : n ≤ c) (hm : n ≤ 4611686018427387904) :
    Calls Tryd.prog 8 #[.slice ao n c] W fun e W' => Below W.heap.size W W' ∧ decR ws e W W' := by
  by_cases hl : 262144 < n
  · have hli : (262144 : Int) < (n : Int) := by omega
    have HN := hid (And.intro hn hl)
    clear hn hl hw h hc hm
    go_enter Tryd.func8, Tryd.ntmps8
    go_wp2_with fail
    go_ret2
    exact ⟨Below.refl _ _, .inl ⟨by rw [HN.out.1]; exact HN.out.2, rfl⟩⟩
  · have hli : (n : Int) ≤ 262144 := by omega
    have HN := hid hn
    have HL := hid (show n ≤ 262144 by omega)
    have HW := hid hw
    have HA := hid h
    have HC := hid hc
    clear hn hl hw h hc hm
    go_enter Tryd.func8, Tryd.ntmps8
    go_wp2_with fail
    go_loopw [4, 5] (fun v s wr => ∃ (l : List Ov) (r : List Int) (A : Option Addr) (m cr : Nat), s = .slice A m cr ∧ Hid (r.length = m ∧ m ≤ cr ∧ At W .u32 A r ∧ DecJ W wr ws v l r)) (fun _ s _ => match s with | .slice _ m _ => m | _ => 0)
    case atStart => exact ⟨[], ws, ao, n, c, rfl, hid ⟨HN.out, HC.out, HA.out, HO.start W, by simp, by simp [enc]⟩⟩
    case round =>
      obtain ⟨l, r, A, m, cr, rfl, HQ⟩ := hrel
      by_cases h0 : m = 0
      · subst h0
        have HR : Hid (r = []) := hid (List.eq_nil_of_length_eq_zero HQ.out.1)
        obtain ⟨av, cv, hv, _, _⟩ := HQ.out.2.2.2.ho.ol
        subst hv
        go_wp2_with fail
        go_ret2
        refine ⟨HQ.out.2.2.2.ho.below, .inr (.inr ⟨by rw [HN.out]; exact HL.out, _, l, rfl, HQ.out.2.2.2.ho, HQ.out.2.2.2.ok, ?_⟩)⟩
        have := HQ.out.2.2.2.is
        rw [HR.out, List.append_nil] at this
        exact this.symm
      · have hmi : (0 : Int) < (m : Int) := by omega
        have HM := hid h0
        have HNE : Hid (r ≠ []) := hid (fun e => HM.out (by rw [← HQ.out.1, e]; rfl))
        have HB0 := hid HQ.out.2.2.2.ho.below
        clear h0
        by_cases h2 : m < 2
        · have HCu := hid (fun w => cut_short w A m cr h2)
          have HF := hid (HQ.out.2.2.2.no HNE.out (no_short (by rw [HQ.out.1]; exact h2)))
          clear h2
          simp only [zop] at HCu
          go_wp2_with (go_at_call 37; refine (HCu.out _).mono ?_; rintro e w1 ⟨rfl, hb⟩; have HB1 := hid (below_on HB0.out hb); clear hb)
          go_ret2
          exact ⟨below_on HB1.out (below_one _ _), .inr (.inl ⟨by rw [HN.out]; exact HL.out, HF.out, rfl⟩)⟩
        · obtain ⟨k, hk⟩ : ∃ k, r.getD 0 0 = k := ⟨_, rfl⟩
          obtain ⟨a, ha⟩ : ∃ a, r.getD 1 0 = a := ⟨_, rfl⟩
          have hr : Wds r := wds_suffix (by rw [← HQ.out.2.2.2.is]; exact HW.out)
          obtain ⟨b, off, rfl, hb, hrow⟩ : ∃ b off, A = some ⟨b, off, none⟩ ∧ b < W.heap.size ∧ Row W .u32 b off r := HQ.out.2.2.1.resolve_left HNE.out
          by_cases h3 : m < 2 + pgN k
          · have HCu := hid (fun w (hw : Below W.heap.size W w) => cut_less w b off m cr r HQ.out.1 hr (hrow.below hw hb) (by have := hw.size; omega) (by omega) k a hk ha h3)
            have HF := hid (HQ.out.2.2.2.no HNE.out (no_less hk (by rw [HQ.out.1]; exact h3)))
            clear h2 h3 hk ha hr hb hrow
            simp only [zop] at HCu
            go_wp2_with (go_at_call 37; refine (HCu.out _ HB0.out).mono ?_; rintro e w1 ⟨rfl, hb⟩; have HB1 := hid (below_on HB0.out hb); clear hb)
            go_ret2
            exact ⟨below_on HB1.out (below_one _ _), .inr (.inl ⟨by rw [HN.out]; exact HL.out, HF.out, rfl⟩)⟩
          · by_cases h4 : 1 ≤ k ∧ k ≤ 4
            · have her : (if okk k (pgN k) = true then (0 : Int) else 150) = 0 := if_pos (by unfold okk; exact decide_eq_true ⟨h4.1, h4.2, rfl⟩)
              have HCu := hid (fun w (hw : Below W.heap.size W w) => cut_full w b off m cr r HQ.out.1 hr (hrow.below hw hb) (by have := hw.size; omega) (by omega) k a hk ha (by omega) HQ.out.2.1 0 her)
              have HP := hid (list_parts (r := r) (p := pgN k) (by rw [HQ.out.1]; omega) hk ha)
              have HK : Hid (1 ≤ k ∧ k ≤ 4 ∧ ((r.drop 2).take (pgN k)).length = pgN k ∧ 2 + pgN k ≤ m) := hid ⟨h4.1, h4.2, by rw [List.length_take, List.length_drop, HQ.out.1]; omega, by omega⟩
              have HLl : Hid ((l.length + 1) * 40 ≤ 140737488355328) := hid (by
                have h5 := enc_two (l.map Ov.o)
                have h6 := congrArg List.length HQ.out.2.2.2.is
                rw [List.length_append, HN.out] at h6
                rw [List.length_map] at h5
                have := HL.out
                omega)
              obtain ⟨av, cv, hv, _, _⟩ := HQ.out.2.2.2.ho.ol
              subst hv
              clear h2 h3 hk ha hr her h4
              obtain ⟨xs, hxs⟩ : ∃ xs, xs = (r.drop 2).take (pgN k) := ⟨_, rfl⟩
              rw [← hxs] at HCu HP HK
              have hp : pgN k = xs.length := HK.out.2.2.1.symm
              have HPk := hid hp
              rw [hp] at HCu HP HK
              have HRW := hid (And.intro hrow hb)
              have HAP : Hid (∀ z ∈ l, ∀ g, (Value.slice z.p z.o.ws.length z.c).ownBlock = some g → g < wr.heap.size) := hid (fun z hz g hg => by
                obtain ⟨_, cur, h6⟩ := own_blk (HQ.out.2.2.2.ho.ws z hz) hg
                exact (Array.getElem?_eq_some_iff.1 h6).1)
              clear hp hxs hrow hb
              go_upto_region 9 with (go_at_call 37; refine (HCu.out _ HB0.out).mono ?_; rintro e w1 ⟨ap, cp, A3, rfl, hh, hat⟩; have HH := hid hh; have HT := hid hat; clear hh hat)
              go_wp2_with (at_builtin; refine wpList_append_o rfl _ _ rfl _ l rfl (((HQ.out.2.2.2.ho.on HH.out.below).on (below_one _ _)).on (below_one _ _)) _ ⟨⟨k, a, xs⟩, ap, cp⟩ rfl (cel_new2 _ _ _ _) (ownsRow_below (ownsRow_below (own_base HH.out.own HB0.out.size) (below_one _ _)) (below_one _ _)) (fun z hz g hg he => by have h7 := HAP.out z hz g hg; have h8 := (own_blk HH.out.own he).1; omega) HLl.out ?_; intro v2 w2 h2; have H2 := hid h2; clear h2)
              go_roundw
              case measure => have := HK.out; have := HM.out; simp <;> omega
              case rel =>
                refine ⟨l ++ [⟨⟨k, a, xs⟩, ap, cp⟩], r.drop (2 + xs.length), some A3, m - (2 + xs.length), cr - (2 + xs.length), rfl, hid ⟨by rw [List.length_drop, HQ.out.1], by have := HQ.out.2.1; omega, ?_, H2.out, ?_, ?_⟩⟩
                · rw [HT.out]; exact rest_at HRW.out.1 HRW.out.2 m _ HQ.out.1 HQ.out.2.1 HK.out.2.2.2
                · intro o ho
                  rw [List.map_append, List.mem_append] at ho
                  rcases ho with ho | ho
                  · exact HQ.out.2.2.2.ok o ho
                  · simp only [List.map_cons, List.map_nil, List.mem_singleton] at ho
                    subst ho
                    exact ⟨HK.out.1, HK.out.2.1, HPk.out.symm⟩
                · rw [List.map_append, enc_app]
                  have h9 := HQ.out.2.2.2.is
                  rw [h9]
                  simp only [List.map_cons, List.map_nil, enc, List.flatMap_cons, List.flatMap_nil, List.append_nil, List.append_assoc]
                  exact congrArg _ HP.out
            · have her : (if okk k (pgN k) = true then (0 : Int) else 150) = 150 := if_neg (by unfold okk; rw [decide_eq_true_iff]; exact fun h => h4 ⟨h.1, h.2.1⟩)
              have HCu := hid (fun w (hw : Below W.heap.size W w) => cut_full w b off m cr r HQ.out.1 hr (hrow.below hw hb) (by have := hw.size; omega) (by omega) k a hk ha (by omega) HQ.out.2.1 150 her)
              have HF := hid (HQ.out.2.2.2.no HNE.out (no_kind hk h4))
              clear h2 h3 hk ha hr hb hrow h4 her
              generalize pgN k = p at *
              go_wp2_with (go_at_call 37; refine (HCu.out _ HB0.out).mono ?_; rintro e w1 ⟨ap, cp, A3, rfl, hh, hat⟩; have HB1 := hid (below_on HB0.out hh.below); clear hh hat)
              go_ret2
              exact ⟨below_on HB1.out (below_one _ _), .inr (.inl ⟨by rw [HN.out]; exact HL.out, HF.out, rfl⟩)⟩
end Go.Proofs.YtmomidkodjihjaaDoor
namespace Go.Proofs.YtmomidkodjihjaaDoor
open Go.RowKit
open H
set_option maxHeartbeats 4000000
set_option maxRecDepth 100000
def wit (x d : Int) : Int := if x.tmod d < 0 then x.tmod d + d else x.tmod d
theorem wit_lo (x d : Int) (h : 0 < d) : 0 ≤ wit x d := by
  have b2 : -d < x.tmod d := by
    have := Int.tmod_lt_of_pos (-x) h
    rw [Int.neg_tmod] at this
    omega
  unfold wit; split <;> omega
theorem wit_hi (x d : Int) (h : 0 < d) : wit x d < d := by
  have b1 : x.tmod d < d := Int.tmod_lt_of_pos x h
  unfold wit; split <;> omega
theorem within_any (W : World) (x lo hi d : Int) (l0 : 0 ≤ lo) (lh : lo ≤ hi) (h1 : hi ≤ 140737488355328) (hd : hi - lo + 1 = d) :
    Calls Tryd.prog 14 #[.int .i64 x, .int .i64 lo, .int .i64 hi] W fun e W' => e = .returned (.int .i64 (lo + wit x d)) ∧ W = W' := by
  have b1 : x.tmod d < d := Int.tmod_lt_of_pos x (by omega)
  have b2 : -d < x.tmod d := by
    have := Int.tmod_lt_of_pos (-x) (show (0 : Int) < d by omega)
    rw [Int.neg_tmod] at this
    omega
  obtain ⟨t, ht⟩ : ∃ t, x.tmod d = t := ⟨_, rfl⟩
  unfold wit
  rw [ht]
  rw [ht] at b1 b2
  have e1 : IntKind.i64.wrap (hi - lo) = hi - lo := by rw [IntKind.wrap_i64]; omega
  have e2 : IntKind.i64.wrap (hi - lo + 1) = d := by rw [IntKind.wrap_i64]; omega
  have z0 : ¬ d = 0 := by omega
  have e3 : IntKind.i64.wrap t = t := by rw [IntKind.wrap_i64]; omega
  by_cases hneg : t < 0
  · rw [if_pos hneg]
    have e4 : IntKind.i64.wrap (t + hi) = t + hi := by rw [IntKind.wrap_i64]; omega
    have e5 : IntKind.i64.wrap (t + hi - lo) = t + hi - lo := by rw [IntKind.wrap_i64]; omega
    have e6 : IntKind.i64.wrap (t + hi - lo + 1) = t + d := by rw [IntKind.wrap_i64]; omega
    have e7 : IntKind.i64.wrap (lo + (t + d)) = lo + (t + d) := by rw [IntKind.wrap_i64]; omega
    clear b1 b2 hd
    go_enter Tryd.func14, Tryd.ntmps14
    go_wp2
    go_ret
    exact ⟨rfl, rfl⟩
  · rw [if_neg hneg]
    have e7 : IntKind.i64.wrap (lo + t) = lo + t := by rw [IntKind.wrap_i64]; omega
    clear b1 b2 hd
    go_enter Tryd.func14, Tryd.ntmps14
    go_wp2
    go_ret
    exact ⟨rfl, rfl⟩
theorem same_any (W : World) (ao bo : Option Addr) (n m c d : Nat) (xs ys : List Int) (hx : xs.length = n) (hy : ys.length = m) (ha : At W .u32 ao xs) (hb : At W .u32 bo ys) (hn : n ≤ 4611686018427387904) :
    Calls Tryd.prog 11 #[.slice ao n c, .slice bo m d] W fun e W' => e = .returned (.bool (decide (xs = ys))) ∧ Below W.heap.size W W' := by
  by_cases hnm : n = m
  · subst hnm
    have HF : Hid ((∀ k, k < n → xs.getD k 0 = ys.getD k 0) → xs = ys) := hid (fun h => List.ext_getElem (hx.trans hy.symm) (fun i h1 h2 => by
      have := h i (by omega)
      simpa [List.getD_eq_getElem?_getD, h1, h2] using this))
    have HX := hid hx
    have HY := hid hy
    have HA := hid ha
    have HB := hid hb
    have q0 : (n : Int) ≤ 4611686018427387904 := by omega
    obtain ⟨r, hr⟩ : ∃ r, r = decide (xs = ys) := ⟨_, rfl⟩
    have HR := hid hr
    rw [← hr]
    clear hx hy ha hb hn hr
    go_enter Tryd.func11, Tryd.ntmps11
    go_wp2_with fail
    go_loopw [5] (fun i wr => ∃ k : Nat, k ≤ n ∧ i = .int .i64 (k : Int) ∧ Hid (Below W.heap.size W wr ∧ ∀ j, j < k → xs.getD j 0 = ys.getD j 0)) (fun i _ => n - (intOf i).toNat)
    case atStart => exact ⟨0, Nat.zero_le _, rfl, hid ⟨Below.refl _ _, by intro j hj; omega⟩⟩
    case round =>
      obtain ⟨k, hk, rfl, HQ⟩ := hrel
      by_cases hlt : k < n
      · obtain ⟨b1, o1, rfl, g1, r1⟩ : ∃ b off, ao = some ⟨b, off, none⟩ ∧ b < W.heap.size ∧ Row W .u32 b off xs := HA.out.resolve_left (by intro e; have := HX.out; rw [e] at this; simp at this; omega)
        obtain ⟨b2, o2, rfl, g2, r2⟩ : ∃ b off, bo = some ⟨b, off, none⟩ ∧ b < W.heap.size ∧ Row W .u32 b off ys := HB.out.resolve_left (by intro e; have := HY.out; rw [e] at this; simp at this; omega)
        have HC : Hid (∀ w, Below W.heap.size W w → w.cell? ⟨b1, o1 + k, none⟩ = some (.int .u32 (xs.getD k 0)) ∧ w.cell? ⟨b2, o2 + k, none⟩ = some (.int .u32 (ys.getD k 0))) := hid (fun w hw => ⟨(r1.below hw g1) k (by rw [HX.out]; exact hlt), (r2.below hw g2) k (by rw [HY.out]; exact hlt)⟩)
        have q1 : (k : Int) < (n : Int) := by omega
        have q2 : (0 : Int) ≤ (k : Int) := by omega
        have HK := hid hlt
        obtain ⟨x, hx⟩ : ∃ x, xs.getD k 0 = x := ⟨_, rfl⟩
        obtain ⟨y, hy⟩ : ∃ y, ys.getD k 0 = y := ⟨_, rfl⟩
        rw [hx, hy] at HC
        have HE : Hid (xs.getD k 0 = x ∧ ys.getD k 0 = y) := hid ⟨hx, hy⟩
        clear hx hy g1 r1 g2 r2 hlt hk
        go_upto_region 6 with fail
        have X0 := hid HQ.out.1.drew
        by_cases he : x = y
        · subst he
          refine wp_region_held_drew (S := fun w => Below W.heap.size W w) (by kernel_rfl) X0.out (fun hHeld => ?_)
          generalize World.drew _ = w0 at *
          refine tk 0 ⟨some 17, .move (.tmp 0), 22, "law.go:83", #[], none⟩ (.slice (some ⟨b1, o1, none⟩) n c) ?_
          simp only [Act.put, List.setIfInBounds_toArray, List.set_cons_zero, List.set_cons_succ]
          refine tk 1 ⟨some 18, .move (.tmp 5), 3, "law.go:83", #[], none⟩ (.int .i64 (k : Int)) ?_
          simp only [Act.put, List.setIfInBounds_toArray, List.set_cons_zero, List.set_cons_succ]
          refine tk 2 ⟨some 19, .indexAddr 22 (.tmp 17) (.tmp 18), 0, "law.go:83", #[⟨0, .data⟩, ⟨1, .data⟩], none⟩ (.pointer (some ⟨b1, o1 + k, none⟩)) ?_
          simp only [Act.put, List.setIfInBounds_toArray, List.set_cons_zero, List.set_cons_succ]
          refine tk 3 ⟨some 20, .load 24 (.tmp 19), 24, "law.go:83", #[⟨2, .data⟩], none⟩ (.int .u32 x) ?_ (hy := Or.inl ⟨by rfl, by intro w hSw; have hc := (HC.out w hSw).1; go_simp⟩)
          simp only [Act.put, List.setIfInBounds_toArray, List.set_cons_zero, List.set_cons_succ]
          refine tk 4 ⟨some 21, .move (.tmp 1), 22, "law.go:83", #[], none⟩ (.slice (some ⟨b2, o2, none⟩) n d) ?_
          simp only [Act.put, List.setIfInBounds_toArray, List.set_cons_zero, List.set_cons_succ]
          refine tk 5 ⟨some 22, .move (.tmp 5), 3, "law.go:83", #[], none⟩ (.int .i64 (k : Int)) ?_
          simp only [Act.put, List.setIfInBounds_toArray, List.set_cons_zero, List.set_cons_succ]
          refine tk 6 ⟨some 23, .indexAddr 22 (.tmp 21) (.tmp 22), 0, "law.go:83", #[⟨4, .data⟩, ⟨5, .data⟩], none⟩ (.pointer (some ⟨b2, o2 + k, none⟩)) ?_
          simp only [Act.put, List.setIfInBounds_toArray, List.set_cons_zero, List.set_cons_succ]
          refine tk 7 ⟨some 24, .load 24 (.tmp 23), 24, "law.go:83", #[⟨6, .data⟩], none⟩ (.int .u32 x) ?_ (hy := Or.inl ⟨by rfl, by intro w hSw; have hc := (HC.out w hSw).2; go_simp⟩)
          simp only [Act.put, List.setIfInBounds_toArray, List.set_cons_zero, List.set_cons_succ]
          refine tk 8 ⟨some 25, .binOp .neq 24 (.tmp 20) (.tmp 24) 24, 4, "law.go:83", #[⟨3, .data⟩, ⟨7, .data⟩], none⟩ (.bool false) ?_
          simp only [Act.put, List.setIfInBounds_toArray, List.set_cons_zero, List.set_cons_succ]
          refine wpAnyH_done (by kernel_rfl) ?_ _
          go_wp2_with fail
          go_roundw
          case measure => have := HK.out; simp [intOf] <;> omega
          case rel => exact ⟨k + 1, HK.out, by simp, hid ⟨X0.out, fun j hj => by
            by_cases e : j = k
            · rw [e, HE.out.1, HE.out.2]
            · exact HQ.out.2 j (by omega)⟩⟩
        · have hne : (x != y) = true := by simpa using he
          have HN : Hid (r = false) := hid (by rw [HR.out]; exact decide_eq_false (fun e => he (by rw [← HE.out.1, ← HE.out.2, e])))
          clear he
          refine wp_region_held_drew (S := fun w => Below W.heap.size W w) (by kernel_rfl) X0.out (fun hHeld => ?_)
          generalize World.drew _ = w0 at *
          refine tk 0 ⟨some 17, .move (.tmp 0), 22, "law.go:83", #[], none⟩ (.slice (some ⟨b1, o1, none⟩) n c) ?_
          simp only [Act.put, List.setIfInBounds_toArray, List.set_cons_zero, List.set_cons_succ]
          refine tk 1 ⟨some 18, .move (.tmp 5), 3, "law.go:83", #[], none⟩ (.int .i64 (k : Int)) ?_
          simp only [Act.put, List.setIfInBounds_toArray, List.set_cons_zero, List.set_cons_succ]
          refine tk 2 ⟨some 19, .indexAddr 22 (.tmp 17) (.tmp 18), 0, "law.go:83", #[⟨0, .data⟩, ⟨1, .data⟩], none⟩ (.pointer (some ⟨b1, o1 + k, none⟩)) ?_
          simp only [Act.put, List.setIfInBounds_toArray, List.set_cons_zero, List.set_cons_succ]
          refine tk 3 ⟨some 20, .load 24 (.tmp 19), 24, "law.go:83", #[⟨2, .data⟩], none⟩ (.int .u32 x) ?_ (hy := Or.inl ⟨by rfl, by intro w hSw; have hc := (HC.out w hSw).1; go_simp⟩)
          simp only [Act.put, List.setIfInBounds_toArray, List.set_cons_zero, List.set_cons_succ]
          refine tk 4 ⟨some 21, .move (.tmp 1), 22, "law.go:83", #[], none⟩ (.slice (some ⟨b2, o2, none⟩) n d) ?_
          simp only [Act.put, List.setIfInBounds_toArray, List.set_cons_zero, List.set_cons_succ]
          refine tk 5 ⟨some 22, .move (.tmp 5), 3, "law.go:83", #[], none⟩ (.int .i64 (k : Int)) ?_
          simp only [Act.put, List.setIfInBounds_toArray, List.set_cons_zero, List.set_cons_succ]
          refine tk 6 ⟨some 23, .indexAddr 22 (.tmp 21) (.tmp 22), 0, "law.go:83", #[⟨4, .data⟩, ⟨5, .data⟩], none⟩ (.pointer (some ⟨b2, o2 + k, none⟩)) ?_
          simp only [Act.put, List.setIfInBounds_toArray, List.set_cons_zero, List.set_cons_succ]
          refine tk 7 ⟨some 24, .load 24 (.tmp 23), 24, "law.go:83", #[⟨6, .data⟩], none⟩ (.int .u32 y) ?_ (hy := Or.inl ⟨by rfl, by intro w hSw; have hc := (HC.out w hSw).2; go_simp⟩)
          simp only [Act.put, List.setIfInBounds_toArray, List.set_cons_zero, List.set_cons_succ]
          refine tk 8 ⟨some 25, .binOp .neq 24 (.tmp 20) (.tmp 24) 24, 4, "law.go:83", #[⟨3, .data⟩, ⟨7, .data⟩], none⟩ (.bool true) ?_
          simp only [Act.put, List.setIfInBounds_toArray, List.set_cons_zero, List.set_cons_succ]
          refine wpAnyH_done (by kernel_rfl) ?_ _
          go_wp2_with fail
          go_ret
          exact ⟨by rw [HN.out]; rfl, X0.out⟩
      · obtain rfl : k = n := by omega
        have HN : Hid (r = true) := hid (by rw [HR.out]; exact decide_eq_true (HF.out HQ.out.2))
        clear hlt hk
        go_wp2_with fail
        go_ret
        exact ⟨by rw [HN.out]; rfl, HQ.out.1⟩
  · have hne : ((n : Int) != (m : Int)) = true := by rw [bne_iff_ne]; omega
    have hF : decide (xs = ys) = false := decide_eq_false (fun e => hnm (by rw [← hx, ← hy, e]))
    rw [hF]
    clear hF hnm ha hb hx hy hn
    go_enter Tryd.func11, Tryd.ntmps11
    go_wp2_with fail
    go_ret
    exact ⟨rfl, Below.refl _ _⟩
end Go.Proofs.YtmomidkodjihjaaDoor
