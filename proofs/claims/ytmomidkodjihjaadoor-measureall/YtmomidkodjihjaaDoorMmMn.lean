/- Decode by what its words are; what MeasureWords needs of lists. MeasureWords. -/
import Derived.Test.YtmomidkodjihjaaDoorMl
namespace Go.Proofs.YtmomidkodjihjaaDoor
open Go.RowKit
open H
set_option maxHeartbeats 4000000
set_option maxRecDepth 100000
theorem decode_ok (W : World) (ao : Option Addr) (n c : Nat) (ws : List Int) (hn : ws.length = n) (hw : Wds ws) (h : At W .u32 ao ws) (hc : n ≤ c) (hl : n ≤ 262144) (hx : ∃ m : List MOp, (∀ o ∈ m, o.Ok) ∧ enc m = ws) :
    Calls Tryd.prog 8 #[.slice ao n c] W fun e W' => ∃ p cp l, e = .returned (.tuple #[.slice p (List.length l) cp, .int .i64 0]) ∧ HO W W' (.slice p l.length cp) l ∧ (∀ o ∈ l.map Ov.o, o.Ok) ∧ enc (l.map Ov.o) = ws := by
  refine (decode_any W ao n c ws hn hw h hc (by omega)).mono ?_
  rintro e w ⟨hb, ⟨h1, _⟩ | ⟨_, h1, _⟩ | ⟨_, v, l, rfl, h1, h2, h3⟩⟩
  · omega
  · obtain ⟨m, h2, h3⟩ := hx
    exact absurd h3 (h1 m h2)
  · obtain ⟨p, cp, hv, _, _⟩ := h1.ol
    subst hv
    exact ⟨p, cp, l, rfl, h1, h2, h3⟩
theorem decode_bad (W : World) (ao : Option Addr) (n c : Nat) (ws : List Int) (hn : ws.length = n) (hw : Wds ws) (h : At W .u32 ao ws) (hc : n ≤ c) (hl : n ≤ 262144) (hx : ¬ ∃ m : List MOp, (∀ o ∈ m, o.Ok) ∧ enc m = ws) :
    Calls Tryd.prog 8 #[.slice ao n c] W fun e W' => e = .returned (.tuple #[.slice none 0 0, .int .i64 150]) ∧ Below W.heap.size W W' := by
  refine (decode_any W ao n c ws hn hw h hc (by omega)).mono ?_
  rintro e w ⟨hb, ⟨h1, _⟩ | ⟨_, _, h1⟩ | ⟨_, v, l, _, _, h2, h3⟩⟩
  · omega
  · exact ⟨h1, hb⟩
  · exact absurd ⟨_, h2, h3⟩ hx
theorem decode_long (W : World) (ao : Option Addr) (n c : Nat) (ws : List Int) (hn : ws.length = n) (hw : Wds ws) (h : At W .u32 ao ws) (hc : n ≤ c) (hm : n ≤ 4611686018427387904) (hl : 262144 < n) :
    Calls Tryd.prog 8 #[.slice ao n c] W fun e W' => e = .returned (.tuple #[.slice none 0 0, .int .i64 2]) ∧ Below W.heap.size W W' := by
  refine (decode_any W ao n c ws hn hw h hc hm).mono ?_
  rintro e w ⟨hb, ⟨_, h1⟩ | ⟨h1, _⟩ | ⟨h1, _⟩⟩
  · exact ⟨h1, hb⟩
  · omega
  · omega
theorem enc_not_one (q : List MOp) (x : Int) : enc q ≠ [x] := fun h => by
  cases q with
  | nil => simp [enc] at h
  | cons o q => rw [enc_cons] at h; simp [MOp.wds] at h
theorem no_cut {l : List MOp} (hl : ∀ o ∈ l, o.Ok) (h0 : 0 < (enc l).length) : ¬ ∃ m : List MOp, (∀ o ∈ m, o.Ok) ∧ enc m = (enc l).take ((enc l).length - 1) := fun ⟨m, h1, h2⟩ => by
  obtain ⟨x, hx⟩ : ∃ x, (enc l).drop ((enc l).length - 1) = [x] := by
    have : ((enc l).drop ((enc l).length - 1)).length = 1 := by rw [List.length_drop]; omega
    match hd : (enc l).drop ((enc l).length - 1), this with
    | [x], _ => exact ⟨x, rfl⟩
  obtain ⟨q, _, h4⟩ := enc_split m l [x] h1 hl (by rw [h2, ← hx, List.take_append_drop])
  exact enc_not_one q x h4
theorem no_more {l : List MOp} (hl : ∀ o ∈ l, o.Ok) (x : Int) : ¬ ∃ m : List MOp, (∀ o ∈ m, o.Ok) ∧ enc m = enc l ++ [x] := fun ⟨m, h1, h2⟩ => by
  obtain ⟨q, _, h4⟩ := enc_split l m [x] hl h1 h2
  exact enc_not_one q x h4
theorem plainL_ok (l : List Lv) (m : Nat) : ∀ o ∈ (l.take m).map plainO, o.Ok := fun o ho => by
  obtain ⟨x, _, rfl⟩ := List.mem_map.1 ho
  exact plain_ok x
theorem enc_len_le : ∀ (l : List MOp), (∀ o ∈ l, o.Ok) → (enc l).length ≤ 1026 * l.length
  | [], _ => by simp [enc]
  | o :: l, h => by
    rw [enc_cons, List.length_append]
    have := (wds_len o (h o (by simp))).2
    have := enc_len_le l (fun x hx => h x (by simp [hx]))
    simp only [List.length_cons]
    omega
theorem plainL_len (l : List Lv) (m : Nat) (hm : m ≤ 8) : (enc ((l.take m).map plainO)).length ≤ 8208 := by
  have := enc_len_le _ (plainL_ok l m)
  have h2 : ((l.take m).map plainO).length ≤ m := by rw [List.length_map, List.length_take]; omega
  omega
/-- Words that came in are words. -/
def LvW (x : Lv) : Prop := 0 ≤ x.a ∧ x.a < 4294967296 ∧ Wds x.ld ∧ 0 ≤ x.fl ∧ x.fl < 4294967296
theorem wds_cons {a : Int} {xs : List Int} (h0 : 0 ≤ a) (h1 : a < 4294967296) (h : Wds xs) : Wds (a :: xs) := fun i => by
  cases i with
  | zero => exact ⟨h0, h1⟩
  | succ i => simpa using h i
theorem wds_lwd {ld : List Int} {fl : Int} (h : Wds ld) (f0 : 0 ≤ fl) (f1 : fl < 4294967296) (n : Nat) : Wds (lwd ld fl n) := fun i => by
  unfold lwd
  by_cases hi : i < n
  · simp only [List.getD_eq_getElem?_getD, List.getElem?_map, List.getElem?_range hi, Option.map_some, Option.getD_some]
    split
    · have := h i
      rwa [List.getD_eq_getElem?_getD] at this
    · exact ⟨f0, f1⟩
  · rw [List.getD_eq_getElem?_getD, List.getElem?_eq_none (by simpa using hi)]
    simp
theorem wds_plain (x : Lv) (h : LvW x) : Wds (plainO x).wds := by
  have h0 := wit_lo x.k 4 (by decide)
  have h1 := wit_hi x.k 4 (by decide)
  refine wds_cons (by show 0 ≤ 1 + wit x.k 4; omega) (by show 1 + wit x.k 4 < _; omega) (wds_cons h.1 h.2.1 ?_)
  show Wds (if 1 + wit x.k 4 = 3 then lwd x.ld x.fl 1024 else [])
  split
  · exact wds_lwd h.2.2.1 h.2.2.2.1 h.2.2.2.2 _
  · exact fun i => by simp
theorem wds_enc : ∀ (l : List Lv), (∀ x ∈ l, LvW x) → Wds (enc (l.map plainO))
  | [], _ => fun i => by simp [enc]
  | x :: l, h => by
    rw [List.map_cons, enc_cons]
    exact wds_append (wds_plain x (h x (by simp))) (wds_enc l (fun y hy => h y (by simp [hy])))
theorem wds_take {xs : List Int} (h : Wds xs) (n : Nat) : Wds (xs.take n) := fun i => by
  by_cases hi : i < n
  · have := h i
    rwa [List.getD_eq_getElem?_getD, List.getElem?_take_of_lt hi, ← List.getD_eq_getElem?_getD]
  · rw [List.getD_eq_getElem?_getD, List.getElem?_eq_none (by simp; omega)]
    simp
theorem holds_base {V W w : World} {v : Value} {L : List Int} (h : Holds W w .u32 24 v L) (hb : Below V.heap.size V W) : Holds V w .u32 24 v L := ⟨own_base h.own hb.size, below_on hb h.below⟩
theorem holds_at' {W w : World} {p : Option Addr} {n cp : Nat} {L : List Int} (h : Holds W w .u32 24 (.slice p n cp) L) : At w .u32 p L ∧ L.length = n ∧ n ≤ cp := by
  obtain ⟨p', cp', e, h1, ha, _⟩ := h.at'
  injection e with e1 e2 e3
  subst e1 e2 e3
  exact ⟨ha, rfl, h1⟩
theorem holds_set {W w : World} {g n c j : Nat} {u : Int} {L : List Int} (h : Holds W w .u32 24 (.slice (some ⟨g, 0, none⟩) n c) L) : Holds W (w.setCell ⟨g, j, none⟩ (.int .u32 u)) .u32 24 (.slice (some ⟨g, 0, none⟩) n c) (L.set j u) := by
  have hl := (holds_at' h).2.1
  have hg := (h.own.lt g rfl).1
  have h0 := h.own
  rw [hl] at h0
  refine ⟨?_, h.below.setCell hg _⟩
  have := (h0.stored j (.int .u32 u)).1
  rw [List.length_set, hl]
  rwa [← List.map_set] at this
end Go.Proofs.YtmomidkodjihjaaDoor
namespace Go.Proofs.YtmomidkodjihjaaDoor
open Go.RowKit
open H
set_option maxHeartbeats 4000000
set_option maxRecDepth 100000
theorem HO.ol' {W w : World} {p : Option Addr} {n cp : Nat} {l : List Ov} (h : HO W w (.slice p n cp) l) : OL w p l ∧ l.length = n ∧ n ≤ cp := by
  obtain ⟨ao, c, e, h1, h2⟩ := h.ol
  injection e with e1 e2 e3
  subst e1 e2 e3
  exact ⟨h2, rfl, h1⟩
theorem holds_but {V w w' : World} {v : Value} {L : List Int} {g : Nat} (h : Holds V w .u32 24 v L) (hb : But g w w') (hg : V.heap.size ≤ g) (hn : ¬ v.ownBlock = some g) : Holds V w' .u32 24 v L := ⟨own_but h.own hb hn, h.below.trans (hb.below hg h.below.size)⟩
theorem holds_free {W w : World} {g n c : Nat} {L : List Int} (h : Holds W w .u32 24 (.slice (some ⟨g, 0, none⟩) n c) L) (j : Nat) : w.frozen? ⟨g, j, none⟩ = false := by
  have h0 := h.own
  rw [(holds_at' h).2.1] at h0
  exact h0.frozenAt j
theorem set_self (E : List Int) (k : Nat) (hw : Wds E) : E.set k ((E.getD k 0 + 0) % 4294967296) = E := by
  obtain ⟨h0, h1⟩ := hw k
  rw [Int.add_zero, Int.emod_eq_of_lt h0 h1]
  rcases Nat.lt_or_ge k E.length with h | h
  · rw [List.getD_eq_getElem?_getD, List.getElem?_eq_getElem h]
    simp
  · rw [List.set_eq_of_length_le h]
theorem words_l (W : World) (hT : Tab W) (h2 : 1 < W.heap.size) (ao : Option Addr) (n c : Nat) (ws : List Int) (hn : ws.length = n) (hw : Wds ws) (h : At W .u32 ao ws) (hc : n ≤ c) (hm : n ≤ 4611686018427387904)
    (bo : Option Addr) (m d : Nat) (l : List Lv) (hl : l.length = m) (hL : LL W bo l) (hb : m * 56 ≤ 140737488355328) (hW : ∀ x ∈ l, LvW x) (at_ : Int) (v : Int) (v0 : 0 ≤ v) (v1 : v < 4294967296) :
    Calls Tryd.prog 3 #[.slice ao n c, .slice bo m d, .int .i64 at_, .int .u32 v] W fun e W' => e = .returned (.bool true) ∧ Below W.heap.size W W' := by
  have HKn := hid (fun w (hw : Below W.heap.size W w) => known_any w (hT.below hw h2) (by have := hw.size; omega))
  have HCo := hid (fun w (hw : Below W.heap.size W w) => copied_any w bo m d l hl (hL.on hw) hb)
  have HPl := hid (fun w (hw : Below W.heap.size W w) w' u (hu : HL w w' u l) => plain_any w w' u l hu (fun x hx => ⟨((hL.ld x hx).1).below hw, (hL.ld x hx).2⟩) 5 (by decide) (by omega))
  obtain ⟨PL, hPL⟩ : ∃ PL, PL = (l.take 5).map plainO := ⟨_, rfl⟩
  have okP : ∀ o ∈ PL, o.Ok := by rw [hPL]; exact plainL_ok l 5
  obtain ⟨E, hE⟩ : ∃ E, E = enc PL := ⟨_, rfl⟩
  obtain ⟨N, hN⟩ : ∃ N, E.length = N := ⟨_, rfl⟩
  have hN8 : N ≤ 8208 := by rw [← hN, hE, hPL]; exact plainL_len l 5 (by decide)
  have wE : Wds E := by rw [hE, hPL]; exact wds_enc _ (fun x hx => hW x (List.mem_of_mem_take hx))
  have HEn : Hid (∀ w pp cc (lo : List Ov), OL w pp lo → lo.map Ov.o = PL → Calls Tryd.prog 10 #[.slice pp lo.length cc] w fun e W' => ∃ pe ce, e = .returned (.tuple #[.slice pe N ce, .int .i64 0]) ∧ Holds w W' .u32 24 (.slice pe N ce) E) := hid (fun w pp cc lo ho hmap => by
    have hl5 : lo.length ≤ 4611686018427387904 := by
      have := congrArg List.length hmap
      rw [List.length_map, hPL, List.length_map, List.length_take] at this
      omega
    refine (encode_ok w pp lo.length cc lo rfl ho hl5 (by rw [hmap]; exact okP) (by rw [hmap, ← hE, hN]; omega)).mono ?_
    rintro e w1 ⟨pe, ce, rfl, h1⟩
    rw [hmap, ← hE, hN] at h1 ⊢
    exact ⟨pe, ce, rfl, h1⟩)
  rw [← hPL] at HPl
  have q8 : (N : Int) ≤ 8208 := by omega
  have HN8 := hid hN8
  have HN := hid hN
  have HWE := hid wE
  have HOK : Hid ((∀ o ∈ PL, o.Ok) ∧ E = enc PL) := hid ⟨okP, hE⟩
  have HV := hid (And.intro v0 v1)
  have qm : (m : Int) ≤ 4611686018427387904 := by omega
  clear hT h2 hl hL hb hW hPL okP hE hN hN8 wE
  obtain ⟨i0, hi, hz0, hz1, hz2⟩ := info_parts Tryd.info24
  by_cases hln : 262144 < n
  · have HD := hid (decode_long W ao n c ws hn hw h hc hm hln)
    clear hn hw h hc hm hln
    go_enter Tryd.func3, Tryd.ntmps3
    go_upto_region 8 with (first | (go_at_call 8; refine HD.out.mono ?_; rintro e w1 ⟨rfl, hb⟩; have B1 := hid hb; clear hb HD) | (go_at_call 9; refine (HKn.out _ B1.out).mono ?_; rintro e w2 ⟨rfl, hb⟩; have BB := hid (below_on B1.out hb); clear hb))
    go_upto_region 9 with (first | (go_at_call 13; refine (HCo.out _ BB.out).mono ?_; rintro e w5 ⟨u5, rfl, h5⟩; have H5 := hid h5; clear h5) | (go_at_call 12; refine (HPl.out _ BB.out _ _ H5.out).mono ?_; rintro e w6 ⟨u6, lo6, rfl, h6, hmap⟩; obtain ⟨p6, c6, hv6, _, hol⟩ := h6.ol; subst hv6; have H6 := hid (And.intro hol hmap); have B6 := hid (below_on BB.out h6.below); clear h6 hmap hol H5) | (go_at_call 10; refine (HEn.out _ _ _ _ H6.out.1 H6.out.2).mono ?_; rintro e w7 ⟨pe, ce, rfl, h7⟩; have H7 := hid (holds_base h7 B6.out); clear h7 H6))
    clear HCo HPl HEn
    by_cases h0 : N = 0
    · subst h0
      go_wp2_with fail
      go_ret
      exact ⟨rfl, H7.out.below⟩
    have hpos : (0 : Int) < (N : Int) := by omega
    have hne0 : ((N : Int) == 0) = false := by rw [beq_eq_false_iff_ne]; omega
    have w1n : IntKind.wrap .i64 ((N : Int) - 1) = (N : Int) - 1 := wrap_i64 _ (by omega) (by omega)
    obtain ⟨kn, hkn⟩ : ∃ kn : Nat, (kn : Int) = wit at_ (N : Int) := ⟨(wit at_ (N : Int)).toNat, Int.toNat_of_nonneg (wit_lo _ _ (by omega))⟩
    have hk1 : (kn : Int) < (N : Int) := by rw [hkn]; exact wit_hi _ _ (by omega)
    have HIn := hid (fun w => within_any w at_ 0 ((N : Int) - 1) (N : Int) (by decide) (by omega) (by omega) (by omega))
    rw [← hkn] at HIn
    simp only [Int.zero_add] at HIn
    have HK := hid (show kn < N by omega)
    have HP0 := hid (show 0 < N by omega)
    obtain ⟨T, hT⟩ : ∃ T, T = E.set kn ((E.getD kn 0 + v) % 4294967296) := ⟨_, rfl⟩
    have HTT := hid hT
    have hTl : T.length = N := by rw [hT, List.length_set]; exact HN.out
    have HTl := hid hTl
    have HTw : Hid (Wds T) := hid (by rw [hT]; exact wds_set HWE.out _ _ (by omega) (by omega))
    have hge : (0 : Int) ≤ (kn : Int) := by omega
    clear hkn h0 hT hTl
    go_upto_region 13 with (go_at_call 14; refine (HIn.out _).mono ?_; rintro e w8 ⟨rfl, hw8⟩; subst w8)
    have A7 := hid (holds_at' H7.out)
    go_upto_region 14 with (at_builtin; refine wpList_append_new rfl _ _ 22 rfl .u32 24 i0 (.int .u32 0) 4 Tryd.underlying22 hi hz0 hz1 hz2 rfl rfl pe N ce E rfl HN.out A7.out.1 (by have := HN8.out; unfold maxLen; omega) (by have := HN8.out; omega) ?_; intro v8 w8 h8; obtain ⟨g8, c8, hv8, hc8, hg8, hl8, hr8⟩ := h8.form (by rw [HN.out]; exact HP0.out); rw [HN.out] at hv8; subst hv8; have H8 := hid h8; have c8k := hr8 kn (by rw [HN.out]; exact HK.out); rw [Nat.zero_add] at c8k; have f8 := holds_free h8 kn; have H9 : Hid (Holds W w8 .u32 24 (.slice pe N ce) E ∧ ∀ g, (Value.slice pe N ce).ownBlock = some g → g < w7.heap.size) := hid ⟨holds_on H7.out h8.below, fun g hg => (H7.out.own.lt g hg).2⟩; have HG8 := hid (And.intro hg8 hc8); clear hr8 hg8 hl8 h8 hc8)
    have hsum := HV.out
    obtain ⟨ek, hek⟩ : ∃ ek, E.getD kn 0 = ek := ⟨_, rfl⟩
    have hek0 := HWE.out kn
    rw [hek] at c8k hek0
    go_upto_region 15 with fail
    have X9 : Hid ((Holds W (w8.setCell ⟨g8, kn, none⟩ (.int .u32 ((ek + v) % 4294967296))) .u32 24 (.slice pe N ce) E) ∧ Holds w7 (w8.setCell ⟨g8, kn, none⟩ (.int .u32 ((ek + v) % 4294967296))) .u32 24 (.slice (some ⟨g8, 0, none⟩) N c8) T) := hid ⟨holds_but H9.out.1 (but_setCell _ _ _ _) (by have := H7.out.below.size; have := HG8.out.1; omega) (fun e => by have := H9.out.2 g8 e; have := HG8.out.1; omega), by rw [HTT.out, hek]; exact holds_set H8.out⟩
    clear c8k f8 H8 hek0
    generalize World.setCell _ _ _ = w9 at *
    by_cases hxT : ∃ m : List MOp, (∀ o ∈ m, o.Ok) ∧ enc m = T
    · have HD2 := hid (decode_ok w9 _ N c8 T HTl.out HTw.out (holds_at' X9.out.2).1 (holds_at' X9.out.2).2.2 (by have := HN8.out; omega) hxT)
      have HE2 : Hid (∀ w pp cc (lo : List Ov), OL w pp lo → (∀ o ∈ lo.map Ov.o, o.Ok) → enc (lo.map Ov.o) = T → Calls Tryd.prog 10 #[.slice pp lo.length cc] w fun e W' => ∃ pe ce, e = .returned (.tuple #[.slice pe N ce, .int .i64 0]) ∧ Holds w W' .u32 24 (.slice pe N ce) T) := hid (fun w pp cc lo ho hok henc => by
        have h5 := enc_two (lo.map Ov.o)
        rw [henc, HTl.out, List.length_map] at h5
        have h6 := HN8.out
        refine (encode_ok w pp lo.length cc lo rfl ho (by omega) hok (by rw [henc, HTl.out]; omega)).mono ?_
        rintro e w1 ⟨pe, ce, rfl, h1⟩
        rw [henc, HTl.out] at h1 ⊢
        exact ⟨pe, ce, rfl, h1⟩)
      have HS2 := hid (fun w p cp q cq (hp : At w .u32 p T) (hq : At w .u32 q T) => same_any w p q N N cp cq T T HTl.out HTl.out hp hq (by have := HN8.out; omega))
      rw [decide_eq_true rfl] at HS2
      clear hxT
      go_upto_region 21 with (first | (go_at_call 8; refine HD2.out.mono ?_; rintro e w10 ⟨p10, c10, lo10, rfl, ho, hok, henc⟩; have X10 := hid (And.intro (holds_on X9.out.1 ho.below) (holds_on X9.out.2 ho.below)); have H10 := hid (And.intro ho.ol'.1 (And.intro hok henc)); clear ho hok henc HD2 X9) | (go_at_call 10; refine (HE2.out _ _ _ _ H10.out.1 H10.out.2.1 H10.out.2.2).mono ?_; rintro e w11 ⟨p11, c11, rfl, h11⟩; have X11 := hid (And.intro (holds_on X10.out.1 h11.below) (And.intro (holds_on X10.out.2 h11.below) (holds_at' h11).1)); clear h11 X10 H10) | (go_at_call 11; refine (HS2.out _ _ _ _ _ X11.out.2.2 (holds_at' X11.out.2.1).1).mono ?_; rintro e w12 ⟨rfl, hb⟩; have X12 := hid (holds_on X11.out.1 hb); clear hb X11))
      have hN1 : ((N : Int) - 1).toNat = N - 1 := by omega
      have hq1 : (0 : Int) ≤ (N : Int) - 1 := by omega
      have hce := (holds_at' X12.out).2.2
      have hq2 : (N : Int) - 1 ≤ (ce : Int) := by omega
      have HD3 := hid (fun w (hp : At w .u32 pe E) => decode_bad w pe (N - 1) ce (E.take (N - 1)) (by rw [List.length_take, HN.out]; omega) (wds_take HWE.out _) (hp.head _) (by omega) (by have := HN8.out; omega) (by have h3 := no_cut HOK.out.1 (by rw [← HOK.out.2, HN.out]; exact HP0.out); rwa [← HOK.out.2, HN.out] at h3))
      have HD4 := hid (fun w p cp (hp : At w .u32 p (E ++ [0])) (hc : N + 1 ≤ cp) => decode_bad w p (N + 1) cp (E ++ [0]) (by rw [List.length_append, HN.out]; rfl) (wds_append HWE.out (wds_cons (by decide) (by decide) (fun i => by simp))) hp hc (by have := HN8.out; omega) (by have h3 := no_more HOK.out.1 0; rwa [← HOK.out.2] at h3))
      clear hce
      go_upto_region 22 with (go_at_call 8; refine (HD3.out _ (holds_at' X12.out).1).mono ?_; rintro e w13 ⟨rfl, hb⟩; have X13 := hid (holds_on X12.out hb); clear hb X12)
      go_upto_region 23 with (at_builtin; refine wpList_append_h rfl _ _ rfl _ E rfl (X13.out.alloc _) _ 1 1 [0] rfl rfl (at_one _ _) (by rw [HN.out]; have := HN8.out; omega) ?_; intro v14 w14 h14; obtain ⟨p14, c14, hv14, hc14, _⟩ := h14.at'; rw [List.length_append, HN.out, List.length_singleton] at hv14 hc14; subst hv14; have X14 := hid (And.intro h14 hc14); clear h14 hc14 X13)
      go_wp2_with (go_at_call 8; refine (HD4.out _ _ _ (holds_at' X14.out.1).1 X14.out.2).mono ?_; rintro e w15 ⟨rfl, hb⟩; have X15 := hid (below_on X14.out.1.below hb); clear hb X14)
      go_ret
      exact ⟨rfl, X15.out⟩
    · have HD2 := hid (decode_bad w9 _ N c8 T HTl.out HTw.out (holds_at' X9.out.2).1 (holds_at' X9.out.2).2.2 (by have := HN8.out; omega) hxT)
      have hv : (v != 0) = true := by
        rw [bne_iff_ne]
        intro e
        subst e
        exact hxT ⟨PL, HOK.out.1, by rw [HTT.out, set_self E kn HWE.out]; exact HOK.out.2.symm⟩
      clear hxT
      go_wp2_with (go_at_call 8; refine HD2.out.mono ?_; rintro e w10 ⟨rfl, hb⟩; have X10 := hid (below_on X9.out.1.below hb); clear hb X9)
      go_ret
      exact ⟨rfl, X10.out⟩
  · by_cases hex : ∃ m : List MOp, (∀ o ∈ m, o.Ok) ∧ enc m = ws
    · have HD := hid (decode_ok W ao n c ws hn hw h hc (by omega) hex)
      have HE1 : Hid (∀ w pp cc (lo : List Ov), OL w pp lo → (∀ o ∈ lo.map Ov.o, o.Ok) → enc (lo.map Ov.o) = ws → Calls Tryd.prog 10 #[.slice pp lo.length cc] w fun e W' => ∃ pe ce, e = .returned (.tuple #[.slice pe n ce, .int .i64 0]) ∧ Holds w W' .u32 24 (.slice pe n ce) ws) := hid (fun w pp cc lo ho hok henc => by
        have h5 := enc_two (lo.map Ov.o)
        rw [henc, hn, List.length_map] at h5
        refine (encode_ok w pp lo.length cc lo rfl ho (by omega) hok (by rw [henc, hn]; omega)).mono ?_
        rintro e w1 ⟨pe, ce, rfl, h1⟩
        rw [henc, hn] at h1 ⊢
        exact ⟨pe, ce, rfl, h1⟩)
      have HS1 := hid (fun w p cp (hb : Below W.heap.size W w) (hp : At w .u32 p ws) => same_any w p ao n n cp c ws ws hn hn hp (h.below hb) hm)
      rw [decide_eq_true rfl] at HS1
      clear hn hw h hc hm hln hex
      go_enter Tryd.func3, Tryd.ntmps3
      go_upto_region 8 with (first | (go_at_call 8; refine HD.out.mono ?_; rintro e w1 ⟨p, cp, lo, rfl, ho, hok, henc⟩; have H1 := hid ho; have HO1 := hid (And.intro hok henc); clear ho hok henc HD) | (go_at_call 9; refine (HKn.out _ H1.out.below).mono ?_; rintro e w2 ⟨rfl, hb⟩; have H2 := hid (H1.out.on hb); clear hb H1) | (go_at_call 10; refine (HE1.out _ _ _ _ H2.out.ol'.1 HO1.out.1 HO1.out.2).mono ?_; rintro e w3 ⟨pw, cw, rfl, h3⟩; have H3 := hid (holds_base h3 H2.out.below); clear h3) | (go_at_call 11; refine (HS1.out _ _ _ H3.out.below (holds_at' H3.out).1).mono ?_; rintro e w4 ⟨rfl, hb⟩; have BB := hid (below_on H3.out.below hb); clear hb H3))
      go_upto_region 9 with (first | (go_at_call 13; refine (HCo.out _ BB.out).mono ?_; rintro e w5 ⟨u5, rfl, h5⟩; have H5 := hid h5; clear h5) | (go_at_call 12; refine (HPl.out _ BB.out _ _ H5.out).mono ?_; rintro e w6 ⟨u6, lo6, rfl, h6, hmap⟩; obtain ⟨p6, c6, hv6, _, hol⟩ := h6.ol; subst hv6; have H6 := hid (And.intro hol hmap); have B6 := hid (below_on BB.out h6.below); clear h6 hmap hol H5) | (go_at_call 10; refine (HEn.out _ _ _ _ H6.out.1 H6.out.2).mono ?_; rintro e w7 ⟨pe, ce, rfl, h7⟩; have H7 := hid (holds_base h7 B6.out); clear h7 H6))
      clear HCo HPl HEn
      by_cases h0 : N = 0
      · subst h0
        go_wp2_with fail
        go_ret
        exact ⟨rfl, H7.out.below⟩
      have hpos : (0 : Int) < (N : Int) := by omega
      have hne0 : ((N : Int) == 0) = false := by rw [beq_eq_false_iff_ne]; omega
      have w1n : IntKind.wrap .i64 ((N : Int) - 1) = (N : Int) - 1 := wrap_i64 _ (by omega) (by omega)
      obtain ⟨kn, hkn⟩ : ∃ kn : Nat, (kn : Int) = wit at_ (N : Int) := ⟨(wit at_ (N : Int)).toNat, Int.toNat_of_nonneg (wit_lo _ _ (by omega))⟩
      have hk1 : (kn : Int) < (N : Int) := by rw [hkn]; exact wit_hi _ _ (by omega)
      have HIn := hid (fun w => within_any w at_ 0 ((N : Int) - 1) (N : Int) (by decide) (by omega) (by omega) (by omega))
      rw [← hkn] at HIn
      simp only [Int.zero_add] at HIn
      have HK := hid (show kn < N by omega)
      have HP0 := hid (show 0 < N by omega)
      obtain ⟨T, hT⟩ : ∃ T, T = E.set kn ((E.getD kn 0 + v) % 4294967296) := ⟨_, rfl⟩
      have HTT := hid hT
      have hTl : T.length = N := by rw [hT, List.length_set]; exact HN.out
      have HTl := hid hTl
      have HTw : Hid (Wds T) := hid (by rw [hT]; exact wds_set HWE.out _ _ (by omega) (by omega))
      have hge : (0 : Int) ≤ (kn : Int) := by omega
      clear hkn h0 hT hTl
      go_upto_region 13 with (go_at_call 14; refine (HIn.out _).mono ?_; rintro e w8 ⟨rfl, hw8⟩; subst w8)
      have A7 := hid (holds_at' H7.out)
      go_upto_region 14 with (at_builtin; refine wpList_append_new rfl _ _ 22 rfl .u32 24 i0 (.int .u32 0) 4 Tryd.underlying22 hi hz0 hz1 hz2 rfl rfl pe N ce E rfl HN.out A7.out.1 (by have := HN8.out; unfold maxLen; omega) (by have := HN8.out; omega) ?_; intro v8 w8 h8; obtain ⟨g8, c8, hv8, hc8, hg8, hl8, hr8⟩ := h8.form (by rw [HN.out]; exact HP0.out); rw [HN.out] at hv8; subst hv8; have H8 := hid h8; have c8k := hr8 kn (by rw [HN.out]; exact HK.out); rw [Nat.zero_add] at c8k; have f8 := holds_free h8 kn; have H9 : Hid (Holds W w8 .u32 24 (.slice pe N ce) E ∧ ∀ g, (Value.slice pe N ce).ownBlock = some g → g < w7.heap.size) := hid ⟨holds_on H7.out h8.below, fun g hg => (H7.out.own.lt g hg).2⟩; have HG8 := hid (And.intro hg8 hc8); clear hr8 hg8 hl8 h8 hc8)
      have hsum := HV.out
      obtain ⟨ek, hek⟩ : ∃ ek, E.getD kn 0 = ek := ⟨_, rfl⟩
      have hek0 := HWE.out kn
      rw [hek] at c8k hek0
      go_upto_region 15 with fail
      have X9 : Hid ((Holds W (w8.setCell ⟨g8, kn, none⟩ (.int .u32 ((ek + v) % 4294967296))) .u32 24 (.slice pe N ce) E) ∧ Holds w7 (w8.setCell ⟨g8, kn, none⟩ (.int .u32 ((ek + v) % 4294967296))) .u32 24 (.slice (some ⟨g8, 0, none⟩) N c8) T) := hid ⟨holds_but H9.out.1 (but_setCell _ _ _ _) (by have := H7.out.below.size; have := HG8.out.1; omega) (fun e => by have := H9.out.2 g8 e; have := HG8.out.1; omega), by rw [HTT.out, hek]; exact holds_set H8.out⟩
      clear c8k f8 H8 hek0
      generalize World.setCell _ _ _ = w9 at *
      by_cases hxT : ∃ m : List MOp, (∀ o ∈ m, o.Ok) ∧ enc m = T
      · have HD2 := hid (decode_ok w9 _ N c8 T HTl.out HTw.out (holds_at' X9.out.2).1 (holds_at' X9.out.2).2.2 (by have := HN8.out; omega) hxT)
        have HE2 : Hid (∀ w pp cc (lo : List Ov), OL w pp lo → (∀ o ∈ lo.map Ov.o, o.Ok) → enc (lo.map Ov.o) = T → Calls Tryd.prog 10 #[.slice pp lo.length cc] w fun e W' => ∃ pe ce, e = .returned (.tuple #[.slice pe N ce, .int .i64 0]) ∧ Holds w W' .u32 24 (.slice pe N ce) T) := hid (fun w pp cc lo ho hok henc => by
          have h5 := enc_two (lo.map Ov.o)
          rw [henc, HTl.out, List.length_map] at h5
          have h6 := HN8.out
          refine (encode_ok w pp lo.length cc lo rfl ho (by omega) hok (by rw [henc, HTl.out]; omega)).mono ?_
          rintro e w1 ⟨pe, ce, rfl, h1⟩
          rw [henc, HTl.out] at h1 ⊢
          exact ⟨pe, ce, rfl, h1⟩)
        have HS2 := hid (fun w p cp q cq (hp : At w .u32 p T) (hq : At w .u32 q T) => same_any w p q N N cp cq T T HTl.out HTl.out hp hq (by have := HN8.out; omega))
        rw [decide_eq_true rfl] at HS2
        clear hxT
        go_upto_region 21 with (first | (go_at_call 8; refine HD2.out.mono ?_; rintro e w10 ⟨p10, c10, lo10, rfl, ho, hok, henc⟩; have X10 := hid (And.intro (holds_on X9.out.1 ho.below) (holds_on X9.out.2 ho.below)); have H10 := hid (And.intro ho.ol'.1 (And.intro hok henc)); clear ho hok henc HD2 X9) | (go_at_call 10; refine (HE2.out _ _ _ _ H10.out.1 H10.out.2.1 H10.out.2.2).mono ?_; rintro e w11 ⟨p11, c11, rfl, h11⟩; have X11 := hid (And.intro (holds_on X10.out.1 h11.below) (And.intro (holds_on X10.out.2 h11.below) (holds_at' h11).1)); clear h11 X10 H10) | (go_at_call 11; refine (HS2.out _ _ _ _ _ X11.out.2.2 (holds_at' X11.out.2.1).1).mono ?_; rintro e w12 ⟨rfl, hb⟩; have X12 := hid (holds_on X11.out.1 hb); clear hb X11))
        have hN1 : ((N : Int) - 1).toNat = N - 1 := by omega
        have hq1 : (0 : Int) ≤ (N : Int) - 1 := by omega
        have hce := (holds_at' X12.out).2.2
        have hq2 : (N : Int) - 1 ≤ (ce : Int) := by omega
        have HD3 := hid (fun w (hp : At w .u32 pe E) => decode_bad w pe (N - 1) ce (E.take (N - 1)) (by rw [List.length_take, HN.out]; omega) (wds_take HWE.out _) (hp.head _) (by omega) (by have := HN8.out; omega) (by have h3 := no_cut HOK.out.1 (by rw [← HOK.out.2, HN.out]; exact HP0.out); rwa [← HOK.out.2, HN.out] at h3))
        have HD4 := hid (fun w p cp (hp : At w .u32 p (E ++ [0])) (hc : N + 1 ≤ cp) => decode_bad w p (N + 1) cp (E ++ [0]) (by rw [List.length_append, HN.out]; rfl) (wds_append HWE.out (wds_cons (by decide) (by decide) (fun i => by simp))) hp hc (by have := HN8.out; omega) (by have h3 := no_more HOK.out.1 0; rwa [← HOK.out.2] at h3))
        clear hce
        go_upto_region 22 with (go_at_call 8; refine (HD3.out _ (holds_at' X12.out).1).mono ?_; rintro e w13 ⟨rfl, hb⟩; have X13 := hid (holds_on X12.out hb); clear hb X12)
        go_upto_region 23 with (at_builtin; refine wpList_append_h rfl _ _ rfl _ E rfl (X13.out.alloc _) _ 1 1 [0] rfl rfl (at_one _ _) (by rw [HN.out]; have := HN8.out; omega) ?_; intro v14 w14 h14; obtain ⟨p14, c14, hv14, hc14, _⟩ := h14.at'; rw [List.length_append, HN.out, List.length_singleton] at hv14 hc14; subst hv14; have X14 := hid (And.intro h14 hc14); clear h14 hc14 X13)
        go_wp2_with (go_at_call 8; refine (HD4.out _ _ _ (holds_at' X14.out.1).1 X14.out.2).mono ?_; rintro e w15 ⟨rfl, hb⟩; have X15 := hid (below_on X14.out.1.below hb); clear hb X14)
        go_ret
        exact ⟨rfl, X15.out⟩
      · have HD2 := hid (decode_bad w9 _ N c8 T HTl.out HTw.out (holds_at' X9.out.2).1 (holds_at' X9.out.2).2.2 (by have := HN8.out; omega) hxT)
        have hv : (v != 0) = true := by
          rw [bne_iff_ne]
          intro e
          subst e
          exact hxT ⟨PL, HOK.out.1, by rw [HTT.out, set_self E kn HWE.out]; exact HOK.out.2.symm⟩
        clear hxT
        go_wp2_with (go_at_call 8; refine HD2.out.mono ?_; rintro e w10 ⟨rfl, hb⟩; have X10 := hid (below_on X9.out.1.below hb); clear hb X9)
        go_ret
        exact ⟨rfl, X10.out⟩
    · have HD := hid (decode_bad W ao n c ws hn hw h hc (by omega) hex)
      clear hn hw h hc hm hln hex
      go_enter Tryd.func3, Tryd.ntmps3
      go_upto_region 8 with (first | (go_at_call 8; refine HD.out.mono ?_; rintro e w1 ⟨rfl, hb⟩; have B1 := hid hb; clear hb HD) | (go_at_call 9; refine (HKn.out _ B1.out).mono ?_; rintro e w2 ⟨rfl, hb⟩; have BB := hid (below_on B1.out hb); clear hb))
      go_upto_region 9 with (first | (go_at_call 13; refine (HCo.out _ BB.out).mono ?_; rintro e w5 ⟨u5, rfl, h5⟩; have H5 := hid h5; clear h5) | (go_at_call 12; refine (HPl.out _ BB.out _ _ H5.out).mono ?_; rintro e w6 ⟨u6, lo6, rfl, h6, hmap⟩; obtain ⟨p6, c6, hv6, _, hol⟩ := h6.ol; subst hv6; have H6 := hid (And.intro hol hmap); have B6 := hid (below_on BB.out h6.below); clear h6 hmap hol H5) | (go_at_call 10; refine (HEn.out _ _ _ _ H6.out.1 H6.out.2).mono ?_; rintro e w7 ⟨pe, ce, rfl, h7⟩; have H7 := hid (holds_base h7 B6.out); clear h7 H6))
      clear HCo HPl HEn
      by_cases h0 : N = 0
      · subst h0
        go_wp2_with fail
        go_ret
        exact ⟨rfl, H7.out.below⟩
      have hpos : (0 : Int) < (N : Int) := by omega
      have hne0 : ((N : Int) == 0) = false := by rw [beq_eq_false_iff_ne]; omega
      have w1n : IntKind.wrap .i64 ((N : Int) - 1) = (N : Int) - 1 := wrap_i64 _ (by omega) (by omega)
      obtain ⟨kn, hkn⟩ : ∃ kn : Nat, (kn : Int) = wit at_ (N : Int) := ⟨(wit at_ (N : Int)).toNat, Int.toNat_of_nonneg (wit_lo _ _ (by omega))⟩
      have hk1 : (kn : Int) < (N : Int) := by rw [hkn]; exact wit_hi _ _ (by omega)
      have HIn := hid (fun w => within_any w at_ 0 ((N : Int) - 1) (N : Int) (by decide) (by omega) (by omega) (by omega))
      rw [← hkn] at HIn
      simp only [Int.zero_add] at HIn
      have HK := hid (show kn < N by omega)
      have HP0 := hid (show 0 < N by omega)
      obtain ⟨T, hT⟩ : ∃ T, T = E.set kn ((E.getD kn 0 + v) % 4294967296) := ⟨_, rfl⟩
      have HTT := hid hT
      have hTl : T.length = N := by rw [hT, List.length_set]; exact HN.out
      have HTl := hid hTl
      have HTw : Hid (Wds T) := hid (by rw [hT]; exact wds_set HWE.out _ _ (by omega) (by omega))
      have hge : (0 : Int) ≤ (kn : Int) := by omega
      clear hkn h0 hT hTl
      go_upto_region 13 with (go_at_call 14; refine (HIn.out _).mono ?_; rintro e w8 ⟨rfl, hw8⟩; subst w8)
      have A7 := hid (holds_at' H7.out)
      go_upto_region 14 with (at_builtin; refine wpList_append_new rfl _ _ 22 rfl .u32 24 i0 (.int .u32 0) 4 Tryd.underlying22 hi hz0 hz1 hz2 rfl rfl pe N ce E rfl HN.out A7.out.1 (by have := HN8.out; unfold maxLen; omega) (by have := HN8.out; omega) ?_; intro v8 w8 h8; obtain ⟨g8, c8, hv8, hc8, hg8, hl8, hr8⟩ := h8.form (by rw [HN.out]; exact HP0.out); rw [HN.out] at hv8; subst hv8; have H8 := hid h8; have c8k := hr8 kn (by rw [HN.out]; exact HK.out); rw [Nat.zero_add] at c8k; have f8 := holds_free h8 kn; have H9 : Hid (Holds W w8 .u32 24 (.slice pe N ce) E ∧ ∀ g, (Value.slice pe N ce).ownBlock = some g → g < w7.heap.size) := hid ⟨holds_on H7.out h8.below, fun g hg => (H7.out.own.lt g hg).2⟩; have HG8 := hid (And.intro hg8 hc8); clear hr8 hg8 hl8 h8 hc8)
      have hsum := HV.out
      obtain ⟨ek, hek⟩ : ∃ ek, E.getD kn 0 = ek := ⟨_, rfl⟩
      have hek0 := HWE.out kn
      rw [hek] at c8k hek0
      go_upto_region 15 with fail
      have X9 : Hid ((Holds W (w8.setCell ⟨g8, kn, none⟩ (.int .u32 ((ek + v) % 4294967296))) .u32 24 (.slice pe N ce) E) ∧ Holds w7 (w8.setCell ⟨g8, kn, none⟩ (.int .u32 ((ek + v) % 4294967296))) .u32 24 (.slice (some ⟨g8, 0, none⟩) N c8) T) := hid ⟨holds_but H9.out.1 (but_setCell _ _ _ _) (by have := H7.out.below.size; have := HG8.out.1; omega) (fun e => by have := H9.out.2 g8 e; have := HG8.out.1; omega), by rw [HTT.out, hek]; exact holds_set H8.out⟩
      clear c8k f8 H8 hek0
      generalize World.setCell _ _ _ = w9 at *
      by_cases hxT : ∃ m : List MOp, (∀ o ∈ m, o.Ok) ∧ enc m = T
      · have HD2 := hid (decode_ok w9 _ N c8 T HTl.out HTw.out (holds_at' X9.out.2).1 (holds_at' X9.out.2).2.2 (by have := HN8.out; omega) hxT)
        have HE2 : Hid (∀ w pp cc (lo : List Ov), OL w pp lo → (∀ o ∈ lo.map Ov.o, o.Ok) → enc (lo.map Ov.o) = T → Calls Tryd.prog 10 #[.slice pp lo.length cc] w fun e W' => ∃ pe ce, e = .returned (.tuple #[.slice pe N ce, .int .i64 0]) ∧ Holds w W' .u32 24 (.slice pe N ce) T) := hid (fun w pp cc lo ho hok henc => by
          have h5 := enc_two (lo.map Ov.o)
          rw [henc, HTl.out, List.length_map] at h5
          have h6 := HN8.out
          refine (encode_ok w pp lo.length cc lo rfl ho (by omega) hok (by rw [henc, HTl.out]; omega)).mono ?_
          rintro e w1 ⟨pe, ce, rfl, h1⟩
          rw [henc, HTl.out] at h1 ⊢
          exact ⟨pe, ce, rfl, h1⟩)
        have HS2 := hid (fun w p cp q cq (hp : At w .u32 p T) (hq : At w .u32 q T) => same_any w p q N N cp cq T T HTl.out HTl.out hp hq (by have := HN8.out; omega))
        rw [decide_eq_true rfl] at HS2
        clear hxT
        go_upto_region 21 with (first | (go_at_call 8; refine HD2.out.mono ?_; rintro e w10 ⟨p10, c10, lo10, rfl, ho, hok, henc⟩; have X10 := hid (And.intro (holds_on X9.out.1 ho.below) (holds_on X9.out.2 ho.below)); have H10 := hid (And.intro ho.ol'.1 (And.intro hok henc)); clear ho hok henc HD2 X9) | (go_at_call 10; refine (HE2.out _ _ _ _ H10.out.1 H10.out.2.1 H10.out.2.2).mono ?_; rintro e w11 ⟨p11, c11, rfl, h11⟩; have X11 := hid (And.intro (holds_on X10.out.1 h11.below) (And.intro (holds_on X10.out.2 h11.below) (holds_at' h11).1)); clear h11 X10 H10) | (go_at_call 11; refine (HS2.out _ _ _ _ _ X11.out.2.2 (holds_at' X11.out.2.1).1).mono ?_; rintro e w12 ⟨rfl, hb⟩; have X12 := hid (holds_on X11.out.1 hb); clear hb X11))
        have hN1 : ((N : Int) - 1).toNat = N - 1 := by omega
        have hq1 : (0 : Int) ≤ (N : Int) - 1 := by omega
        have hce := (holds_at' X12.out).2.2
        have hq2 : (N : Int) - 1 ≤ (ce : Int) := by omega
        have HD3 := hid (fun w (hp : At w .u32 pe E) => decode_bad w pe (N - 1) ce (E.take (N - 1)) (by rw [List.length_take, HN.out]; omega) (wds_take HWE.out _) (hp.head _) (by omega) (by have := HN8.out; omega) (by have h3 := no_cut HOK.out.1 (by rw [← HOK.out.2, HN.out]; exact HP0.out); rwa [← HOK.out.2, HN.out] at h3))
        have HD4 := hid (fun w p cp (hp : At w .u32 p (E ++ [0])) (hc : N + 1 ≤ cp) => decode_bad w p (N + 1) cp (E ++ [0]) (by rw [List.length_append, HN.out]; rfl) (wds_append HWE.out (wds_cons (by decide) (by decide) (fun i => by simp))) hp hc (by have := HN8.out; omega) (by have h3 := no_more HOK.out.1 0; rwa [← HOK.out.2] at h3))
        clear hce
        go_upto_region 22 with (go_at_call 8; refine (HD3.out _ (holds_at' X12.out).1).mono ?_; rintro e w13 ⟨rfl, hb⟩; have X13 := hid (holds_on X12.out hb); clear hb X12)
        go_upto_region 23 with (at_builtin; refine wpList_append_h rfl _ _ rfl _ E rfl (X13.out.alloc _) _ 1 1 [0] rfl rfl (at_one _ _) (by rw [HN.out]; have := HN8.out; omega) ?_; intro v14 w14 h14; obtain ⟨p14, c14, hv14, hc14, _⟩ := h14.at'; rw [List.length_append, HN.out, List.length_singleton] at hv14 hc14; subst hv14; have X14 := hid (And.intro h14 hc14); clear h14 hc14 X13)
        go_wp2_with (go_at_call 8; refine (HD4.out _ _ _ (holds_at' X14.out.1).1 X14.out.2).mono ?_; rintro e w15 ⟨rfl, hb⟩; have X15 := hid (below_on X14.out.1.below hb); clear hb X14)
        go_ret
        exact ⟨rfl, X15.out⟩
      · have HD2 := hid (decode_bad w9 _ N c8 T HTl.out HTw.out (holds_at' X9.out.2).1 (holds_at' X9.out.2).2.2 (by have := HN8.out; omega) hxT)
        have hv : (v != 0) = true := by
          rw [bne_iff_ne]
          intro e
          subst e
          exact hxT ⟨PL, HOK.out.1, by rw [HTT.out, set_self E kn HWE.out]; exact HOK.out.2.symm⟩
        clear hxT
        go_wp2_with (go_at_call 8; refine HD2.out.mono ?_; rintro e w10 ⟨rfl, hb⟩; have X10 := hid (below_on X9.out.1.below hb); clear hb X9)
        go_ret
        exact ⟨rfl, X10.out⟩
end Go.Proofs.YtmomidkodjihjaaDoor
