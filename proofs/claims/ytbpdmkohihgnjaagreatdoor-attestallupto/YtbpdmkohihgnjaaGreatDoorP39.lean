import Derived.Test.YtbpdmkohihgnjaaGreatDoorP37
import Derived.Test.YtbpdmkohihgnjaaGreatDoorP38
import Derived.Test.YtbpdmkohihgnjaaGreatDoorP01
namespace Go.Proofs.YtbpdmkohihgnjaaGreatDoor
open Go.RowKit
set_option maxHeartbeats 4000000
set_option maxRecDepth 100000
def stD (st : Rdr) (t : List (List UInt8)) : Option Rdr :=
  if t.length = 0 then some st
  else if st.ended = true then none
  else if t.length = 2 ∧ t.getD 0 [] = oL then (if okA ⟨(t.getD 1 []).toArray⟩ = true then some ⟨st.rules, isA ⟨(t.getD 1 []).toArray⟩, true⟩ else none)
  else match rl3 t with
    | none => none
    | some r => if st.rules.length = 256 then none else some ⟨st.rules ++ [r], st.other, st.ended⟩
theorem okA_l (l : List UInt8) : okA ⟨l.toArray⟩ = (alw l).isSome := rfl
theorem isA_l (l : List UInt8) : isA ⟨l.toArray⟩ = (alw l).getD false := rfl
theorem stD_two {st : Rdr} {a b : List UInt8} (he : st.ended = false) : stD st [a, b] = rdOther st a b := by
  unfold stD rdOther
  rw [if_neg (by simp), if_neg (by rw [he]; decide)]
  show (if 2 = 2 ∧ a = oL then (if okA ⟨b.toArray⟩ = true then some (⟨st.rules, isA ⟨b.toArray⟩, true⟩ : Rdr) else none) else none) = _
  rw [okA_l, isA_l]
  cases alw b with
  | none => simp
  | some v => by_cases h : a = oL <;> simp [h]
theorem rl3_def (a b c : List UInt8) : rl3 [a, b, c] = if okA ⟨a.toArray⟩ = true ∧ L.T.name b = true ∧ ok8 ⟨c.toArray⟩ then some ⟨isA ⟨a.toArray⟩, ⟨b.toArray⟩, w8 ⟨c.toArray⟩⟩ else none := rfl
theorem stD_three {st : Rdr} {a b c : List UInt8} (he : st.ended = false) : stD st [a, b, c] = rdRule st a b c := by
  unfold stD rdRule
  rw [if_neg (by simp), if_neg (by rw [he]; decide), if_neg (by simp)]
  rw [rl3_def, okA_l, isA_l]
  cases alw a with
  | none => simp
  | some v =>
    by_cases h1 : L.T.name b = true
    · by_cases h2 : ok8 ⟨c.toArray⟩
      · by_cases h3 : st.rules.length = 256
        · simp [h1, h2, h3]
        · simp [h1, h2, h3]
      · simp [h1, h2]
    · simp [h1]
theorem stD_else {st : Rdr} {t : List (List UInt8)} (he : st.ended = false) (h0 : t.length ≠ 0) (h2 : t.length ≠ 2) (h3 : t.length ≠ 3) : stD st t = none := by
  unfold stD
  rw [if_neg h0, if_neg (by rw [he]; decide), if_neg (fun h => h2 h.1), rl3_len h3]
theorem stD_ended {st : Rdr} {t : List (List UInt8)} (he : st.ended = true) (h0 : t.length ≠ 0) : stD st t = none := by
  unfold stD
  rw [if_neg h0, if_pos he]
theorem step_doc (st : Rdr) (l : List UInt8) : stepP st l = match plD l with
    | none => none
    | some t => stD st t := by
  unfold stepP plD L.T.words
  cases L.T.rd l 0 with
  | inl x => rfl
  | inr ws =>
    show rdWords st ws = match plW ws with
      | none => none
      | some t => stD st t
    unfold plW
    by_cases hq : ws.any (·.quoted) = true
    · rw [if_pos hq]
      exact rdWords_bad (by rintro rfl; simp at hq) (by rw [hq]; simp)
    · rw [if_neg hq]
      have hq' : ws.any (·.quoted) = false := by simpa using hq
      show rdWords st ws = stD st (ws.map (·.text))
      by_cases h0 : ws = []
      · subst h0; rfl
      · have hl0 : ws.length ≠ 0 := fun h => h0 (List.eq_nil_of_length_eq_zero h)
        cases he : st.ended
        · by_cases h2 : ws.length = 2
          · obtain ⟨a, b, rfl⟩ := len_two h2
            rw [rdWords_two he hq']
            exact (stD_two he).symm
          · by_cases h3 : ws.length = 3
            · obtain ⟨a, b, c, rfl⟩ := len_three h3
              rw [rdWords_three he hq']
              exact (stD_three he).symm
            · rw [rdWords_else h0 h2 h3, stD_else he (by simpa using hl0) (by simpa using h2) (by simpa using h3)]
        · rw [rdWords_bad h0 (by rw [he]; rfl), stD_ended he (by simpa using hl0)]
theorem plD_each {l : List UInt8} {t : List (List UInt8)} (h : plD l = some t) : ∀ y ∈ t, y.length ≤ l.length := by
  have h1 := rd_texts l 0
  unfold plD L.T.words at h
  cases hr : L.T.rd l 0 with
  | inl x => rw [hr] at h; cases h
  | inr ws =>
    rw [hr] at h h1
    have h2 : plW ws = some t := h
    unfold plW at h2
    split at h2
    · cases h2
    · simp only [Option.some.injEq] at h2
      subst h2
      intro y hy
      obtain ⟨x, hx, rfl⟩ := List.mem_map.1 hy
      exact h1 x hx
theorem hv_strs {W w : World} {v : Value} {l : List (List UInt8)} (h : L.HV W w 9 v (L.strsV l)) : ∃ ao c, v = .slice ao l.length c ∧ L.StrsAt w ao l := by
  by_cases h0 : l = []
  · obtain ⟨ao, c, rfl⟩ := h.any
    rw [L.strsV_length]
    exact ⟨ao, c, rfl, .inl h0⟩
  · have hp : 0 < (L.strsV l).length := by
      rw [L.strsV_length]
      exact Nat.pos_of_ne_zero fun e => h0 (List.eq_nil_of_length_eq_zero e)
    obtain ⟨g, cap, cur, rfl, _, hlt, _⟩ := h.form hp
    rw [L.strsV_length] at h ⊢
    exact ⟨some ⟨g, 0, none⟩, cap, rfl, .inr ⟨g, 0, rfl, hlt, fun i hi => by rw [Nat.zero_add]; exact h.cell i _ (by simp [L.strsV, hi])⟩⟩
theorem strs_cell {w : World} {ao : Option Addr} {l : List (List UInt8)} (h : L.StrsAt w ao l) (h0 : 0 < l.length) : ∃ g o, ao = some ⟨g, o, none⟩ ∧ g < w.heap.size ∧ ∀ i (hi : i < l.length), w.cell? ⟨g, o + i, none⟩ = some (.string ⟨l[i].toArray⟩) := by
  rcases h with h | ⟨g, o, e, hl, hc⟩
  · rw [h] at h0; cases h0
  · exact ⟨g, o, e, hl, hc⟩
structure RdD (W w : World) (g : Nat) (st : Rdr) (v : Value) : Prop where
  bl : Below W.heap.size W w
  hg : W.heap.size ≤ g
  cel : Cel w g 36 [v, .bool st.other]
  own : w.ownsRow W.heap.size 60 10 v st.rules.length (rcs st.rules)
  ml : ∀ r ∈ st.rules, r.ms.length = 8
  le : st.rules.length ≤ 256
theorem RdD.on {W w w' : World} {g : Nat} {st : Rdr} {v : Value} (h : RdD W w g st v) (hb : Below w.heap.size w w') : RdD W w' g st v := ⟨below_on h.bl hb, h.hg, h.cel.on hb, L.own_below h.own hb, h.ml, h.le⟩
theorem RdD.form {W w : World} {g : Nat} {st : Rdr} {v : Value} (h : RdD W w g st v) : ∃ ao c, v = .slice ao st.rules.length c := L.own_form h.own
theorem RdD.start (W : World) : RdD W (W.alloc (.cells #[.slice none 0 0, .bool false] 36)) W.heap.size z0 (.slice none 0 0) :=
  ⟨below_one _ _, Nat.le_refl _, heap_alloc_new _ _, World.ownsRow_nil _ _ _ _, fun r hr => (List.not_mem_nil (a := r) hr).elim, Nat.zero_le _⟩
theorem RdD.said {W w : World} {g : Nat} {st : Rdr} {v : Value} (h : RdD W w g st v) (a : Bool) : RdD W (w.setCell ⟨g, 1, none⟩ (.bool a)) g ⟨st.rules, a, true⟩ v :=
  ⟨Below.put h.bl h.hg 1 _, h.hg, h.cel.setC 1 _, own_setO h.own (own_ap h.own h.cel (by decide)) 1 _, h.ml, h.le⟩
structure RdE (W w : World) (g : Nat) (st : Rdr) (v v' : Value) (r : Rl) : Prop where
  bl : Below W.heap.size W w
  hg : W.heap.size ≤ g
  cel : Cel w g 36 [v, .bool st.other]
  own : w.ownsRow W.heap.size 60 10 v' (st.rules ++ [r]).length (rcs (st.rules ++ [r]))
theorem RdD.app {W w w' : World} {g : Nat} {st : Rdr} {v v' : Value} {r : Rl} (h : RdD W w g st v) (ha : Y.Two2 w w' W.heap.size 60 10 v v' st.rules.length 1 (rcs st.rules ++ r.cs)) : RdE W w' g st v v' r := by
  have e1 : (st.rules ++ [r]).length = st.rules.length + 1 := by simp
  rcases ha with ⟨k, cap, rfl, rfl, ho, hb⟩ | ⟨ho, hb⟩
  · have n2 : g ≠ k := fun e => own_ap h.own h.cel (by decide) (by rw [e]; rfl)
    have hk : W.heap.size ≤ k := (h.own.lt k rfl).1
    exact ⟨h.bl.trans (hb.below hk h.bl.size), h.hg, h.cel.but hb n2, by rw [e1, rcs_snoc]; exact ho⟩
  · exact ⟨below_on h.bl hb, h.hg, h.cel.on hb, by rw [e1, rcs_snoc]; exact L.own_mono ho h.bl.size⟩
theorem RdE.put {W w : World} {g : Nat} {st : Rdr} {v v' : Value} {r : Rl} (h : RdE W w g st v v' r) (ml : ∀ x ∈ st.rules, x.ms.length = 8) (hm : r.ms.length = 8) (hl : st.rules.length < 256) : RdD W (w.setCell ⟨g, 0, none⟩ v') g ⟨st.rules ++ [r], st.other, st.ended⟩ v' :=
  ⟨Below.put h.bl h.hg 0 _, h.hg, h.cel.setC 0 _, own_setO h.own (own_ap h.own h.cel (by decide)) 0 _, fun x hx => by
    rcases List.mem_append.1 hx with hx | hx
    · exact ml x hx
    · rw [List.mem_singleton.1 hx]; exact hm, by rw [List.length_append]; simp; omega⟩
structure PWd (W w1 : World) (ao : Option Addr) (ls : List (List UInt8)) : Prop where
  b : Below W.heap.size W w1
  lt : W.heap.size < w1.heap.size
  p : Cel w1 W.heap.size 36 [.slice none 0 0, .bool false]
  ls : L.StrsAt w1 ao ls
theorem PWd.box {W w1 w : World} {ao : Option Addr} {ls : List (List UInt8)} (h : PWd W w1 ao ls) (hb : Below w1.heap.size w1 w) : Cel w W.heap.size 36 [.slice none 0 0, .bool false] := h.p.below hb h.lt
theorem PWd.all {W w1 w : World} {ao : Option Addr} {ls : List (List UInt8)} (h : PWd W w1 ao ls) (hb : Below w1.heap.size w1 w) : Below W.heap.size W w := h.b.trans (hb.mono h.b.size)
theorem size36d : (Tryz.prog.info? 36).map (·.size) = some 2 := by kernel_rfl
theorem built36d : Tryz.prog.built 36 [] = some #[.slice none 0 0, .bool false] := by kernel_rfl
theorem Tryz.info60 : (Tryz.prog.info? 60).map (fun i => (i.zero, i.size, i.bytes)) = some (some (.agg #[.bool false, .string ⟨#[]⟩, .int .u32 0, .int .u32 0, .int .u32 0, .int .u32 0, .int .u32 0, .int .u32 0, .int .u32 0, .int .u32 0]), 10, 56) := by kernel_rfl
theorem rl3_ml {t : List (List UInt8)} {r : Rl} (h : rl3 t = some r) : r.ms.length = 8 := by
  unfold rl3 at h
  split at h
  · split at h
    · simp only [Option.some.injEq] at h
      rw [← h]
      exact w8_length _
    · cases h
  · cases h
theorem PrP.bad {W w : World} {k : Nat} (h : Below W.heap.size W w) : PrP 60 W w (.returned (.tuple #[.agg #[.slice none 0 0, .bool false], .int .i64 (k : Int), .int .i64 161])) ⟨[], false, k, 161⟩ := ⟨_, rfl, World.ownsRow_nil _ _ _ _, h⟩
end Go.Proofs.YtbpdmkohihgnjaaGreatDoor
namespace Go.Proofs.YtbpdmkohihgnjaaGreatDoor
open Go.RowKit
set_option maxHeartbeats 4000000
set_option maxRecDepth 100000
theorem own_rulesE {w : World} {B : Nat} {e : TypeId} {ao : Option Addr} {n c : Nat} {R : List Rl} (h : w.ownsRow B e 10 (.slice ao n c) R.length (rcs R)) (hm : ∀ r ∈ R, r.ms.length = 8) : RulesAt w ao R := by
  rcases h.2 with ⟨_, h0⟩ | ⟨g, cap, cur, hv, hB, hg, hn, hx, hsz, ht⟩
  · exact .inl (List.eq_nil_of_length_eq_zero h0)
  · simp only [Value.slice.injEq] at hv
    obtain ⟨rfl, _, _⟩ := hv
    refine .inr ⟨g, 0, rfl, (Array.getElem?_eq_some_iff.1 hg).1, fun t r hr j v hj => ?_⟩
    have h1 := rcs_at R hm t r hr j v hj
    have hrl := hm r (List.mem_of_getElem? hr)
    have hj10 : j < 10 := by have := (List.getElem?_eq_some_iff.1 hj).1; rwa [r.len hrl] at this
    have htl := (List.getElem?_eq_some_iff.1 hr).1
    rw [← ht, List.getElem?_take_of_lt (by omega), Array.getElem?_toList] at h1
    simp only [World.cell?, hg, Nat.zero_add]
    exact h1
theorem range_apV {w : World} {b o : Nat} {x y : List Value} (h1 : w.rangeAt b o x) (h2 : w.rangeAt b (o + x.length) y) : w.rangeAt b o (x ++ y) := fun j u hu => by
  by_cases hj : j < x.length
  · rw [List.getElem?_append_left hj] at hu; exact h1 j u hu
  · rw [List.getElem?_append_right (by omega)] at hu
    have := h2 (j - x.length) u hu
    rwa [show o + x.length + (j - x.length) = o + j by omega] at this
theorem rcs_range {w : World} {b : Nat} : ∀ (R : List Rl) (o : Nat), (∀ r ∈ R, r.ms.length = 8) → (∀ t r, R[t]? = some r → w.rangeAt b (o + t * 10) r.cs) → w.rangeAt b o (rcs R)
  | [], _, _, _ => fun j u hu => by simp [rcs] at hu
  | r :: R, o, hm, h => by
    have h0 := h 0 r rfl
    rw [Nat.zero_mul, Nat.add_zero] at h0
    have hl := r.len (hm r List.mem_cons_self)
    refine range_apV (x := r.cs) (y := rcs R) h0 (rcs_range R _ (fun x hx => hm x (List.mem_cons_of_mem _ hx)) fun t x hx => ?_)
    have := h (t + 1) x (by simpa using hx)
    rwa [hl, show o + 10 + t * 10 = o + (t + 1) * 10 by omega]
theorem rules_lie {w : World} {ao : Option Addr} {R : List Rl} (h : RulesAt w ao R) (hm : ∀ r ∈ R, r.ms.length = 8) : Y.Lie w ao (rcs R) := by
  rcases h with h | ⟨b, off, e, _, hra⟩
  · exact .inl (by rw [h]; rfl)
  · exact .inr ⟨b, off, e, rcs_range R off hm hra⟩
theorem rcs_one (R : List Rl) : ∀ u ∈ rcs R, u.oneCell' = true := fun u hu => by
  obtain ⟨r, _, hr⟩ := List.mem_flatMap.1 hu
  exact List.all_eq_true.1 r.one u hr
theorem rules_one {w : World} {b off : Nat} {R : List Rl} {k : Nat} {r : Rl} (h : RulesAt w (some ⟨b, off, none⟩) R) (hr : R[k]? = some r) :
    w.cell? ⟨b, off + k * 10, none⟩ = some (.bool r.al) ∧ w.cell? ⟨b, off + k * 10 + 1, none⟩ = some (.string r.nm) ∧ w.rangeAt b (off + k * 10 + 2) (r.ms.map (Value.int .u32)) := by
  have h1 := rules_at h hr
  exact ⟨by have := h1 0 _ rfl; rwa [Nat.add_zero] at this, h1 1 _ rfl, r.atms h1⟩
structure S6 (W : World) (a1 : Option Addr) (c1 : Nat) (a2 : Option Addr) (c2 n : Nat) (ot : Bool) (R : List Rl) (w : World) : Prop where
  bl : Below W.heap.size W w
  p1 : Cel w W.heap.size 24 [.slice a1 n c1, .bool ot]
  p2 : Cel w (W.heap.size + 1) 36 [.slice a2 n c2, .bool ot]
  r1 : RulesAt w a1 R
  r2 : RulesAt w a2 R
theorem S6.on {W : World} {a1 : Option Addr} {c1 : Nat} {a2 : Option Addr} {c2 n : Nat} {ot : Bool} {R : List Rl} {w w' : World} (h : S6 W a1 c1 a2 c2 n ot R w) (hb : Below w.heap.size w w') : S6 W a1 c1 a2 c2 n ot R w' := ⟨below_on h.bl hb, h.p1.on hb, h.p2.on hb, h.r1.on hb, h.r2.on hb⟩
theorem same6_any (W : World) (a1 : Option Addr) (c1 : Nat) (a2 : Option Addr) (c2 n : Nat) (ot : Bool) (R : List Rl) (hn : R.length = n) (h1 : RulesAt W a1 R) (h2 : RulesAt W a2 R) (hm : ∀ r ∈ R, r.ms.length = 8) (hmax : (n : Int) ≤ 1000000000) :
    Calls Tryz.prog 6 #[.agg #[.slice a1 n c1, .bool ot], .agg #[.slice a2 n c2, .bool ot]] W fun e W' => e = .returned (.bool true) ∧ Below W.heap.size W W' := by
  obtain ⟨X, hX⟩ : ∃ X, X = (W.alloc (Obj.cells #[.slice a1 n c1, .bool ot] 24)).alloc (Obj.cells #[.slice a2 n c2, .bool ot] 36) := ⟨_, rfl⟩
  have Y0 : Hid (S6 W a1 c1 a2 c2 n ot R X) := hid (by
    have HB : Below W.heap.size W X := by rw [hX]; exact below_on (below_one W _) (below_one _ _)
    refine ⟨HB, ?_, ?_, h1.on HB, h2.on HB⟩
    · rw [hX]; exact Cel.on (heap_alloc_new _ _) (below_one _ _)
    · rw [hX]; exact heap_alloc_new' (by simp) _)
  have c0 : X.cell? ⟨W.heap.size, 0, none⟩ = some (.slice a1 n c1) := Y0.out.p1.cell 0
  have c1' : X.cell? ⟨W.heap.size, 1, none⟩ = some (.bool ot) := Y0.out.p1.cell 1
  have d0 : X.cell? ⟨W.heap.size + 1, 0, none⟩ = some (.slice a2 n c2) := Y0.out.p2.cell 0
  have d1 : X.cell? ⟨W.heap.size + 1, 1, none⟩ = some (.bool ot) := Y0.out.p2.cell 1
  have HM := hid hm
  clear h1 h2 hm
  go_enter Tryz.func6, Tryz.ntmps6
  go_upto_region 1 with fail
  rw [← hX]
  clear hX
  go_upto_region 4 with fail
  clear c0 c1' d0 d1
  go_loopw [5] (fun i wr => ∃ k : Nat, k ≤ n ∧ i = .int .i64 k ∧ S6 W a1 c1 a2 c2 n ot R wr) (fun i _ => n - (intOf i).toNat)
  case atStart => exact ⟨0, Nat.zero_le _, rfl, Y0.out⟩
  case round =>
    clear Y0
    obtain ⟨k, hk, rfl, hs⟩ := hrel
    have Y1 := hid hs
    clear hs
    have d0 : wr.cell? ⟨W.heap.size + 1, 0, none⟩ = some (.slice a2 n c2) := Y1.out.p2.cell 0
    by_cases hlt : k < n
    · obtain ⟨b1, o1, rfl⟩ := rules_row Y1.out.r1 (k := k) (by omega)
      obtain ⟨b2, o2, rfl⟩ := rules_row Y1.out.r2 (k := k) (by omega)
      have hRk : R[k]? = some (R[k]'(by omega)) := List.getElem?_eq_getElem (by omega)
      have hml := HM.out _ (List.getElem_mem (l := R) (n := k) (by omega))
      generalize R[k]'(by omega) = r at *
      have HC := hid (fun (w : World) (h : S6 W (some ⟨b1, o1, none⟩) c1 (some ⟨b2, o2, none⟩) c2 n ot R w) => (⟨rules_one h.r1 hRk, rules_one h.r2 hRk⟩ : (w.cell? ⟨b1, o1 + k * 10, none⟩ = some (.bool r.al) ∧ w.cell? ⟨b1, o1 + k * 10 + 1, none⟩ = some (.string r.nm) ∧ w.rangeAt b1 (o1 + k * 10 + 2) (r.ms.map (Value.int .u32))) ∧ (w.cell? ⟨b2, o2 + k * 10, none⟩ = some (.bool r.al) ∧ w.cell? ⟨b2, o2 + k * 10 + 1, none⟩ = some (.string r.nm) ∧ w.rangeAt b2 (o2 + k * 10 + 2) (r.ms.map (Value.int .u32)))))
      have HN := hid (show k + 1 ≤ n by omega)
      have i3 : (k : Int) < (n : Int) := by omega
      have i4 : (k : Int) ≤ 1000000000 := by omega
      have hE := eq26 r.ms r.ms hml hml
      rw [decide_eq_true rfl] at hE
      obtain ⟨al, nm, M⟩ := r
      have hML : M.length = 8 := hml
      have hE' : ∀ w, (Op.equalIn 10000 26 (.agg (M.map (Value.int .u32)).toArray) (.agg (M.map (Value.int .u32)).toArray)).run Tryz.prog w = .ok true w := hE
      clear hRk hml hk hlt hE
      go_upto_region 6 with fail
      clear d0
      have Y3 := hid (Y1.out.on (Below.refl _ _).drew)
      clear Y1
      refine wp_region_held_drew (S := fun w => S6 W (some ⟨b1, o1, none⟩) c1 (some ⟨b2, o2, none⟩) c2 n ot R w) (by kernel_rfl) Y3.out (fun hHeld => ?_)
      generalize World.drew _ = wz at *
      refine tk 0 ⟨some 27, .fieldAddr 24 (.tmp 2) 0, 0, "law.go:32", #[], none⟩ (.pointer (some ⟨W.heap.size, 0, none⟩)) ?_
      simp only [Act.put, List.setIfInBounds_toArray, List.set_cons_zero, List.set_cons_succ]
      refine tk 1 ⟨some 28, .load 22 (.tmp 27), 22, "law.go:32", #[⟨0, .data⟩], none⟩ (.slice (some ⟨b1, o1, none⟩) n c1) ?_ (hy := Or.inl ⟨by rfl, by intro w hSw; have y0 : w.cell? ⟨W.heap.size, 0, none⟩ = some (.slice (some ⟨b1, o1, none⟩) n c1) := hSw.p1.cell 0; go_simp⟩)
      simp only [Act.put, List.setIfInBounds_toArray, List.set_cons_zero, List.set_cons_succ]
      refine tk 2 ⟨some 29, .move (.tmp 5), 3, "law.go:32", #[], none⟩ (.int .i64 (k : Int)) ?_
      simp only [Act.put, List.setIfInBounds_toArray, List.set_cons_zero, List.set_cons_succ]
      refine tk 3 ⟨some 30, .indexAddr 22 (.tmp 28) (.tmp 29), 0, "law.go:32", #[⟨1, .data⟩, ⟨2, .data⟩], none⟩ (.pointer (some ⟨b1, o1 + k * 10, none⟩)) ?_
      simp only [Act.put, List.setIfInBounds_toArray, List.set_cons_zero, List.set_cons_succ]
      refine tk 4 ⟨some 31, .fieldAddr 63 (.tmp 30) 0, 0, "law.go:32", #[⟨3, .data⟩], none⟩ (.pointer (some ⟨b1, o1 + k * 10, none⟩)) ?_
      simp only [Act.put, List.setIfInBounds_toArray, List.set_cons_zero, List.set_cons_succ]
      refine tk 5 ⟨some 32, .load 4 (.tmp 31), 4, "law.go:32", #[⟨4, .data⟩], none⟩ (.bool al) ?_ (hy := Or.inl ⟨by rfl, by intro w hSw; have y0 := (HC.out w hSw).1.1; go_simp⟩)
      simp only [Act.put, List.setIfInBounds_toArray, List.set_cons_zero, List.set_cons_succ]
      refine tk 6 ⟨some 33, .fieldAddr 36 (.tmp 3) 0, 0, "law.go:32", #[], none⟩ (.pointer (some ⟨W.heap.size + 1, 0, none⟩)) ?_
      simp only [Act.put, List.setIfInBounds_toArray, List.set_cons_zero, List.set_cons_succ]
      refine tk 7 ⟨some 34, .load 34 (.tmp 33), 34, "law.go:32", #[⟨6, .data⟩], none⟩ (.slice (some ⟨b2, o2, none⟩) n c2) ?_ (hy := Or.inl ⟨by rfl, by intro w hSw; have y0 : w.cell? ⟨W.heap.size + 1, 0, none⟩ = some (.slice (some ⟨b2, o2, none⟩) n c2) := hSw.p2.cell 0; go_simp⟩)
      simp only [Act.put, List.setIfInBounds_toArray, List.set_cons_zero, List.set_cons_succ]
      refine tk 8 ⟨some 35, .move (.tmp 5), 3, "law.go:32", #[], none⟩ (.int .i64 (k : Int)) ?_
      simp only [Act.put, List.setIfInBounds_toArray, List.set_cons_zero, List.set_cons_succ]
      refine tk 9 ⟨some 36, .indexAddr 34 (.tmp 34) (.tmp 35), 0, "law.go:32", #[⟨7, .data⟩, ⟨8, .data⟩], none⟩ (.pointer (some ⟨b2, o2 + k * 10, none⟩)) ?_
      simp only [Act.put, List.setIfInBounds_toArray, List.set_cons_zero, List.set_cons_succ]
      refine tk 10 ⟨some 37, .fieldAddr 60 (.tmp 36) 0, 0, "law.go:32", #[⟨9, .data⟩], none⟩ (.pointer (some ⟨b2, o2 + k * 10, none⟩)) ?_
      simp only [Act.put, List.setIfInBounds_toArray, List.set_cons_zero, List.set_cons_succ]
      refine tk 11 ⟨some 38, .load 4 (.tmp 37), 4, "law.go:32", #[⟨10, .data⟩], none⟩ (.bool al) ?_ (hy := Or.inl ⟨by rfl, by intro w hSw; have y0 := (HC.out w hSw).2.1; go_simp⟩)
      simp only [Act.put, List.setIfInBounds_toArray, List.set_cons_zero, List.set_cons_succ]
      refine tk 12 ⟨some 39, .binOp .neq 4 (.tmp 32) (.tmp 38) 4, 4, "law.go:32", #[⟨5, .data⟩, ⟨11, .data⟩], none⟩ (.bool false) ?_
      simp only [Act.put, List.setIfInBounds_toArray, List.set_cons_zero, List.set_cons_succ]
      refine tk 13 ⟨some 40, .move (.tmp 39), 4, "law.go:32", #[⟨12, .data⟩], none⟩ (.bool false) ?_
      simp only [Act.put, List.setIfInBounds_toArray, List.set_cons_zero, List.set_cons_succ]
      refine tk 14 ⟨some 41, .fieldAddr 24 (.tmp 2) 0, 0, "law.go:32", #[⟨13, .guard⟩], some (13, false)⟩ (.pointer (some ⟨W.heap.size, 0, none⟩)) ?_
      simp only [Act.put, List.setIfInBounds_toArray, List.set_cons_zero, List.set_cons_succ]
      refine tk 15 ⟨some 42, .load 22 (.tmp 41), 22, "law.go:32", #[⟨14, .data⟩, ⟨13, .guard⟩], some (13, false)⟩ (.slice (some ⟨b1, o1, none⟩) n c1) ?_ (hy := Or.inl ⟨by rfl, by intro w hSw; have y0 : w.cell? ⟨W.heap.size, 0, none⟩ = some (.slice (some ⟨b1, o1, none⟩) n c1) := hSw.p1.cell 0; go_simp⟩)
      simp only [Act.put, List.setIfInBounds_toArray, List.set_cons_zero, List.set_cons_succ]
      refine tk 16 ⟨some 43, .move (.tmp 5), 3, "law.go:32", #[⟨13, .guard⟩], some (13, false)⟩ (.int .i64 (k : Int)) ?_
      simp only [Act.put, List.setIfInBounds_toArray, List.set_cons_zero, List.set_cons_succ]
      refine tk 17 ⟨some 44, .indexAddr 22 (.tmp 42) (.tmp 43), 0, "law.go:32", #[⟨15, .data⟩, ⟨16, .data⟩, ⟨13, .guard⟩], some (13, false)⟩ (.pointer (some ⟨b1, o1 + k * 10, none⟩)) ?_
      simp only [Act.put, List.setIfInBounds_toArray, List.set_cons_zero, List.set_cons_succ]
      refine tk 18 ⟨some 45, .fieldAddr 63 (.tmp 44) 1, 0, "law.go:32", #[⟨17, .data⟩, ⟨13, .guard⟩], some (13, false)⟩ (.pointer (some ⟨b1, o1 + k * 10 + 1, none⟩)) ?_
      simp only [Act.put, List.setIfInBounds_toArray, List.set_cons_zero, List.set_cons_succ]
      refine tk 19 ⟨some 46, .load 9 (.tmp 45), 9, "law.go:32", #[⟨18, .data⟩, ⟨13, .guard⟩], some (13, false)⟩ (.string nm) ?_ (hy := Or.inl ⟨by rfl, by intro w hSw; have y0 := (HC.out w hSw).1.2.1; go_simp⟩)
      simp only [Act.put, List.setIfInBounds_toArray, List.set_cons_zero, List.set_cons_succ]
      refine tk 20 ⟨some 47, .fieldAddr 36 (.tmp 3) 0, 0, "law.go:32", #[⟨13, .guard⟩], some (13, false)⟩ (.pointer (some ⟨W.heap.size + 1, 0, none⟩)) ?_
      simp only [Act.put, List.setIfInBounds_toArray, List.set_cons_zero, List.set_cons_succ]
      refine tk 21 ⟨some 48, .load 34 (.tmp 47), 34, "law.go:32", #[⟨20, .data⟩, ⟨13, .guard⟩], some (13, false)⟩ (.slice (some ⟨b2, o2, none⟩) n c2) ?_ (hy := Or.inl ⟨by rfl, by intro w hSw; have y0 : w.cell? ⟨W.heap.size + 1, 0, none⟩ = some (.slice (some ⟨b2, o2, none⟩) n c2) := hSw.p2.cell 0; go_simp⟩)
      simp only [Act.put, List.setIfInBounds_toArray, List.set_cons_zero, List.set_cons_succ]
      refine tk 22 ⟨some 49, .move (.tmp 5), 3, "law.go:32", #[⟨13, .guard⟩], some (13, false)⟩ (.int .i64 (k : Int)) ?_
      simp only [Act.put, List.setIfInBounds_toArray, List.set_cons_zero, List.set_cons_succ]
      refine tk 23 ⟨some 50, .indexAddr 34 (.tmp 48) (.tmp 49), 0, "law.go:32", #[⟨21, .data⟩, ⟨22, .data⟩, ⟨13, .guard⟩], some (13, false)⟩ (.pointer (some ⟨b2, o2 + k * 10, none⟩)) ?_
      simp only [Act.put, List.setIfInBounds_toArray, List.set_cons_zero, List.set_cons_succ]
      refine tk 24 ⟨some 51, .fieldAddr 60 (.tmp 50) 1, 0, "law.go:32", #[⟨23, .data⟩, ⟨13, .guard⟩], some (13, false)⟩ (.pointer (some ⟨b2, o2 + k * 10 + 1, none⟩)) ?_
      simp only [Act.put, List.setIfInBounds_toArray, List.set_cons_zero, List.set_cons_succ]
      refine tk 25 ⟨some 52, .load 9 (.tmp 51), 9, "law.go:32", #[⟨24, .data⟩, ⟨13, .guard⟩], some (13, false)⟩ (.string nm) ?_ (hy := Or.inl ⟨by rfl, by intro w hSw; have y0 := (HC.out w hSw).2.2.1; go_simp⟩)
      simp only [Act.put, List.setIfInBounds_toArray, List.set_cons_zero, List.set_cons_succ]
      refine tk 26 ⟨some 53, .binOp .neq 9 (.tmp 46) (.tmp 52) 9, 4, "law.go:32", #[⟨19, .data⟩, ⟨25, .data⟩, ⟨13, .guard⟩], some (13, false)⟩ (.bool false) ?_
      simp only [Act.put, List.setIfInBounds_toArray, List.set_cons_zero, List.set_cons_succ]
      refine tk 27 ⟨some 54, .pick (.tmp 40) (.const (.bool true)) (.tmp 53), 4, "law.go:32", #[⟨13, .data⟩, ⟨26, .data⟩], none⟩ (.bool false) ?_
      simp only [Act.put, List.setIfInBounds_toArray, List.set_cons_zero, List.set_cons_succ]
      refine tk 28 ⟨some 55, .move (.tmp 54), 4, "law.go:32", #[⟨27, .data⟩, ⟨13, .chain⟩], none⟩ (.bool false) ?_
      simp only [Act.put, List.setIfInBounds_toArray, List.set_cons_zero, List.set_cons_succ]
      refine tk 29 ⟨some 56, .fieldAddr 24 (.tmp 2) 0, 0, "law.go:32", #[⟨28, .guard⟩], some (28, false)⟩ (.pointer (some ⟨W.heap.size, 0, none⟩)) ?_
      simp only [Act.put, List.setIfInBounds_toArray, List.set_cons_zero, List.set_cons_succ]
      refine tk 30 ⟨some 57, .load 22 (.tmp 56), 22, "law.go:32", #[⟨29, .data⟩, ⟨28, .guard⟩], some (28, false)⟩ (.slice (some ⟨b1, o1, none⟩) n c1) ?_ (hy := Or.inl ⟨by rfl, by intro w hSw; have y0 : w.cell? ⟨W.heap.size, 0, none⟩ = some (.slice (some ⟨b1, o1, none⟩) n c1) := hSw.p1.cell 0; go_simp⟩)
      simp only [Act.put, List.setIfInBounds_toArray, List.set_cons_zero, List.set_cons_succ]
      refine tk 31 ⟨some 58, .move (.tmp 5), 3, "law.go:32", #[⟨28, .guard⟩], some (28, false)⟩ (.int .i64 (k : Int)) ?_
      simp only [Act.put, List.setIfInBounds_toArray, List.set_cons_zero, List.set_cons_succ]
      refine tk 32 ⟨some 59, .indexAddr 22 (.tmp 57) (.tmp 58), 0, "law.go:32", #[⟨30, .data⟩, ⟨31, .data⟩, ⟨28, .guard⟩], some (28, false)⟩ (.pointer (some ⟨b1, o1 + k * 10, none⟩)) ?_
      simp only [Act.put, List.setIfInBounds_toArray, List.set_cons_zero, List.set_cons_succ]
      refine tk 33 ⟨some 60, .fieldAddr 63 (.tmp 59) 2, 0, "law.go:32", #[⟨32, .data⟩, ⟨28, .guard⟩], some (28, false)⟩ (.pointer (some ⟨b1, o1 + k * 10 + 2, none⟩)) ?_
      simp only [Act.put, List.setIfInBounds_toArray, List.set_cons_zero, List.set_cons_succ]
      refine tk 34 ⟨some 61, .load 26 (.tmp 60), 26, "law.go:32", #[⟨33, .data⟩, ⟨28, .guard⟩], some (28, false)⟩ (.agg (M.map (Value.int .u32)).toArray) ?_ (hy := yieldsIf_load_mid (by rfl) _ _ rfl _ _ rfl _ _ (fun w hSw => (HC.out w hSw).1.2.2) Tryz.underlying26 rfl (by rw [List.length_map, hML]; exact size26))
      simp only [Act.put, List.setIfInBounds_toArray, List.set_cons_zero, List.set_cons_succ]
      refine tk 35 ⟨some 62, .fieldAddr 36 (.tmp 3) 0, 0, "law.go:32", #[⟨28, .guard⟩], some (28, false)⟩ (.pointer (some ⟨W.heap.size + 1, 0, none⟩)) ?_
      simp only [Act.put, List.setIfInBounds_toArray, List.set_cons_zero, List.set_cons_succ]
      refine tk 36 ⟨some 63, .load 34 (.tmp 62), 34, "law.go:32", #[⟨35, .data⟩, ⟨28, .guard⟩], some (28, false)⟩ (.slice (some ⟨b2, o2, none⟩) n c2) ?_ (hy := Or.inl ⟨by rfl, by intro w hSw; have y0 : w.cell? ⟨W.heap.size + 1, 0, none⟩ = some (.slice (some ⟨b2, o2, none⟩) n c2) := hSw.p2.cell 0; go_simp⟩)
      simp only [Act.put, List.setIfInBounds_toArray, List.set_cons_zero, List.set_cons_succ]
      refine tk 37 ⟨some 64, .move (.tmp 5), 3, "law.go:32", #[⟨28, .guard⟩], some (28, false)⟩ (.int .i64 (k : Int)) ?_
      simp only [Act.put, List.setIfInBounds_toArray, List.set_cons_zero, List.set_cons_succ]
      refine tk 38 ⟨some 65, .indexAddr 34 (.tmp 63) (.tmp 64), 0, "law.go:32", #[⟨36, .data⟩, ⟨37, .data⟩, ⟨28, .guard⟩], some (28, false)⟩ (.pointer (some ⟨b2, o2 + k * 10, none⟩)) ?_
      simp only [Act.put, List.setIfInBounds_toArray, List.set_cons_zero, List.set_cons_succ]
      refine tk 39 ⟨some 66, .fieldAddr 60 (.tmp 65) 2, 0, "law.go:32", #[⟨38, .data⟩, ⟨28, .guard⟩], some (28, false)⟩ (.pointer (some ⟨b2, o2 + k * 10 + 2, none⟩)) ?_
      simp only [Act.put, List.setIfInBounds_toArray, List.set_cons_zero, List.set_cons_succ]
      refine tk 40 ⟨some 67, .load 26 (.tmp 66), 26, "law.go:32", #[⟨39, .data⟩, ⟨28, .guard⟩], some (28, false)⟩ (.agg (M.map (Value.int .u32)).toArray) ?_ (hy := yieldsIf_load_mid (by rfl) _ _ rfl _ _ rfl _ _ (fun w hSw => (HC.out w hSw).2.2.2) Tryz.underlying26 rfl (by rw [List.length_map, hML]; exact size26))
      simp only [Act.put, List.setIfInBounds_toArray, List.set_cons_zero, List.set_cons_succ]
      refine tk 41 ⟨some 68, .binOp .neq 26 (.tmp 61) (.tmp 67) 26, 4, "law.go:32", #[⟨34, .data⟩, ⟨40, .data⟩, ⟨28, .guard⟩], some (28, false)⟩ (.bool false) ?_
      simp only [Act.put, List.setIfInBounds_toArray, List.set_cons_zero, List.set_cons_succ]
      refine tk 42 ⟨some 69, .pick (.tmp 55) (.const (.bool true)) (.tmp 68), 4, "law.go:32", #[⟨28, .data⟩, ⟨41, .data⟩], none⟩ (.bool false) ?_
      simp only [Act.put, List.setIfInBounds_toArray, List.set_cons_zero, List.set_cons_succ]
      refine wpAnyH_done (by kernel_rfl) ?_ _
      have y0 : wz.cell? ⟨W.heap.size + 1, 0, none⟩ = some (.slice (some ⟨b2, o2, none⟩) n c2) := Y3.out.p2.cell 0
      go_wp2_with fail
      go_roundw
      case rel => exact ⟨k + 1, HN.out, by go_num, Y3.out⟩
      case measure => have := HN.out; simp [intOf]; omega
    · obtain rfl : k = n := by omega
      clear hk hlt
      go_wp2_with fail
      go_ret
      exact ⟨rfl, Y1.out.bl⟩
end Go.Proofs.YtbpdmkohihgnjaaGreatDoor
namespace Go.Proofs.YtbpdmkohihgnjaaGreatDoor
open Go.RowKit
set_option maxHeartbeats 4000000
set_option maxRecDepth 100000
theorem rcs_take {R : List Rl} {k : Nat} {r : Rl} (h : R[k]? = some r) : rcs (R.take (k + 1)) = rcs (R.take k) ++ r.cs := by
  rw [List.take_add_one, h]
  simp [rcs, List.flatMap_append]
structure DP (W : World) (g : Nat) (ap : Option Addr) (n cp : Nat) (ot : Bool) (R : List Rl) (k : Nat) (v v0 : Value) (w : World) : Prop where
  bl : Below W.heap.size W w
  p1 : Cel w W.heap.size 24 [.slice ap n cp, .bool ot]
  p2 : Cel w (W.heap.size + 1) 36 [.slice none 0 0, .bool false]
  p3 : Cel w g 36 [v0, .bool ot]
  hg : W.heap.size + 1 < g
  own : w.ownsRow W.heap.size 60 10 v k (rcs (R.take k))
theorem DP.on {W : World} {g : Nat} {ap : Option Addr} {n cp : Nat} {ot : Bool} {R : List Rl} {k : Nat} {v v0 : Value} {w w' : World} (h : DP W g ap n cp ot R k v v0 w) (hb : Below w.heap.size w w') : DP W g ap n cp ot R k v v0 w' :=
  ⟨below_on h.bl hb, h.p1.on hb, h.p2.on hb, h.p3.on hb, h.hg, L.own_below h.own hb⟩
theorem DP.app {W : World} {g : Nat} {ap : Option Addr} {n cp : Nat} {ot : Bool} {R : List Rl} {k : Nat} {v v' v0 : Value} {w w' : World} {r : Rl} (h : DP W g ap n cp ot R k v v0 w) (hr : R[k]? = some r) (ha : Y.Two2 w w' W.heap.size 60 10 v v' k 1 (rcs (R.take k) ++ r.cs)) : DP W g ap n cp ot R (k + 1) v' v0 w' := by
  rw [← rcs_take hr] at ha
  rcases ha with ⟨b, cap, rfl, rfl, ho, hb⟩ | ⟨ho, hb⟩
  · have n1 : W.heap.size ≠ b := fun e => own_ap h.own h.p1 (by decide) (by rw [e]; rfl)
    have n2 : W.heap.size + 1 ≠ b := fun e => own_ap h.own h.p2 (by decide) (by rw [e]; rfl)
    have n3 : g ≠ b := fun e => own_ap h.own h.p3 (by decide) (by rw [e]; rfl)
    have hk : W.heap.size ≤ b := (h.own.lt b rfl).1
    exact ⟨h.bl.trans (hb.below hk h.bl.size), h.p1.but hb n1, h.p2.but hb n2, h.p3.but hb n3, h.hg, ho⟩
  · exact ⟨below_on h.bl hb, h.p1.on hb, h.p2.on hb, h.p3.on hb, h.hg, L.own_mono ho h.bl.size⟩
theorem DP.put {W : World} {g : Nat} {ap : Option Addr} {n cp : Nat} {ot : Bool} {R : List Rl} {k : Nat} {v v0 : Value} {w : World} (h : DP W g ap n cp ot R k v v0 w) : DP W g ap n cp ot R k v v (w.setCell ⟨g, 0, none⟩ v) :=
  have hg := h.hg
  ⟨Below.put h.bl (by omega) 0 _, h.p1.setO (by omega) 0 _, h.p2.setO (by omega) 0 _, h.p3.setC 0 _, h.hg, own_setO h.own (own_ap h.own h.p3 (by decide)) 0 _⟩
theorem built36o (ot : Bool) : Tryz.prog.built 36 [(1, .bool ot)] = some #[.slice none 0 0, .bool ot] := by kernel_rfl
attribute [-simp] Tryz.isAgg26 Tryz.zeroValue26 Tryz.isAgg36 Tryz.zeroValue36 Tryz.isAgg60 Tryz.zeroValue60 Tryz.isAgg63 Tryz.zeroValue63
theorem doc32_any (W : World) (ap : Option Addr) (n cp : Nat) (ot : Bool) (R : List Rl) (hn : R.length = n) (hr : RulesAt W ap R) (hm : ∀ r ∈ R, r.ms.length = 8) (hmax : n ≤ 2000000) :
    Calls Tryz.prog 32 #[.agg #[.slice ap n cp, .bool ot]] W fun e W' => ∃ ad cd, e = .returned (.agg #[.slice ad n cd, .bool ot]) ∧ RulesAt W' ad R ∧ Below W.heap.size W W' := by
  have hz36 : ∀ w, (zeroValue 36).run Tryz.prog w = .ok (.agg #[.slice none 0 0, .bool false]) w := fun w => by rw [Tryz.zeroValue36]
  have hz60 : ∀ w, (zeroValue 60).run Tryz.prog w = .ok (.agg #[.bool false, .string ⟨#[]⟩, .int .u32 0, .int .u32 0, .int .u32 0, .int .u32 0, .int .u32 0, .int .u32 0, .int .u32 0, .int .u32 0]) w := fun w => by rw [Tryz.zeroValue60]
  have hb36 : ∀ w, (Instr.build 36 #[(1, .bool ot)]).run Tryz.prog w = .ok (.agg #[.slice none 0 0, .bool ot]) w := fun w => run_build w 36 _ _ (built36o ot)
  obtain ⟨X, hX⟩ : ∃ X, X = (W.alloc (Obj.cells #[.slice ap n cp, .bool ot] 24)).alloc (Obj.cells #[.slice none 0 0, .bool false] 36) := ⟨_, rfl⟩
  have HX : Hid (Below W.heap.size W X ∧ Cel X W.heap.size 24 [.slice ap n cp, .bool ot] ∧ Cel X (W.heap.size + 1) 36 [.slice none 0 0, .bool false] ∧ X.heap.size = W.heap.size + 1 + 1) := hid (by
    refine ⟨by rw [hX]; exact below_on (below_one W _) (below_one _ _), ?_, ?_, by rw [hX]; simp⟩
    · rw [hX]; exact Cel.on (heap_alloc_new _ _) (below_one _ _)
    · rw [hX]; exact heap_alloc_new' (by simp) _)
  have c1 : X.cell? ⟨W.heap.size, 1, none⟩ = some (.bool ot) := HX.out.2.1.cell 1
  have HRu := hid hr
  have HM := hid hm
  clear hr hm
  go_enter Tryz.func32, Tryz.ntmps32
  go_upto_region 1 with fail
  rw [← hX]
  clear hX
  go_upto_region 3 with (first | (refine wpList_store_st rfl 36 _ _ rfl X.heap.size [.slice none 0 0, .bool ot] rfl rfl (heap_alloc_new X (.cells #[.slice none 0 0, .bool false] 36)) size36d rfl rfl ?_; intro w2 hc hb hs; have Y0 : Hid (DP W X.heap.size ap n cp ot R 0 (.slice none 0 0) (.slice none 0 0) w2) := hid ⟨below_on HX.out.1 (but_box hb), HX.out.2.1.on (but_box hb), HX.out.2.2.1.on (but_box hb), hc, by rw [HX.out.2.2.2]; omega, World.ownsRow_nil _ _ _ _⟩; clear hc hb hs HX c1))
  generalize X.heap.size = g at *
  go_loopw [4] (fun i wr => ∃ (k : Nat) (v : Value), k ≤ n ∧ i = .int .i64 k ∧ DP W g ap n cp ot R k v v wr) (fun i _ => n - (intOf i).toNat)
  case atStart => exact ⟨0, _, Nat.zero_le _, rfl, Y0.out⟩
  case round =>
    clear Y0
    obtain ⟨k, v, hk, rfl, hs⟩ := hrel
    have Y1 := hid hs
    clear hs
    have d0 : wr.cell? ⟨W.heap.size, 0, none⟩ = some (.slice ap n cp) := Y1.out.p1.cell 0
    obtain ⟨av, cv, rfl⟩ := L.own_form Y1.out.own
    by_cases hlt : k < n
    · obtain ⟨b1, o1, rfl⟩ := rules_row HRu.out (k := k) (by omega)
      have hRk : R[k]? = some (R[k]'(by omega)) := List.getElem?_eq_getElem (by omega)
      have hml := HM.out _ (List.getElem_mem (l := R) (n := k) (by omega))
      generalize R[k]'(by omega) = r at *
      obtain ⟨al, nm, M⟩ := r
      match M, hml with
      | [a0, a1, a2, a3, a4, a5, a6, a7], _ =>
      have HC := hid (fun (w : World) (h : Below W.heap.size W w) => rules_one (HRu.out.on h) hRk)
      have HRk := hid hRk
      have hb60r : ∀ w, (Instr.build 60 #[(0, .bool al), (1, .string nm), (2, .agg #[.int .u32 a0, .int .u32 a1, .int .u32 a2, .int .u32 a3, .int .u32 a4, .int .u32 a5, .int .u32 a6, .int .u32 a7])]).run Tryz.prog w = .ok (.agg #[.bool al, .string nm, .int .u32 a0, .int .u32 a1, .int .u32 a2, .int .u32 a3, .int .u32 a4, .int .u32 a5, .int .u32 a6, .int .u32 a7]) w := fun w => run_build w 60 _ _ (built60 al nm a0 a1 a2 a3 a4 a5 a6 a7)
      have HN := hid (show k + 1 ≤ n by omega)
      have i3 : (k : Int) < (n : Int) := by omega
      have i4 : (k : Int) ≤ 2000000 := by omega
      have i5 : k ≤ 2000000 := by omega
      clear hRk hml hk hlt
      go_upto_region 5 with fail
      clear d0
      have Y3 := hid (Y1.out.on (Below.refl _ _).drew)
      clear Y1
      refine wp_region_held_drew (S := fun w => Below W.heap.size W w ∧ Cel w W.heap.size 24 [.slice (some ⟨b1, o1, none⟩) n cp, .bool ot]) (by kernel_rfl) ⟨Y3.out.bl, Y3.out.p1⟩ (fun hHeld => ?_)
      generalize World.drew _ = wz at *
      refine tk 0 ⟨some 15, .fieldAddr 36 (.tmp 3) 0, 0, "law.go:21", #[], none⟩ (.pointer (some ⟨g, 0, none⟩)) ?_
      simp only [Act.put, List.setIfInBounds_toArray, List.set_cons_zero, List.set_cons_succ]
      refine tk 2 ⟨some 17, .fieldAddr 24 (.tmp 1) 0, 0, "law.go:21", #[], none⟩ (.pointer (some ⟨W.heap.size, 0, none⟩)) ?_
      simp only [Act.put, List.setIfInBounds_toArray, List.set_cons_zero, List.set_cons_succ]
      refine tk 3 ⟨some 18, .load 22 (.tmp 17), 22, "law.go:21", #[⟨2, .data⟩], none⟩ (.slice (some ⟨b1, o1, none⟩) n cp) ?_ (hy := Or.inl ⟨by rfl, by intro w hSw; have y0 : w.cell? ⟨W.heap.size, 0, none⟩ = some (.slice (some ⟨b1, o1, none⟩) n cp) := hSw.2.cell 0; go_simp⟩)
      simp only [Act.put, List.setIfInBounds_toArray, List.set_cons_zero, List.set_cons_succ]
      refine tk 4 ⟨some 19, .move (.tmp 4), 3, "law.go:21", #[], none⟩ (.int .i64 (k : Int)) ?_
      simp only [Act.put, List.setIfInBounds_toArray, List.set_cons_zero, List.set_cons_succ]
      refine tk 5 ⟨some 20, .indexAddr 22 (.tmp 18) (.tmp 19), 0, "law.go:21", #[⟨3, .data⟩, ⟨4, .data⟩], none⟩ (.pointer (some ⟨b1, o1 + k * 10, none⟩)) ?_
      simp only [Act.put, List.setIfInBounds_toArray, List.set_cons_zero, List.set_cons_succ]
      refine tk 6 ⟨some 21, .fieldAddr 63 (.tmp 20) 0, 0, "law.go:21", #[⟨5, .data⟩], none⟩ (.pointer (some ⟨b1, o1 + k * 10, none⟩)) ?_
      simp only [Act.put, List.setIfInBounds_toArray, List.set_cons_zero, List.set_cons_succ]
      refine tk 7 ⟨some 22, .load 4 (.tmp 21), 4, "law.go:21", #[⟨6, .data⟩], none⟩ (.bool al) ?_ (hy := Or.inl ⟨by rfl, by intro w hSw; have y0 := (HC.out w hSw.1).1; go_simp⟩)
      simp only [Act.put, List.setIfInBounds_toArray, List.set_cons_zero, List.set_cons_succ]
      refine tk 8 ⟨some 23, .fieldAddr 24 (.tmp 1) 0, 0, "law.go:21", #[], none⟩ (.pointer (some ⟨W.heap.size, 0, none⟩)) ?_
      simp only [Act.put, List.setIfInBounds_toArray, List.set_cons_zero, List.set_cons_succ]
      refine tk 9 ⟨some 24, .load 22 (.tmp 23), 22, "law.go:21", #[⟨8, .data⟩], none⟩ (.slice (some ⟨b1, o1, none⟩) n cp) ?_ (hy := Or.inl ⟨by rfl, by intro w hSw; have y0 : w.cell? ⟨W.heap.size, 0, none⟩ = some (.slice (some ⟨b1, o1, none⟩) n cp) := hSw.2.cell 0; go_simp⟩)
      simp only [Act.put, List.setIfInBounds_toArray, List.set_cons_zero, List.set_cons_succ]
      refine tk 10 ⟨some 25, .move (.tmp 4), 3, "law.go:21", #[], none⟩ (.int .i64 (k : Int)) ?_
      simp only [Act.put, List.setIfInBounds_toArray, List.set_cons_zero, List.set_cons_succ]
      refine tk 11 ⟨some 26, .indexAddr 22 (.tmp 24) (.tmp 25), 0, "law.go:21", #[⟨9, .data⟩, ⟨10, .data⟩], none⟩ (.pointer (some ⟨b1, o1 + k * 10, none⟩)) ?_
      simp only [Act.put, List.setIfInBounds_toArray, List.set_cons_zero, List.set_cons_succ]
      refine tk 12 ⟨some 27, .fieldAddr 63 (.tmp 26) 1, 0, "law.go:21", #[⟨11, .data⟩], none⟩ (.pointer (some ⟨b1, o1 + k * 10 + 1, none⟩)) ?_
      simp only [Act.put, List.setIfInBounds_toArray, List.set_cons_zero, List.set_cons_succ]
      refine tk 13 ⟨some 28, .load 9 (.tmp 27), 9, "law.go:21", #[⟨12, .data⟩], none⟩ (.string nm) ?_ (hy := Or.inl ⟨by rfl, by intro w hSw; have y0 := (HC.out w hSw.1).2.1; go_simp⟩)
      simp only [Act.put, List.setIfInBounds_toArray, List.set_cons_zero, List.set_cons_succ]
      refine tk 14 ⟨some 29, .fieldAddr 24 (.tmp 1) 0, 0, "law.go:21", #[], none⟩ (.pointer (some ⟨W.heap.size, 0, none⟩)) ?_
      simp only [Act.put, List.setIfInBounds_toArray, List.set_cons_zero, List.set_cons_succ]
      refine tk 15 ⟨some 30, .load 22 (.tmp 29), 22, "law.go:21", #[⟨14, .data⟩], none⟩ (.slice (some ⟨b1, o1, none⟩) n cp) ?_ (hy := Or.inl ⟨by rfl, by intro w hSw; have y0 : w.cell? ⟨W.heap.size, 0, none⟩ = some (.slice (some ⟨b1, o1, none⟩) n cp) := hSw.2.cell 0; go_simp⟩)
      simp only [Act.put, List.setIfInBounds_toArray, List.set_cons_zero, List.set_cons_succ]
      refine tk 16 ⟨some 31, .move (.tmp 4), 3, "law.go:21", #[], none⟩ (.int .i64 (k : Int)) ?_
      simp only [Act.put, List.setIfInBounds_toArray, List.set_cons_zero, List.set_cons_succ]
      refine tk 17 ⟨some 32, .indexAddr 22 (.tmp 30) (.tmp 31), 0, "law.go:21", #[⟨15, .data⟩, ⟨16, .data⟩], none⟩ (.pointer (some ⟨b1, o1 + k * 10, none⟩)) ?_
      simp only [Act.put, List.setIfInBounds_toArray, List.set_cons_zero, List.set_cons_succ]
      refine tk 18 ⟨some 33, .fieldAddr 63 (.tmp 32) 2, 0, "law.go:21", #[⟨17, .data⟩], none⟩ (.pointer (some ⟨b1, o1 + k * 10 + 2, none⟩)) ?_
      simp only [Act.put, List.setIfInBounds_toArray, List.set_cons_zero, List.set_cons_succ]
      refine tk 19 ⟨some 34, .load 26 (.tmp 33), 26, "law.go:21", #[⟨18, .data⟩], none⟩ (.agg #[.int .u32 a0, .int .u32 a1, .int .u32 a2, .int .u32 a3, .int .u32 a4, .int .u32 a5, .int .u32 a6, .int .u32 a7]) ?_ (hy := yieldsIf_load_mid (by rfl) _ _ rfl _ _ rfl _ _ (fun w hSw => (HC.out w hSw.1).2.2) Tryz.underlying26 rfl size26)
      simp only [Act.put, List.setIfInBounds_toArray, List.set_cons_zero, List.set_cons_succ]
      refine tk 20 ⟨some 35, .build 60 #[(0, .tmp 22), (1, .tmp 28), (2, .tmp 34)], 60, "law.go:21", #[⟨7, .data⟩, ⟨13, .data⟩, ⟨19, .data⟩], none⟩ (.agg #[.bool al, .string nm, .int .u32 a0, .int .u32 a1, .int .u32 a2, .int .u32 a3, .int .u32 a4, .int .u32 a5, .int .u32 a6, .int .u32 a7]) ?_
      simp only [Act.put, List.setIfInBounds_toArray, List.set_cons_zero, List.set_cons_succ]
      refine wpAnyH_ready (rs := [1, 21]) (by kernel_rfl) (by simp) (AllReadyH.cons (o := ⟨some 16, .load 34 (.tmp 15), 34, "law.go:21", #[⟨0, .data⟩], none⟩) rfl (fun KQ hK => ?_) (AllReadyH.cons (o := ⟨some 36, .buildSlice 34 1 #[(0, .tmp 35)], 34, "law.go:21", #[⟨20, .data⟩], none⟩) rfl (fun KQ hK => ?_) AllReadyH.nil))
      · have y0 : (_ : World).cell? ⟨g, 0, none⟩ = some (.slice av k cv) := Y3.out.p3.cell 0
        go_simp
        clear y0
        refine hK.out _ _ ⟨Y3.out.bl, Y3.out.p1⟩ (fun hHeld => ?_)
        clear hK KQ
        try simp only [Act.put, List.setIfInBounds_toArray, List.set_cons_zero, List.set_cons_succ]
        refine wpAnyH_ready (rs := [21]) (by kernel_rfl) (by simp) (AllReadyH.cons (o := ⟨some 36, .buildSlice 34 1 #[(0, .tmp 35)], 34, "law.go:21", #[⟨20, .data⟩], none⟩) rfl (fun KQ hK => ?_) AllReadyH.nil)
        go_simp
        have Y4 : Hid (DP W g (some ⟨b1, o1, none⟩) n cp ot R k (.slice av k cv) (.slice av k cv) (wz.alloc (.cells #[.bool al, .string nm, .int .u32 a0, .int .u32 a1, .int .u32 a2, .int .u32 a3, .int .u32 a4, .int .u32 a5, .int .u32 a6, .int .u32 a7] 60))) := hid (Y3.out.on (below_one wz _))
        have HSrc : Hid (Cel (wz.alloc (.cells #[.bool al, .string nm, .int .u32 a0, .int .u32 a1, .int .u32 a2, .int .u32 a3, .int .u32 a4, .int .u32 a5, .int .u32 a6, .int .u32 a7] 60)) wz.heap.size 60 (Rl.cs ⟨al, nm, [a0, a1, a2, a3, a4, a5, a6, a7]⟩)) := hid (heap_alloc_new _ _)
        clear Y3
        refine hK.out _ _ ⟨Y4.out.bl, Y4.out.p1⟩ (fun hHeld => ?_)
        clear hK KQ
        try simp only [Act.put, List.setIfInBounds_toArray, List.set_cons_zero, List.set_cons_succ]
        refine wpAnyH_ready (rs := [22]) (by kernel_rfl) (by simp) (AllReadyH.cons (o := ⟨some 37, .call { callee := .builtin .append, args := #[.tmp 16, .tmp 36], argTypes := #[34, 34] }, 34, "law.go:21", #[⟨1, .data⟩, ⟨21, .data⟩], none⟩) rfl (fun KQ hK => ?_) AllReadyH.nil)
        rw [if_pos (by rfl)]
        refine Y.wp_append_s _ _ 34 60 rfl Tryz.underlying34 Tryz.info60 rfl (by decide) (by decide) rfl Y4.out.own Y4.out.bl.size rfl rfl HSrc.out.lie (List.all_eq_true.1 (Rl.one ⟨al, nm, [a0, a1, a2, a3, a4, a5, a6, a7]⟩)) (by omega) ?_
        intro v5 w5 hal
        obtain ⟨aq, cq, rfl⟩ := Y.two_frm hal (by decide)
        have Y5 := hid (Y4.out.app HRk.out hal)
        have y1 : w5.cell? ⟨g, 0, none⟩ = some (.slice av k cv) := Y5.out.p3.cell 0
        have y2 := Y5.out.p3.free 0
        clear hal Y4 HSrc
        refine hK.out _ _ ⟨Y5.out.bl, Y5.out.p1⟩ (fun hHeld => ?_)
        clear hK KQ
        try simp only [Act.put, List.setIfInBounds_toArray, List.set_cons_zero, List.set_cons_succ]
        refine tk 23 ⟨some 38, .fieldAddr 36 (.tmp 3) 0, 0, "law.go:21", #[⟨0, .phase⟩, ⟨1, .phase⟩, ⟨2, .phase⟩, ⟨3, .phase⟩, ⟨4, .phase⟩, ⟨5, .phase⟩, ⟨6, .phase⟩, ⟨7, .phase⟩, ⟨8, .phase⟩, ⟨9, .phase⟩, ⟨10, .phase⟩, ⟨11, .phase⟩, ⟨12, .phase⟩, ⟨13, .phase⟩, ⟨14, .phase⟩, ⟨15, .phase⟩, ⟨16, .phase⟩, ⟨17, .phase⟩, ⟨18, .phase⟩, ⟨19, .phase⟩, ⟨20, .phase⟩, ⟨21, .phase⟩, ⟨22, .phase⟩], none⟩ (.pointer (some ⟨g, 0, none⟩)) ?_
        simp only [Act.put, List.setIfInBounds_toArray, List.set_cons_zero, List.set_cons_succ]
        refine wpAnyH_ready (rs := [24]) (by kernel_rfl) (by simp) (AllReadyH.cons (o := ⟨none, .store 34 (.tmp 38) (.tmp 37), 0, "law.go:21", #[⟨23, .data⟩, ⟨22, .data⟩, ⟨22, .chain⟩, ⟨0, .phase⟩, ⟨1, .phase⟩, ⟨2, .phase⟩, ⟨3, .phase⟩, ⟨4, .phase⟩, ⟨5, .phase⟩, ⟨6, .phase⟩, ⟨7, .phase⟩, ⟨8, .phase⟩, ⟨9, .phase⟩, ⟨10, .phase⟩, ⟨11, .phase⟩, ⟨12, .phase⟩, ⟨13, .phase⟩, ⟨14, .phase⟩, ⟨15, .phase⟩, ⟨16, .phase⟩, ⟨17, .phase⟩, ⟨18, .phase⟩, ⟨19, .phase⟩, ⟨20, .phase⟩, ⟨21, .phase⟩, ⟨22, .phase⟩], none⟩) rfl (fun KQ hK => ?_) AllReadyH.nil)
        go_simp
        clear y1 y2
        refine hK.out _ _ ⟨Y5.out.put.bl, Y5.out.put.p1⟩ (fun hHeld => ?_)
        clear hK KQ
        try simp only [Act.put]
        refine wpAnyH_done (by kernel_rfl) ?_ _
        go_wp2_with fail
        go_roundw
        case rel => exact ⟨k + 1, _, HN.out, by go_num, Y5.out.put⟩
        case measure => have := HN.out; simp [intOf]; omega
      · go_simp
        have Y4 : Hid (DP W g (some ⟨b1, o1, none⟩) n cp ot R k (.slice av k cv) (.slice av k cv) (wz.alloc (.cells #[.bool al, .string nm, .int .u32 a0, .int .u32 a1, .int .u32 a2, .int .u32 a3, .int .u32 a4, .int .u32 a5, .int .u32 a6, .int .u32 a7] 60))) := hid (Y3.out.on (below_one wz _))
        have HSrc : Hid (Cel (wz.alloc (.cells #[.bool al, .string nm, .int .u32 a0, .int .u32 a1, .int .u32 a2, .int .u32 a3, .int .u32 a4, .int .u32 a5, .int .u32 a6, .int .u32 a7] 60)) wz.heap.size 60 (Rl.cs ⟨al, nm, [a0, a1, a2, a3, a4, a5, a6, a7]⟩)) := hid (heap_alloc_new _ _)
        clear Y3
        refine hK.out _ _ ⟨Y4.out.bl, Y4.out.p1⟩ (fun hHeld => ?_)
        clear hK KQ
        try simp only [Act.put, List.setIfInBounds_toArray, List.set_cons_zero, List.set_cons_succ]
        refine wpAnyH_ready (rs := [1]) (by kernel_rfl) (by simp) (AllReadyH.cons (o := ⟨some 16, .load 34 (.tmp 15), 34, "law.go:21", #[⟨0, .data⟩], none⟩) rfl (fun KQ hK => ?_) AllReadyH.nil)
        have y0 : (_ : World).cell? ⟨g, 0, none⟩ = some (.slice av k cv) := Y4.out.p3.cell 0
        go_simp
        clear y0
        refine hK.out _ _ ⟨Y4.out.bl, Y4.out.p1⟩ (fun hHeld => ?_)
        clear hK KQ
        try simp only [Act.put, List.setIfInBounds_toArray, List.set_cons_zero, List.set_cons_succ]
        refine wpAnyH_ready (rs := [22]) (by kernel_rfl) (by simp) (AllReadyH.cons (o := ⟨some 37, .call { callee := .builtin .append, args := #[.tmp 16, .tmp 36], argTypes := #[34, 34] }, 34, "law.go:21", #[⟨1, .data⟩, ⟨21, .data⟩], none⟩) rfl (fun KQ hK => ?_) AllReadyH.nil)
        rw [if_pos (by rfl)]
        refine Y.wp_append_s _ _ 34 60 rfl Tryz.underlying34 Tryz.info60 rfl (by decide) (by decide) rfl Y4.out.own Y4.out.bl.size rfl rfl HSrc.out.lie (List.all_eq_true.1 (Rl.one ⟨al, nm, [a0, a1, a2, a3, a4, a5, a6, a7]⟩)) (by omega) ?_
        intro v5 w5 hal
        obtain ⟨aq, cq, rfl⟩ := Y.two_frm hal (by decide)
        have Y5 := hid (Y4.out.app HRk.out hal)
        have y1 : w5.cell? ⟨g, 0, none⟩ = some (.slice av k cv) := Y5.out.p3.cell 0
        have y2 := Y5.out.p3.free 0
        clear hal Y4 HSrc
        refine hK.out _ _ ⟨Y5.out.bl, Y5.out.p1⟩ (fun hHeld => ?_)
        clear hK KQ
        try simp only [Act.put, List.setIfInBounds_toArray, List.set_cons_zero, List.set_cons_succ]
        refine tk 23 ⟨some 38, .fieldAddr 36 (.tmp 3) 0, 0, "law.go:21", #[⟨0, .phase⟩, ⟨1, .phase⟩, ⟨2, .phase⟩, ⟨3, .phase⟩, ⟨4, .phase⟩, ⟨5, .phase⟩, ⟨6, .phase⟩, ⟨7, .phase⟩, ⟨8, .phase⟩, ⟨9, .phase⟩, ⟨10, .phase⟩, ⟨11, .phase⟩, ⟨12, .phase⟩, ⟨13, .phase⟩, ⟨14, .phase⟩, ⟨15, .phase⟩, ⟨16, .phase⟩, ⟨17, .phase⟩, ⟨18, .phase⟩, ⟨19, .phase⟩, ⟨20, .phase⟩, ⟨21, .phase⟩, ⟨22, .phase⟩], none⟩ (.pointer (some ⟨g, 0, none⟩)) ?_
        simp only [Act.put, List.setIfInBounds_toArray, List.set_cons_zero, List.set_cons_succ]
        refine wpAnyH_ready (rs := [24]) (by kernel_rfl) (by simp) (AllReadyH.cons (o := ⟨none, .store 34 (.tmp 38) (.tmp 37), 0, "law.go:21", #[⟨23, .data⟩, ⟨22, .data⟩, ⟨22, .chain⟩, ⟨0, .phase⟩, ⟨1, .phase⟩, ⟨2, .phase⟩, ⟨3, .phase⟩, ⟨4, .phase⟩, ⟨5, .phase⟩, ⟨6, .phase⟩, ⟨7, .phase⟩, ⟨8, .phase⟩, ⟨9, .phase⟩, ⟨10, .phase⟩, ⟨11, .phase⟩, ⟨12, .phase⟩, ⟨13, .phase⟩, ⟨14, .phase⟩, ⟨15, .phase⟩, ⟨16, .phase⟩, ⟨17, .phase⟩, ⟨18, .phase⟩, ⟨19, .phase⟩, ⟨20, .phase⟩, ⟨21, .phase⟩, ⟨22, .phase⟩], none⟩) rfl (fun KQ hK => ?_) AllReadyH.nil)
        go_simp
        clear y1 y2
        refine hK.out _ _ ⟨Y5.out.put.bl, Y5.out.put.p1⟩ (fun hHeld => ?_)
        clear hK KQ
        try simp only [Act.put]
        refine wpAnyH_done (by kernel_rfl) ?_ _
        go_wp2_with fail
        go_roundw
        case rel => exact ⟨k + 1, _, HN.out, by go_num, Y5.out.put⟩
        case measure => have := HN.out; simp [intOf]; omega
    · obtain rfl : k = n := by omega
      have htk : R.take k = R := List.take_of_length_le (by omega)
      have HT := hid htk
      clear hk hlt htk
      go_wp2_with (first | (refine wpList_load_mid rfl 36 _ rfl g 0 rfl [.slice av k cv, .bool ot] _ (cel_range Y1.out.p3) Tryz.underlying36 rfl size36d ?_) | (refine wpList_store_st rfl 36 _ _ rfl (W.heap.size + 1) [.slice av k cv, .bool ot] rfl rfl Y1.out.p2 size36d rfl rfl ?_; intro w4 hc4 hb4 hs4; have Y4 : Hid (Cel w4 (W.heap.size + 1) 36 [.slice av k cv, .bool ot] ∧ Below W.heap.size W w4 ∧ w4.ownsRow W.heap.size 60 10 (.slice av k cv) k (rcs (R.take k))) := hid ⟨hc4, Y1.out.bl.trans (hb4.below (by omega) Y1.out.bl.size), own_but Y1.out.own hb4 (own_ap Y1.out.own Y1.out.p2 (by decide))⟩; clear hc4 hb4 hs4))
      refine ret_q1 rfl rfl (W.heap.size + 1) [.slice av k cv, .bool ot] rfl Y4.out.1 Tryz.underlying36 rfl size36d ?_
      have ho := Y4.out.2.2
      rw [HT.out, ← hn] at ho
      exact ⟨av, cv, rfl, own_rulesE ho HM.out, Y4.out.2.1⟩
end Go.Proofs.YtbpdmkohihgnjaaGreatDoor
