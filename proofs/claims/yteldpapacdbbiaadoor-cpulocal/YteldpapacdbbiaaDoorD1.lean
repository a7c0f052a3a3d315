/- The law's places: lists of them; tables 39, among 21. -/
import Derived.Test.YteldpapacdbbiaaDoorD0
import Derived.OwnWalk
namespace Go.Proofs.YteldpapacdbbiaaDoor
open Go.RowKit
set_option maxHeartbeats 8000000
set_option maxRecDepth 100000
attribute [-simp] Tryd.isAgg26 Tryd.sizeOf26 Tryd.isAgg24 Tryd.isAgg28 Tryd.sizeOf28
def plcs : List Pl → List Value
  | [] => []
  | p :: L => plc p.1 p.2.1 p.2.2 ++ plcs L
theorem plcs_len : ∀ L, (plcs L).length = L.length * 3
  | [] => rfl
  | p :: L => by rw [plcs, List.length_append, plcs_len L]; simp [plc]; omega
theorem plcs_append : ∀ A B, plcs (A ++ B) = plcs A ++ plcs B
  | [], B => rfl
  | p :: A, B => by rw [List.cons_append, plcs, plcs_append A B, plcs, List.append_assoc]
theorem plcs_one : ∀ L, ∀ u ∈ plcs L, u.oneCell' = true
  | [], u, h => by cases h
  | p :: L, u, h => by
    rw [plcs, List.mem_append] at h
    rcases h with h | h
    · simp only [plc, List.mem_cons, List.not_mem_nil, or_false] at h
      rcases h with rfl | rfl | rfl <;> rfl
    · exact plcs_one L u h
theorem plcs_at : ∀ (L : List Pl) (j : Nat) (h : j < L.length), (plcs L)[j * 3]? = some (.bool (L[j]).1) ∧ (plcs L)[j * 3 + 1]? = some (.int .i64 (L[j]).2.1) ∧ (plcs L)[j * 3 + 2]? = some (.int .i64 (L[j]).2.2)
  | [], j, h => absurd h (by simp)
  | p :: L, 0, _ => by simp [plcs, plc]
  | p :: L, j + 1, h => by
    have := plcs_at L j (by simpa using h)
    rw [plcs]
    refine ⟨?_, ?_, ?_⟩
    · rw [List.getElem?_append_right (by simp [plc]; omega), show (j + 1) * 3 - (plc p.1 p.2.1 p.2.2).length = j * 3 by simp [plc]; omega]; exact this.1
    · rw [List.getElem?_append_right (by simp [plc]; omega), show (j + 1) * 3 + 1 - (plc p.1 p.2.1 p.2.2).length = j * 3 + 1 by simp [plc]; omega]; exact this.2.1
    · rw [List.getElem?_append_right (by simp [plc]; omega), show (j + 1) * 3 + 2 - (plc p.1 p.2.1 p.2.2).length = j * 3 + 2 by simp [plc]; omega]; exact this.2.2
/-- A list of places of the call's own. -/
structure Hp (W w : World) (v : Value) (L : List Pl) : Prop where
  own : w.ownsRow W.heap.size 48 3 v L.length (plcs L)
  below : Below W.heap.size W w
theorem Hp.on {W w w' : World} {v : Value} {L : List Pl} (h : Hp W w v L) (hb : Below w.heap.size w w') : Hp W w' v L :=
  ⟨⟨h.own.1, h.own.2.imp id fun ⟨g, cap, cur, hv, hB, hg, r⟩ => ⟨g, cap, cur, hv, hB, (hb.block g (Array.getElem?_eq_some_iff.1 hg).1).trans hg, r⟩⟩, below_on h.below hb⟩
theorem Hp.but {W w w' : World} {G : List Nat} {v : Value} {L : List Pl} (h : Hp W w v L) (hb : ButL G w w') (hG : ∀ k ∈ G, W.heap.size ≤ k) (hn : ∀ b, v.ownBlock = some b → b ∉ G) : Hp W w' v L :=
  ⟨⟨h.own.1, h.own.2.imp id fun ⟨g, cap, cur, hv, hB, hg, r⟩ => ⟨g, cap, cur, hv, hB, (hb.block g (Array.getElem?_eq_some_iff.1 hg).1 (hn g (by rw [hv]; rfl))).trans hg, r⟩⟩, h.below.trans (hb.below hG h.below.size)⟩
theorem Hp.form {W w : World} {v : Value} {L : List Pl} (h : Hp W w v L) : ∃ ao c, v = .slice ao L.length c := by
  rcases h.own.2 with ⟨hv, h0⟩ | ⟨g, cap, cur, hv, r⟩
  · exact ⟨none, 0, by rw [hv, h0]⟩
  · exact ⟨_, cap, hv⟩
theorem Hp.blk {W w : World} {v : Value} {L : List Pl} (h : Hp W w v L) {b : Nat} (hb : v.ownBlock = some b) : W.heap.size ≤ b ∧ ∃ cur, w.heap[b]? = some (.cells cur 48 (0, 0)) := by
  rcases h.own.2 with ⟨hv, h0⟩ | ⟨g, cap, cur, hv, hB, hg, r⟩
  · rw [hv] at hb; cases hb
  · rw [hv] at hb
    cases hb
    exact ⟨hB, cur, hg⟩
theorem grown_but {w w' : World} {v : Value} (h : w.grownBy w' v.ownBlock) {G : List Nat} (hG : ∀ b, v.ownBlock = some b → b ∈ G) : ButL G w w' :=
  ⟨h.os, h.tape, h.output, h.size, fun k hk hn => h.block k hk (fun e => hn (hG k e.symm))⟩
/-- What an append leaves as it was. -/
theorem Hp.keep {W w w' : World} {v : Value} {L : List Pl} (h : Hp W w v L) (hg : w.grownBy w' v.ownBlock) {g : Nat} {t : TypeId} {cs : List Value} (hc : Cel w g t cs) (ht : t ≠ 48 ∨ some g ≠ v.ownBlock) : Cel w' g t cs :=
  (hg.block g hc.lt (fun e => by
    rcases ht with ht | ht
    · obtain ⟨_, cur, hh⟩ := h.blk e.symm
      unfold Cel at hc
      rw [hc] at hh
      injection hh with hh
      injection hh with _ h2 _
      exact ht h2
    · exact ht e)).trans hc
theorem Hp.mem {W w w' : World} {v : Value} {L : List Pl} (h : Hp W w v L) (hg : w.grownBy w' v.ownBlock) {f : Fp} {m : MS} (hm : Mem w f m) (hl : ∀ k ∈ f.all, k < W.heap.size) : Mem w' f m := by
  cases hv : v.ownBlock with
  | none => exact hm.frame (G := []) (grown_but hg (by rw [hv]; intro b hb; cases hb)) (by simp)
  | some b =>
    have hb := (h.blk hv).1
    exact hm.frame (G := [b]) (grown_but hg (by rw [hv]; intro c hc; cases hc; simp)) (fun k hk hm' => by have := hl k hk; simp at hm'; omega)
theorem under62 : Tryd.prog.underlying 62 = some (.slice 48) := by kernel_rfl
theorem info48 : (Tryd.prog.info? 48).map (fun i => (i.zero, i.size, i.bytes)) = some (some (.agg #[.bool false, .int .i64 0, .int .i64 0]), 3, 24) := by kernel_rfl
theorem wp_append_p {W w : World} {o : Oper} {a : Act} {K : Act → World → Prop} {Q : Exit → Act → World → Prop} (s x : Operand)
    (ho : o.op = .call { callee := .builtin .append, args := #[s, x], argTypes := #[62, 62] }) (v : Value) (L : List Pl) (hs : a.eval s = v) (H : Hp W w v L) (ad : Addr) (m c : Nat) (xs : List Pl) (hx : a.eval x = .slice (some ad) m c) (hl : xs.length = m)
    (hsrc : ∀ j u, (plcs xs)[j]? = some u → w.cell? (ad.add j) = some u) (hbytes : L.length + m ≤ 100)
    (h : ∀ v' w', Hp W w' v' (L ++ xs) → w.grownBy w' v.ownBlock → K (a.put o.dst v') w') : o.wp Tryd.prog a w K Q := by
  obtain ⟨i, hi, hz, hsize, hby⟩ := info_parts info48
  obtain ⟨v', w', hr, h1, h2, _⟩ := run_append_own (P := Tryd.prog) w W.heap.size 62 o.type 48 i (.agg #[.bool false, .int .i64 0, .int .i64 0]) 3 24 under62 hi hz hsize hby rfl (by decide) v L.length _ H.own ad m c (plcs xs) (by rw [plcs_len, hl]) hsrc (plcs_one _) (by unfold maxLen; omega) (by omega) H.below.size
  have hH : Hp W w' v' (L ++ xs) := ⟨by rw [List.length_append, hl, plcs_append]; exact h1, H.below.grown h2 H.below.size (fun g hg => (H.own.lt g hg).1)⟩
  unfold Oper.wp execOp
  simp only [ho, resolve, invoke, builtin, Sem.run_bind, Sem.run_pure, Result.andThen_ok, List.map_toArray, List.map_cons, List.map_nil, hs, hx, hr]
  exact h _ _ hH h2
theorem wpList_append_p {W w : World} {ops : Array Oper} {rest : List Oper} {o : Oper} {a : Act} {Q : Exit → Act → World → Prop} (hgd : o.guard = none) (s x : Operand)
    (ho : o.op = .call { callee := .builtin .append, args := #[s, x], argTypes := #[62, 62] }) (v : Value) (L : List Pl) (hs : a.eval s = v) (H : Hp W w v L) (ad : Addr) (m c : Nat) (xs : List Pl) (hx : a.eval x = .slice (some ad) m c) (hl : xs.length = m)
    (hsrc : ∀ j u, (plcs xs)[j]? = some u → w.cell? (ad.add j) = some u) (hbytes : L.length + m ≤ 100)
    (h : ∀ v' w', Hp W w' v' (L ++ xs) → w.grownBy w' v.ownBlock → wpList Tryd.prog ops Q rest (a.put o.dst v') w') : wpList Tryd.prog ops Q (o :: rest) a w :=
  wpList_plain hgd fun _ hK => wp_append_p s x ho v L hs H ad m c xs hx hl hsrc hbytes (fun v' w' h1 h2 => hK _ _ (h v' w' h1 h2))
theorem wp_append_0 {W w : World} {o : Oper} {a : Act} {K : Act → World → Prop} {Q : Exit → Act → World → Prop} (s x : Operand)
    (ho : o.op = .call { callee := .builtin .append, args := #[s, x], argTypes := #[62, 62] }) (v : Value) (L : List Pl) (hs : a.eval s = v) (H : Hp W w v L) (hx : a.eval x = .slice none 0 0)
    (h : K (a.put o.dst v) w) : o.wp Tryd.prog a w K Q := by
  obtain ⟨i, hi, hz, hsize, hby⟩ := info_parts info48
  have hr := run_append_owned_none (P := Tryd.prog) (w := w) W.heap.size 62 o.type 48 i 3 under62 hi v L.length _ H.own
  unfold Oper.wp execOp
  simp only [ho, resolve, invoke, builtin, Sem.run_bind, Sem.run_pure, Result.andThen_ok, List.map_toArray, List.map_cons, List.map_nil, hs, hx, hr]
  exact h
/-- What tables answers. -/
structure Tq (W w : World) (v : Value) (L : List Pl) : Prop where
  below : Below W.heap.size W w
  form : (L = [] ∧ v = .slice none 0 0) ∨ ∃ g, v = .slice (some ⟨g, 0, none⟩) L.length L.length ∧ W.heap.size ≤ g ∧ Cel w g 48 (plcs L) ∧ L.length ≤ 2
theorem Tq.hp {W w : World} {v : Value} {L : List Pl} (h : Tq W w v L) : Hp W w v L := by
  refine ⟨⟨plcs_len L, ?_⟩, h.below⟩
  rcases h.form with ⟨rfl, hv⟩ | ⟨g, hv, hg, hc, hl⟩
  · exact .inl ⟨hv, rfl⟩
  · exact .inr ⟨g, L.length, (plcs L).toArray, hv, hg, hc, Nat.le_refl _, by unfold maxLen; omega, by simp [plcs_len], by simp [← plcs_len]⟩
theorem tables_any (W : World) (f : Fp) (m : MS) (h : Mem W f m) (hU : m.U) (l va : Int) (h0 : 0 ≤ va) (h1 : va < 4294967296) :
    Calls Tryd.prog 39 #[ptr f.gm, .int .i64 l, .int .u32 va] W fun e W' => ∃ v, e = .returned v ∧ Tq W W' v (m.tbl l va) := by
  have HS := hid (split_any W va h0 h1)
  have hw := hU.word true l (spI va)
  have HPf := hid (fun W => pf_any W (m.word true l (spI va)) hw.1 hw.2)
  have HPk := hid (fun x (hx : Mem x f m) => peek_any x f m hx true l (spI va))
  have HM := hid (h.on (below_one W (.cells #[.bool true, .int .i64 l, .int .i64 (spI va)] 48)))
  have HC := hid (Cel.new W 48 [.bool true, .int .i64 l, .int .i64 (spI va)])
  have HB0 := hid (below_one W (.cells #[.bool true, .int .i64 l, .int .i64 (spI va)] 48))
  clear h hU h0 h1 hw
  unfold MS.tbl
  generalize m.word true l (spI va) = w0 at *
  generalize spI va = i at *
  generalize spJ va = j at *
  generalize spO va = oo at *
  generalize spE va = e0 at *
  generalize pfE w0 = e1 at *
  generalize pf w0 = pg at *
  unfold ptr fr at *
  by_cases c0 : e0 = 0
  · subst c0
    rw [if_pos rfl]
    by_cases c1 : e1 = 0
    · subst c1
      rw [if_pos rfl]
      go_enter Tryd.func39, Tryd.ntmps39
      go_upto_region 5 with (first | (go_at_call 43; refine HS.out.mono ?_; rintro e wn ⟨rfl, rfl⟩) | (go_at_call 10; refine (num_any _ _).mono ?_; rintro e wn ⟨rfl, rfl⟩))
      generalize hX : World.alloc _ _ = X at *
      clear hX
      have r0 := HC.out.cell 0
      have r1 := HC.out.cell 1
      simp only [List.getElem?_cons_zero, List.getElem?_cons_succ] at r0 r1
      go_wp2_with fail
      refine (HPk.out _ HM.out).mono ?_
      rintro e w1 ⟨rfl, hb1⟩
      have HB1 := hid (below_on HB0.out hb1)
      have HC1 := hid (HC.out.on hb1)
      clear hb1 r0 r1
      have r0 := HC1.out.cell 0
      have r1 := HC1.out.cell 1
      have r2 := HC1.out.cell 2
      simp only [List.getElem?_cons_zero, List.getElem?_cons_succ] at r0 r1 r2
      go_wp2_with (first | (go_at_call 59; refine (HPf.out _).mono ?_; rintro e wn ⟨rfl, rfl⟩) | (go_at_call 10; refine (num_any _ _).mono ?_; rintro e wn ⟨rfl, rfl⟩))
      go_ret
      exact ⟨_, rfl, below_on HB1.out (below_one _ _), .inr ⟨_, rfl, HB1.out.size, Cel.new _ 48 _, by simp⟩⟩
    · have c1' : (e1 != 0) = true := by simpa using c1
      rw [if_neg c1]
      clear c1
      go_enter Tryd.func39, Tryd.ntmps39
      go_upto_region 5 with (first | (go_at_call 43; refine HS.out.mono ?_; rintro e wn ⟨rfl, rfl⟩) | (go_at_call 10; refine (num_any _ _).mono ?_; rintro e wn ⟨rfl, rfl⟩))
      generalize hX : World.alloc _ _ = X at *
      clear hX
      have r0 := HC.out.cell 0
      have r1 := HC.out.cell 1
      simp only [List.getElem?_cons_zero, List.getElem?_cons_succ] at r0 r1
      go_wp2_with fail
      refine (HPk.out _ HM.out).mono ?_
      rintro e w1 ⟨rfl, hb1⟩
      have HB1 := hid (below_on HB0.out hb1)
      have HC1 := hid (HC.out.on hb1)
      clear hb1 r0 r1
      have r0 := HC1.out.cell 0
      have r1 := HC1.out.cell 1
      have r2 := HC1.out.cell 2
      simp only [List.getElem?_cons_zero, List.getElem?_cons_succ] at r0 r1 r2
      go_wp2_with (first | (go_at_call 59; refine (HPf.out _).mono ?_; rintro e wn ⟨rfl, rfl⟩) | (go_at_call 10; refine (num_any _ _).mono ?_; rintro e wn ⟨rfl, rfl⟩))
      go_ret
      exact ⟨_, rfl, below_on HB1.out (below_one _ _), .inr ⟨_, rfl, HB1.out.size, Cel.new _ 48 _, by simp⟩⟩
  · have c0' : (e0 != 0) = true := by simpa using c0
    rw [if_neg c0]
    clear c0
    go_enter Tryd.func39, Tryd.ntmps39
    go_wp2_with (first | (go_at_call 43; refine HS.out.mono ?_; rintro e wn ⟨rfl, rfl⟩) | (go_at_call 10; refine (num_any _ _).mono ?_; rintro e wn ⟨rfl, rfl⟩))
    go_ret
    exact ⟨_, rfl, Below.refl _ _, .inl ⟨rfl, rfl⟩⟩
theorem Hp.at {W w : World} {v : Value} {L : List Pl} (h : Hp W w v L) (hp : 0 < L.length) : ∃ g cap, v = .slice (some ⟨g, 0, none⟩) L.length cap ∧ g < w.heap.size ∧ ∀ j (hj : j < L.length), w.cell? ⟨g, j * 3, none⟩ = some (.bool (L[j]).1) ∧ w.cell? ⟨g, j * 3 + 1, none⟩ = some (.int .i64 (L[j]).2.1) ∧ w.cell? ⟨g, j * 3 + 2, none⟩ = some (.int .i64 (L[j]).2.2) := by
  rcases h.own.2 with ⟨hv, h0⟩ | ⟨g, cap, cur, hv, hB, hg, hle, r⟩
  · omega
  · refine ⟨g, cap, hv, (Array.getElem?_eq_some_iff.1 hg).1, fun j hj => ?_⟩
    have hc : ∀ t u, (plcs L)[t]? = some u → w.cell? ⟨g, t, none⟩ = some u := fun t u hu => by
      have := h.own.cells (g := g) (by rw [hv]; rfl) t u hu
      rw [Addr.add_mid, Nat.zero_add] at this
      exact this
    obtain ⟨a, b, c⟩ := plcs_at L j hj
    exact ⟨hc _ _ a, hc _ _ b, hc _ _ c⟩
end Go.Proofs.YteldpapacdbbiaaDoor
