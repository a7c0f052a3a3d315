import Derived.Test.YtgbpbfnpeeciaaaGreatP06
import Derived.Test.YtgbpbfnpeeciaaaGreatP04
import Derived.Test.YtgbpbfnpeeciaaaGreatP01
import Derived.Laws.BitsAllLaws
namespace Go.Proofs.YtgbpbfnpeeciaaaGreat
open Go.RowKit
theorem under66 : Tryz.prog.underlying 112 = some (.slice 102) := by kernel_rfl
theorem info24 : (Tryz.prog.info? 102).map (fun i => (i.zero, i.size, i.bytes)) = some (some (.slice none 0 0), 1, 24) := by kernel_rfl
structure Hv (W wr : World) (v : Value) (vs : List Value) : Prop where
  own : wr.ownsRow W.heap.size 102 1 v vs.length vs
  below : Below W.heap.size W wr
theorem Hv.start (W : World) : Hv W W (.slice none 0 0) [] := ⟨World.ownsRow_nil _ _ _ _, Below.refl _ _⟩
theorem Hv.on {W w w' : World} {v : Value} {L : List Value} (h : Hv W w v L) (hb : Below w.heap.size w w') : Hv W w' v L :=
  ⟨⟨h.own.1, h.own.2.imp id fun ⟨g, cap, cur, hv, hB, hg, r⟩ => ⟨g, cap, cur, hv, hB, (hb.block g (Array.getElem?_eq_some_iff.1 hg).1).trans hg, r⟩⟩, below_on h.below hb⟩
theorem Hv.but {W w w' : World} {G : List Nat} {v : Value} {L : List Value} (h : Hv W w v L) (hb : ButL G w w') (hG : ∀ k ∈ G, W.heap.size ≤ k) (hn : ∀ b, blkOf v = some b → b ∉ G) : Hv W w' v L :=
  ⟨⟨h.own.1, h.own.2.imp id fun ⟨g, cap, cur, hv, hB, hg, r⟩ => ⟨g, cap, cur, hv, hB, (hb.block g (Array.getElem?_eq_some_iff.1 hg).1 (hn g (by rw [hv]; rfl))).trans hg, r⟩⟩, h.below.trans (hb.below hG h.below.size)⟩
theorem Hv.form {W w : World} {v : Value} {L : List Value} (h : Hv W w v L) : ∃ ao c, v = .slice ao L.length c := by
  rcases h.own.2 with ⟨hv, h0⟩ | ⟨g, cap, cur, hv, r⟩
  · exact ⟨none, 0, by rw [hv, h0]⟩
  · exact ⟨_, cap, hv⟩
theorem Hv.blk {W w : World} {v : Value} {L : List Value} (h : Hv W w v L) {b : Nat} (hb : blkOf v = some b) : W.heap.size ≤ b ∧ ∃ cur, w.heap[b]? = some (.cells cur 102 (0, 0)) := by
  rcases h.own.2 with ⟨hv, h0⟩ | ⟨g, cap, cur, hv, hB, hg, r⟩
  · rw [hv] at hb; cases hb
  · rw [hv] at hb
    simp only [blkOf, Option.some.injEq] at hb
    subst hb
    exact ⟨hB, cur, hg⟩
theorem Hv.cells {W w : World} {v : Value} {L : List Value} (h : Hv W w v L) (hp : 0 < L.length) : ∃ g cap cur, v = .slice (some ⟨g, 0, none⟩) L.length cap ∧ W.heap.size ≤ g ∧ w.heap[g]? = some (.cells cur 102 (0, 0)) ∧ cur.toList.take L.length = L := by
  rcases h.own.2 with ⟨hv, h0⟩ | ⟨g, cap, cur, hv, hB, hg, hle, r⟩
  · omega
  · refine ⟨g, cap, cur, hv, hB, hg, ?_⟩
    apply List.ext_getElem?
    intro j
    by_cases hj : j < L.length
    · have hc := h.own.cells (g := g) (by rw [hv]; rfl) j _ (List.getElem?_eq_getElem hj)
      rw [Addr.add_mid, Nat.zero_add, cell_of_row w g j _ 102 (0, 0) hg] at hc
      rw [List.getElem?_take_of_lt hj, List.getElem?_eq_getElem hj]
      simpa using hc
    · rw [List.getElem?_take_eq_none (by omega), List.getElem?_eq_none (by omega)]
theorem grown_but {w w' : World} {v : Value} (h : w.grownBy w' v.ownBlock) {G : List Nat} (hG : ∀ b, v.ownBlock = some b → b ∈ G) : ButL G w w' :=
  ⟨h.os, h.tape, h.output, h.size, fun k hk hn => h.block k hk (fun e => hn (hG k e.symm))⟩
theorem wpList_append_v {W w : World} {ops : Array Oper} {rest : List Oper} {o : Oper} {a : Act} {Q : Exit → Act → World → Prop} (hgd : o.guard = none) (s x : Operand)
    (ho : o.op = .call { callee := .builtin .append, args := #[s, x], argTypes := #[112, 112] }) (v : Value) (L : List Value) (hs : a.eval s = v) (H : Hv W w v L) (ad : Addr) (m c : Nat) (xs : List Value) (hx : a.eval x = .slice (some ad) m c) (hl : xs.length = m)
    (hsrc : ∀ j u, xs[j]? = some u → w.cell? (ad.add j) = some u) (hone : ∀ u ∈ xs, u.oneCell' = true) (hbytes : (L.length + m) * 24 ≤ 140737488355328)
    (h : ∀ v' w', Hv W w' v' (L ++ xs) → w.grownBy w' v.ownBlock → wpList Tryz.prog ops Q rest (a.put o.dst v') w') : wpList Tryz.prog ops Q (o :: rest) a w := by
  obtain ⟨i, hi, hz, hsize, hby⟩ := info_parts info24
  obtain ⟨v', w', hr, h1, h2, _⟩ := run_append_own (P := Tryz.prog) w W.heap.size 112 o.type 102 i (.slice none 0 0) 1 24 under66 hi hz hsize hby rfl (by decide) v L.length _ H.own ad m c xs (by rw [hl, Nat.mul_one]) hsrc hone (by unfold maxLen; omega) hbytes H.below.size
  have hH : Hv W w' v' (L ++ xs) := ⟨by rw [List.length_append, hl]; exact h1, H.below.grown h2 H.below.size (fun g hg => (H.own.lt g hg).1)⟩
  refine wpList_plain hgd fun K hK => ?_
  unfold Oper.wp execOp
  simp only [ho, resolve, invoke, builtin, Sem.run_bind, Sem.run_pure, Result.andThen_ok, List.map_toArray, List.map_cons, List.map_nil, hs, hx, hr]
  exact hK _ _ (h _ _ hH h2)
theorem new_srcv (w : World) (xs : List Value) : ∀ j u, xs[j]? = some u → (w.alloc (.cells xs.toArray 102)).cell? ((⟨w.heap.size, 0, none⟩ : Addr).add j) = some u := (Cel.new w 102 xs).src
structure RB (W wr : World) (g : Nat) (v : Value) (vs : List Value) (s c : Int) : Prop where
  hv : Hv W wr v vs
  cel : Cel wr g 114 [v, .int .i64 s, .int .i64 c]
  hg : W.heap.size ≤ g
theorem RB.on {W w w' : World} {g : Nat} {v : Value} {vs : List Value} {s c : Int} (h : RB W w g v vs s c) (hb : Below w.heap.size w w') : RB W w' g v vs s c := ⟨h.hv.on hb, h.cel.on hb, h.hg⟩
theorem ownBlock_blk {v : Value} {b : Nat} {W w : World} {L : List Value} (h : Hv W w v L) (hb : v.ownBlock = some b) : blkOf v = some b := by
  rcases h.own.2 with ⟨hv, h0⟩ | ⟨g, cap, cur, hv, r⟩
  · rw [hv] at hb; cases hb
  · rw [hv] at hb ⊢; exact hb
theorem RB.grown {W w w' : World} {g : Nat} {v v' : Value} {vs vs' : List Value} {s c : Int} (h : RB W w g v vs s c) (h2 : Hv W w' v' vs') (hgr : w.grownBy w' v.ownBlock) : RB W (w'.setCell ⟨g, 0, none⟩ v') g v' vs' s c := by
  have hne : ∀ b, v.ownBlock = some b → b ≠ g := fun b hb e => by
    subst e
    obtain ⟨_, cur, hc⟩ := h.hv.blk (ownBlock_blk h.hv hb)
    have h3 := h.cel
    unfold Cel at h3
    rw [hc] at h3
    injection h3 with h3
    injection h3 with _ h4 _
    exact absurd h4 (by decide)
  have hc : Cel w' g 114 [v, .int .i64 s, .int .i64 c] := (hgr.block g h.cel.lt (fun e => hne g e.symm rfl)).trans h.cel
  refine ⟨h2.but (G := [g]) (.setCell _ _ _ _ (by simp)) (fun k hk => by rw [List.mem_singleton] at hk; subst hk; exact h.hg) (fun b hb => ?_), hc.setCell 0 v', h.hg⟩
  rw [List.mem_singleton]
  intro e
  subst e
  obtain ⟨_, cur, hcc⟩ := h2.blk hb
  unfold Cel at hc
  rw [hcc] at hc
  injection hc with hc
  injection hc with _ h4 _
  exact absurd h4 (by decide)
theorem RB.celG {W w w' : World} {g : Nat} {v : Value} {vs : List Value} {s c : Int} (h : RB W w g v vs s c) (hgr : w.grownBy w' v.ownBlock) : Cel w' g 114 [v, .int .i64 s, .int .i64 c] := by
  refine (hgr.block g h.cel.lt (fun e => ?_)).trans h.cel
  obtain ⟨_, cur, hc⟩ := h.hv.blk (ownBlock_blk h.hv e.symm)
  have h3 := h.cel
  unfold Cel at h3
  rw [hc] at h3
  injection h3 with h3
  injection h3 with _ h4 _
  exact absurd h4 (by decide)
theorem RB.cell0 {W w w' : World} {g : Nat} {v v' : Value} {vs vs' : List Value} {s c : Int} (h : RB W w g v vs s c) (_ : Hv W w' v' vs') (hgr : w.grownBy w' v.ownBlock) : w'.cell? ⟨g, 0, none⟩ = some v := (h.celG hgr).cell 0
theorem RB.free0 {W w w' : World} {g : Nat} {v v' : Value} {vs vs' : List Value} {s c : Int} (h : RB W w g v vs s c) (_ : Hv W w' v' vs') (hgr : w.grownBy w' v.ownBlock) : w'.frozen? ⟨g, 0, none⟩ = false := (h.celG hgr).free 0
theorem RB.c0 {W w : World} {g : Nat} {v : Value} {vs : List Value} {s c : Int} (h : RB W w g v vs s c) : w.cell? ⟨g, 0, none⟩ = some v := h.cel.cell 0
structure NewR (w w' : World) (r : Rf) (m : MS) : Prop where
  mem : RMem w' r m
  below : Below w.heap.size w w'
  new : ∀ k ∈ r.all, w.heap.size ≤ k
theorem RB.done {W w : World} {g : Nat} {v : Value} {vs : List Value} {m : MS} (h : RB W w g v vs (m.ns : Int) m.c) (hlen : vs.length = m.P.length) (h0 : 0 < m.P.length) (ns0 : m.ns ≤ m.P.length) (most : m.P.length ≤ 128)
    (hpg : ∀ k, k < m.P.length → PgIs w (vs.getD k nilV) (m.p k)) (hbl : ∀ k, k < m.P.length → ∀ b, blkOf (vs.getD k nilV) = some b → W.heap.size ≤ b) (hap : ∀ j k, j < m.P.length → k < m.P.length → j ≠ k → ∀ b, blkOf (vs.getD j nilV) = some b → blkOf (vs.getD k nilV) ≠ some b) :
    ∃ r : Rf, r.g = g ∧ NewR W w r m := by
  obtain ⟨gp, cap, cur, e1, e2, e3, e4⟩ := h.hv.cells (by omega)
  have hc := h.cel
  rw [e1, hlen] at hc
  refine ⟨⟨g, gp, cap, vs⟩, rfl, ⟨hc, ⟨cur, e3, by rw [← hlen]; exact e4⟩, hlen, ns0, most, hpg, hap⟩, h.hv.below, fun b hb => ?_⟩
  rcases Rf.all_mem hb with rfl | rfl | ⟨k, hk, hbk⟩
  · exact h.hg
  · exact e2
  · exact hbl k (by rw [← hlen]; exact hk) b hbk
set_option maxRecDepth 40000 in
set_option maxHeartbeats 4000000 in
theorem rnew_any (w : World) (s n : Nat) (s1 : 1 ≤ s) (s2 : s ≤ 64) (n1 : 1 ≤ n) (n2 : n ≤ 64) :
    Calls Tryz.prog 10 #[.int .i64 (s : Int), .int .i64 (n : Int)] w fun x w' => ∃ r, x = .returned (.tuple #[ptr r.g, .int .i64 0]) ∧ NewR w w' r (MS.new s n) := by
  have a1 : (1 : Int) ≤ (s : Int) := by omega
  have a2 : (s : Int) ≤ 64 := by omega
  have a3 : (1 : Int) ≤ (n : Int) := by omega
  have a4 : (n : Int) ≤ 64 := by omega
  have HM : Hid (s + n ≤ 128) := hid (by omega)
  have HP : Hid (0 < s + n) := hid (by omega)
  have HB : Hid (RB w (w.alloc (.cells #[.slice none 0 0, .int .i64 (s : Int), .int .i64 0] 114)) w.heap.size (.slice none 0 0) [] (s : Int) 0) := hid ⟨(Hv.start w).on (below_one _ _), Cel.new w 114 [.slice none 0 0, .int .i64 (s : Int), .int .i64 0], Nat.le_refl _⟩
  clear s1 s2 n1 n2
  go_enter Tryz.func10, Tryz.ntmps10
  go_wp2_with fail
  generalize w.alloc _ = X at *
  have HG : Hid (w.heap.size = w.heap.size) := hid rfl
  generalize w.heap.size = g at *
  go_loopw [7] (fun i wr => ∃ (j : Nat) (v : Value), j ≤ s + n ∧ i = .int .i64 (j : Int) ∧ Hid (RB w wr g v (List.replicate j nilV) (s : Int) 0)) (fun i _ => s + n - (intOf i).toNat)
  case atStart => exact ⟨0, _, Nat.zero_le _, rfl, HB⟩
  case round =>
    obtain ⟨j, v, hj, rfl, HQ⟩ := hrel
    clear HB
    by_cases hlt : j < s + n
    · have c1 : (j : Int) < (s : Int) + (n : Int) := by omega
      have j1 : (j : Int) ≤ 128 := by have := HM.out; omega
      obtain ⟨ao, cc, hvf⟩ := HQ.out.hv.form
      have y0 := HQ.out.c0
      have HV : Hid (v = .slice ao (List.replicate j nilV).length cc) := hid hvf
      rw [hvf] at y0
      have HQ1 := hid (HQ.out.on (below_one wr (.cells #[.slice none 0 0] 102)))
      have hby : ((List.replicate j nilV).length + 1) * 24 ≤ 140737488355328 := by rw [List.length_replicate]; have := HM.out; omega
      clear hvf
      subst v
      have HR : Hid (List.replicate j nilV ++ [.slice none 0 0] = List.replicate (j + 1) nilV) := hid (by rw [List.replicate_succ']; rfl)
      generalize hLL : List.replicate j nilV = LL at *
      clear hLL
      go_wp2_with (first | (at_builtin; refine wpList_append_v (W := w) rfl _ _ rfl (.slice ao LL.length cc) LL rfl HQ1.out.hv ⟨wr.heap.size, 0, none⟩ 1 1 [.slice none 0 0] rfl rfl (new_srcv _ [.slice none 0 0]) (by intro u hu; rw [List.mem_singleton] at hu; subst hu; rfl) hby ?_; intro v' w2 H2 hgr; obtain ⟨ao2, cc2, rfl⟩ := H2.form; have HN := hid (HQ1.out.grown H2 hgr); have y1 : w2.cell? ⟨g, 0, none⟩ = some (.slice ao LL.length cc) := (RB.cell0 HQ1.out H2 hgr); have y2 : w2.frozen? ⟨g, 0, none⟩ = false := (RB.free0 HQ1.out H2 hgr); clear H2 hgr))
      exact ⟨⟨j + 1, _, by omega, by go_num, by rw [← HR.out]; exact (by simpa using HN.out : RB w (w2.setCell ⟨g, 0, none⟩ (.slice ao2 (LL.length + 1) cc2)) g (.slice ao2 (LL.length + 1) cc2) (LL ++ [.slice none 0 0]) (s : Int) 0)⟩, by simp [intOf]; omega⟩
    · obtain rfl : j = s + n := by omega
      have c1 : ¬ ((s + n : Nat) : Int) < (s : Int) + (n : Int) := by omega
      have HD : Hid (∃ r : Rf, r.g = g ∧ NewR w wr r (MS.new s n)) := hid (by
        have e : (MS.new s n).P.length = s + n := by simp [MS.new]
        refine RB.done (m := MS.new s n) HQ.out (by rw [List.length_replicate, e]) (by rw [e]; exact HP.out) (by rw [e]; exact Nat.le_add_right _ _) (by rw [e]; exact HM.out) (fun k hk => ?_) (fun k hk b hb => ?_) (fun j k hj hk _ b hb => ?_)
        · rw [e] at hk
          have e1 : (List.replicate (s + n) nilV).getD k nilV = .slice none 0 0 := by simp [List.getD_eq_getElem?_getD, hk]; rfl
          have e2 : (MS.new s n).p k = zs := rep_p k (s + n) hk
          rw [e1, e2]; exact pg_nil _
        · rw [e] at hk
          have e1 : (List.replicate (s + n) nilV).getD k nilV = .slice none 0 0 := by simp [List.getD_eq_getElem?_getD, hk]; rfl
          rw [e1] at hb; cases hb
        · rw [e] at hj
          have e1 : (List.replicate (s + n) nilV).getD j nilV = .slice none 0 0 := by simp [List.getD_eq_getElem?_getD, hj]; rfl
          rw [e1] at hb; cases hb)
      go_wp2_with fail
      go_ret2
      obtain ⟨r, rfl, hr⟩ := HD.out
      exact ⟨r, rfl, hr⟩
theorem rnew_no (w : World) (s n : Int) (h : ¬ (1 ≤ s ∧ s ≤ 64 ∧ 1 ≤ n ∧ n ≤ 64)) :
    Calls Tryz.prog 10 #[.int .i64 s, .int .i64 n] w fun x w' => x = .returned (.tuple #[.pointer none, .int .i64 1]) ∧ w' = w := by
  have h' : s < 1 ∨ (1 ≤ s ∧ 64 < s) ∨ (1 ≤ s ∧ s ≤ 64 ∧ n < 1) ∨ (1 ≤ s ∧ s ≤ 64 ∧ 1 ≤ n ∧ 64 < n) := by omega
  clear h
  go_enter Tryz.func10, Tryz.ntmps10
  rcases h' with h | ⟨h1, h2⟩ | ⟨h1, h2, h3⟩ | ⟨h1, h2, h3, h4⟩
  all_goals go_wp2_with fail
  all_goals go_ret2
  all_goals exact ⟨rfl, rfl⟩
end Go.Proofs.YtgbpbfnpeeciaaaGreat
namespace Go.Proofs.YtgbpbfnpeeciaaaGreat
open Go.RowKit
theorem Hl.pg {W w : World} {v : Value} {L : List Int} (h : Hl W w v L) (hL : L.length = 1024) : PgIs w v L ∧ (∀ b, blkOf v = some b → W.heap.size ≤ b) := by
  rcases h.own.2 with ⟨hv, h0⟩ | ⟨g, cap, cur, hv, hB, hg, hle, r⟩
  · omega
  · rw [hL] at hv
    refine ⟨⟨hL, .inr ⟨g, cap, cur, hv, hg, ?_⟩⟩, fun b hb => by rw [hv] at hb; simp only [blkOf, Option.some.injEq] at hb; rw [← hb]; exact hB⟩
    apply List.ext_getElem?
    intro j
    by_cases hj : j < 1024
    · have hjl : j < (u32s L).length := by rw [u32s_len, hL]; exact hj
      have hc := h.own.cells (g := g) (by rw [hv]; rfl) j _ (List.getElem?_eq_getElem hjl)
      rw [Addr.add_mid, Nat.zero_add, cell_of_row w g j _ 29 (0, 0) hg] at hc
      rw [List.getElem?_take_of_lt hj, List.getElem?_eq_getElem hjl]
      simpa using hc
    · rw [List.getElem?_take_eq_none (by omega), List.getElem?_eq_none (by rw [u32s_len, hL]; omega)]
set_option maxRecDepth 40000 in
set_option maxHeartbeats 4000000 in
theorem PgIs.grown {W w w' : World} {v x : Value} {L : List Value} {L' : List Int} (h : PgIs w x L') (hv : Hv W w v L) (hgr : w.grownBy w' v.ownBlock) : PgIs w' x L' := by
  refine ⟨h.1, h.2.imp id ?_⟩
  rintro ⟨b, cap, cur, e1, e2, e3⟩
  refine ⟨b, cap, cur, e1, (hgr.block b (Array.getElem?_eq_some_iff.1 e2).1 (fun e => ?_)).trans e2, e3⟩
  obtain ⟨_, cur', hc⟩ := hv.blk (ownBlock_blk hv e.symm)
  rw [hc] at e2
  injection e2 with e2
  injection e2 with _ h4 _
  exact absurd h4 (by decide)
theorem PgIs.setG {w : World} {x : Value} {L' : List Int} (h : PgIs w x L') {g : Nat} {cs : List Value} {t : TypeId} (hg : Cel w g t cs) (ht : t ≠ 29) (j : Nat) (u : Value) : PgIs (w.setCell ⟨g, j, none⟩ u) x L' :=
  h.but (G := [g]) (.setCell _ _ _ _ (by simp)) (fun b hb => by rw [List.mem_singleton]; intro e; subst e; exact ht (h.ty hb hg))
structure CI (w wr : World) (g : Nat) (v : Value) (vs : List Value) (m : MS) (j : Nat) : Prop where
  rb : RB w wr g v vs (m.ns : Int) m.c
  len : vs.length = j
  pg : ∀ k, k < j → PgIs wr (vs.getD k nilV) (m.p k)
  bl : ∀ k, k < j → ∀ b, blkOf (vs.getD k nilV) = some b → w.heap.size ≤ b
  ap : ∀ i k, i < j → k < j → i ≠ k → ∀ b, blkOf (vs.getD i nilV) = some b → blkOf (vs.getD k nilV) ≠ some b
theorem getD_snoc (vs : List Value) (x : Value) (k : Nat) (hk : k < vs.length + 1) : (vs ++ [x]).getD k nilV = if k = vs.length then x else vs.getD k nilV := by
  by_cases e : k = vs.length
  · subst e; rw [if_pos rfl, List.getD_eq_getElem?_getD, List.getElem?_append_right (Nat.le_refl _)]; simp
  · rw [if_neg e, List.getD_eq_getElem?_getD, List.getElem?_append_left (by omega), ← List.getD_eq_getElem?_getD]
theorem CI.snoc {w wr w1 w2 : World} {g : Nat} {v v' x : Value} {vs : List Value} {m : MS} {j : Nat} (h : CI w wr g v vs m j) (hb : Below wr.heap.size wr w1) (hx : PgIs w1 x (m.p j)) (hxb : ∀ b, blkOf x = some b → wr.heap.size ≤ b) (h2 : Hv w w2 v' (vs ++ [x])) (hgr : w1.grownBy w2 v.ownBlock) :
    CI w (w2.setCell ⟨g, 0, none⟩ v') g v' (vs ++ [x]) m (j + 1) := by
  have hrb := h.rb.on hb
  have hlen := h.len
  have key : ∀ (y : Value) (L : List Int), PgIs w1 y L → PgIs (w2.setCell ⟨g, 0, none⟩ v') y L := fun y L hy => (hy.grown hrb.hv hgr).setG (hrb.celG hgr) (by decide) 0 v'
  refine ⟨hrb.grown h2 hgr, by simp [hlen], fun k hk => ?_, fun k hk b => ?_, fun i k hi hk hik b => ?_⟩
  · rw [getD_snoc vs x k (by omega)]
    split
    · rename_i e; rw [e, hlen]; exact key _ _ hx
    · exact key _ _ ((h.pg k (by omega)).on hb)
  · rw [getD_snoc vs x k (by omega)]
    split
    · intro hbx; have := hxb b hbx; have := h.rb.hv.below.size; omega
    · exact h.bl k (by omega) b
  · rw [getD_snoc vs x i (by omega), getD_snoc vs x k (by omega)]
    split
    · rename_i e1
      rw [if_neg (by omega)]
      intro h1 h3
      have a := hxb b h1
      have c := (h.pg k (by omega)).lt h3
      omega
    · split
      · intro h1 h3
        have a := hxb b h3
        have c := (h.pg i (by omega)).lt h1
        omega
      · exact h.ap i k (by omega) (by omega) hik b
theorem Hl.blk {W w : World} {v : Value} {L : List Int} (h : Hl W w v L) {b : Nat} (hb : blkOf v = some b) : W.heap.size ≤ b := by
  rcases h.own.2 with ⟨hv, h0⟩ | ⟨g, cap, cur, hv, hB, hg, r⟩
  · rw [hv] at hb; cases hb
  · rw [hv] at hb
    simp only [blkOf, Option.some.injEq] at hb
    subst hb
    exact hB
end Go.Proofs.YtgbpbfnpeeciaaaGreat
namespace Go.Proofs.YtgbpbfnpeeciaaaGreat
open Go.RowKit
def En.used (x : En) : En := if x.t = 1 then ⟨x.t, x.o, x.r, x.s, false⟩ else if x.t = 2 then ⟨x.t, x.o, 0, 0, x.e⟩ else if x.t = 3 ∨ x.t = 4 ∨ x.t = 5 ∨ x.t = 6 then ⟨x.t, x.o, 0, 0, false⟩ else En.zero
def blw (n : Int) : Bool := decide (0 ≤ n ∧ n < 64)
def fit (s t : Int) : Bool := if t = 1 then decide (0 < s ∧ s < 4) else s == 0
def En.ok (x : En) : Bool := x.same x.used && (blw x.o && (blw x.r && fit x.s x.t))
structure En.Ok (x : En) : Prop where
  t0 : 0 ≤ x.t
  t1 : x.t ≤ 6
  o0 : 0 ≤ x.o
  o1 : x.o < 64
  r0 : 0 ≤ x.r
  r1 : x.r < 64
  s0 : 0 ≤ x.s
  s1 : x.s < 4
  z : x.t = 0 → x.o = 0
  sp : x.t = 1 → 1 ≤ x.s
  ns : x.t ≠ 1 → x.r = 0 ∧ x.s = 0
  en : x.e = true → x.t = 2
theorem En.ok_iff (x : En) : x.ok = true ↔ x.Ok := by
  obtain ⟨t, o, r, s, e⟩ := x
  simp only [En.ok, Bool.and_eq_true, En.same_iff, blw, fit, decide_eq_true_eq, En.used]
  constructor
  · rintro ⟨h, ho, hr, hs⟩
    split at h
    · rename_i ht
      subst ht
      simp only [En.mk.injEq, true_and] at h
      simp only [if_true, decide_eq_true_eq] at hs
      exact ⟨by simp, by simp, ho.1, ho.2, hr.1, hr.2, by simp only; omega, by simp only; omega, by simp, by simp only; omega, by simp, by simp [h]⟩
    · rename_i h1
      rw [if_neg h1] at hs
      simp only [beq_iff_eq] at hs
      split at h
      · rename_i h2
        subst h2
        simp only [En.mk.injEq, true_and, and_true] at h
        exact ⟨by simp, by simp, ho.1, ho.2, hr.1, hr.2, by simp only; omega, by simp only; omega, by simp, by simp, by simp only; omega, by simp⟩
      · split at h
        · rename_i h2 h3
          simp only [En.mk.injEq, true_and] at h
          exact ⟨by simp only; omega, by simp only; omega, ho.1, ho.2, hr.1, hr.2, by simp only; omega, by simp only; omega, by simp only; omega, by simp only; omega, by simp only; omega, by simp [h]⟩
        · simp only [En.zero, En.mk.injEq] at h
          obtain ⟨rfl, rfl, rfl, rfl, rfl⟩ := h
          exact ⟨by simp, by simp, by simp, by simp, by simp, by simp, by simp, by simp, by simp, by simp, by simp, by simp⟩
  · rintro ⟨t0, t1, o0, o1, r0, r1, s0, s1, z, sp, ns, en⟩
    simp only at *
    refine ⟨?_, ⟨o0, o1⟩, ⟨r0, r1⟩, ?_⟩
    · by_cases h1 : t = 1
      · rw [if_pos h1]
        cases e
        · rfl
        · have := en rfl; omega
      · obtain ⟨hr, hs⟩ := ns h1
        subst hr hs
        rw [if_neg h1]
        by_cases h2 : t = 2
        · rw [if_pos h2]
        · rw [if_neg h2]
          cases e
          · by_cases h3 : t = 3 ∨ t = 4 ∨ t = 5 ∨ t = 6
            · rw [if_pos h3]
            · rw [if_neg h3]
              have h4 : t = 0 := by omega
              have h5 := z h4
              subst h4 h5
              rfl
          · exact absurd (en rfl) h2
    · by_cases h1 : t = 1
      · rw [if_pos h1]; have := sp h1; simp; omega
      · rw [if_neg h1]; simp [(ns h1).2]
def chk (x : En) : Int := if x.ok = true then 0 else 110
def En.w (x : En) : Int := x.t + 16 * x.s + 65536 * x.o + (if x.e then 256 else 0)
def fld (a b : Int) : En := ⟨a % 8, a / 65536 % 64, b % 64, a / 16 % 4, a / 256 % 2 == 1⟩
theorem En.w_range {x : En} (h : x.Ok) : 0 ≤ x.w ∧ x.w < 4294967296 := by
  obtain ⟨t0, t1, o0, o1, r0, r1, s0, s1, z, sp, ns, en⟩ := h
  unfold En.w
  split <;> omega
theorem fld_w {x : En} (h : x.Ok) : fld x.w x.r = x := by
  obtain ⟨t0, t1, o0, o1, r0, r1, s0, s1, z, sp, ns, en⟩ := h
  obtain ⟨t, o, r, s, e⟩ := x
  simp only [fld, En.w] at *
  cases e
  · simp only [Bool.false_eq_true, if_false, En.mk.injEq]
    refine ⟨by omega, by omega, by omega, by omega, ?_⟩
    rw [beq_eq_false_iff_ne]; omega
  · have ht := en rfl
    subst ht
    obtain ⟨rfl, rfl⟩ := ns (by decide)
    simp only [if_true, En.mk.injEq]
    refine ⟨by omega, by omega, by omega, by omega, ?_⟩
    rw [beq_iff_eq]; omega
def e0 (x : En) : Int := if x.ok = true then x.w else 0
def e1 (x : En) : Int := if x.ok = true then x.r else 0
def dok (a b : Int) : Bool := (fld a b).ok && same2 (e0 (fld a b)) (e1 (fld a b)) a b
def dec (a b : Int) : En := if dok a b = true then fld a b else En.zero
def decE (a b : Int) : Int := if dok a b = true then 0 else 110
theorem dok_w {x : En} (h : x.ok = true) : dok (e0 x) (e1 x) = true ∧ fld (e0 x) (e1 x) = x := by
  have hf : fld (e0 x) (e1 x) = x := by unfold e0 e1; rw [if_pos h, if_pos h]; exact fld_w (x.ok_iff.1 h)
  exact ⟨by simp [dok, hf, h, same2], hf⟩
theorem or_add (k : Nat) (a b c : Int) (hb : b = c * 2 ^ k) (ha0 : 0 ≤ a) (ha : a < 2 ^ k) (hc : 0 ≤ c) (hk : b < 4294967296) (hk2 : a < 4294967296) : bits .or .u32 a b = a + b := by
  have hp : (0 : Int) < 2 ^ k := Int.pow_pos (by decide)
  have hb0 : 0 ≤ b := by rw [hb]; exact Int.mul_nonneg hc (Int.le_of_lt hp)
  rw [u32_or a b ha0 hk2 hb0 hk]
  have e : b.toNat = c.toNat <<< k := by
    rw [Nat.shiftLeft_eq]
    have : ((c.toNat * 2 ^ k : Nat) : Int) = b := by rw [hb]; push_cast; rw [Int.toNat_of_nonneg hc]
    omega
  have e2 : a.toNat < 2 ^ k := by
    have : ((2 ^ k : Nat) : Int) = 2 ^ k := by push_cast; rfl
    omega
  rw [e, Nat.or_comm, ← Nat.shiftLeft_add_eq_or_of_lt e2, ← e]
  omega
theorem or_256 (o : Int) (h0 : 0 ≤ o) (h1 : o < 64) : bits .or .u32 (2 + 65536 * o) 256 = 2 + 65536 * o + 256 := by
  rw [u32_or _ 256 (by omega) (by omega) (by decide) (by decide)]
  have : ∀ k : Fin 64, ((2 + 65536 * k.val) ||| 256) = 2 + 65536 * k.val + 256 := by decide
  have e := this ⟨o.toNat, by omega⟩
  simp only at e
  have e2 : (2 + 65536 * o).toNat = 2 + 65536 * o.toNat := by omega
  rw [e2, show (256 : Int).toNat = 256 from rfl, e]
  omega
theorem and_mask (k : Nat) (m a : Int) (hm : m = 2 ^ k - 1) (h0 : 0 ≤ a) (h1 : a < 4294967296) (hm1 : m < 4294967296) : bits .and .u32 a m = a % 2 ^ k := by
  have hp : ((2 ^ k : Nat) : Int) = 2 ^ k := by push_cast; rfl
  have hp0 : 0 < 2 ^ k := Nat.two_pow_pos k
  rw [u32_and a m h0 h1 (by omega) hm1]
  have : m.toNat = 2 ^ k - 1 := by omega
  rw [this, Nat.and_two_pow_sub_one_eq_mod, ← hp]
  have ea : a = (a.toNat : Int) := by omega
  rw [ea]
  simp
end Go.Proofs.YtgbpbfnpeeciaaaGreat
namespace Go.Proofs.YtgbpbfnpeeciaaaGreat
open Go.RowKit
set_option maxHeartbeats 4000000
set_option maxRecDepth 100000
theorem below_any (W : World) (n : Int) : Calls Tryz.prog 129 #[.int .i64 n] W fun e W' => e = .returned (.bool (blw n)) ∧ W = W' := by
  unfold blw
  by_cases h0 : 0 ≤ n
  · by_cases h1 : n < 64
    · have hd : decide (0 ≤ n ∧ n < 64) = true := decide_eq_true ⟨h0, h1⟩
      rw [hd]
      go_enter Tryz.func129, Tryz.ntmps129
      go_wp2
      go_ret
      exact ⟨rfl, rfl⟩
    · have hd : decide (0 ≤ n ∧ n < 64) = false := decide_eq_false (by omega)
      rw [hd]
      go_enter Tryz.func129, Tryz.ntmps129
      go_wp2
      go_ret
      exact ⟨rfl, rfl⟩
  · have hd : decide (0 ≤ n ∧ n < 64) = false := decide_eq_false (by omega)
    rw [hd]
    go_enter Tryz.func129, Tryz.ntmps129
    go_wp2
    go_ret
    exact ⟨rfl, rfl⟩
theorem fits_any (W : World) (s t : Int) : Calls Tryz.prog 130 #[.int .i64 s, .int .i64 t] W fun e W' => e = .returned (.bool (fit s t)) ∧ W = W' := by
  unfold fit
  by_cases ht : t = 1
  · subst ht
    rw [if_pos rfl]
    by_cases h0 : 0 < s
    · by_cases h1 : s < 4
      · have hd : decide (0 < s ∧ s < 4) = true := decide_eq_true ⟨h0, h1⟩
        rw [hd]
        go_enter Tryz.func130, Tryz.ntmps130
        go_wp2
        go_ret
        exact ⟨rfl, rfl⟩
      · have hd : decide (0 < s ∧ s < 4) = false := decide_eq_false (by omega)
        rw [hd]
        go_enter Tryz.func130, Tryz.ntmps130
        go_wp2
        go_ret
        exact ⟨rfl, rfl⟩
    · have hd : decide (0 < s ∧ s < 4) = false := decide_eq_false (by omega)
      rw [hd]
      go_enter Tryz.func130, Tryz.ntmps130
      go_wp2
      go_ret
      exact ⟨rfl, rfl⟩
  · rw [if_neg ht]
    have h' : (t == 1) = false := by simpa using ht
    clear ht
    go_enter Tryz.func130, Tryz.ntmps130
    go_wp2
    go_ret
    exact ⟨rfl, rfl⟩
structure Bx (W x : World) (g h : Nat) (t u : TypeId) (cs ds : List Value) : Prop where
  a : Cel x g t cs
  b : Cel x h u ds
  below : Below W.heap.size W x
  lh : W.heap.size ≤ h
theorem Bx.new (W : World) (t u : TypeId) (cs ds : List Value) : Bx W ((W.alloc (.cells cs.toArray t)).alloc (.cells ds.toArray u)) W.heap.size (W.heap.size + 1) t u cs ds := by
  have h := Cel.new (W.alloc (.cells cs.toArray t)) u ds
  rw [World.size_alloc] at h
  exact ⟨(Cel.new W t cs).on (below_one _ _), h, below_on (below_one _ _) (below_one _ _), by omega⟩
theorem Bx.on {W x x' : World} {g h : Nat} {t u : TypeId} {cs ds : List Value} (k : Bx W x g h t u cs ds) (hb : Below x.heap.size x x') : Bx W x' g h t u cs ds := ⟨k.a.on hb, k.b.on hb, below_on k.below hb, k.lh⟩
theorem Bx.put {W x x' : World} {g h : Nat} {t u : TypeId} {cs ds es : List Value} (k : Bx W x g h t u cs ds) (hc : Cel x' h u es) (hb : ButL [h] x x') : Cel x' h u es ∧ Below W.heap.size W x' :=
  ⟨hc, k.below.trans (hb.below (B := W.heap.size) (by simpa using k.lh) k.below.size)⟩
theorem used_any (W : World) (x : En) : Calls Tryz.prog 128 #[x.v] W fun e W' => e = .returned x.used.v ∧ Below W.heap.size W W' := by
  have HX := hid (Bx.new W 125 125 x.cs En.zero.cs)
  obtain ⟨t, o, r, s, e⟩ := x
  generalize hu : En.used ⟨t, o, r, s, e⟩ = u
  simp only [En.v, En.cs, En.zero] at HX ⊢
  unfold En.used at hu
  simp only [En.zero] at hu
  by_cases h1 : t = 1
  · subst h1
    rw [if_pos rfl] at hu
    subst hu
    go_enter Tryz.func128, Tryz.ntmps128
    go_upto_region 1 with fail
    generalize hX : (W.alloc _).alloc _ = X at *
    clear hX
    generalize W.heap.size + 1 = g2 at *
    generalize W.heap.size = g1 at *
    have c0 := HX.out.a.cell 0
    have c1 := HX.out.a.cell 1
    have c2 := HX.out.a.cell 2
    have c3 := HX.out.a.cell 3
    have c4 := HX.out.a.cell 4
    simp only [List.getElem?_cons_zero, List.getElem?_cons_succ] at c0 c1 c2 c3 c4
    go_wp2_with (refine wpList_store_st rfl 125 _ _ rfl g2 [.int .i64 1, .int .i64 o, .int .i64 r, .int .i64 s, .bool false] rfl rfl HX.out.b sizeE rfl rfl ?_; intro w2 hc2 hb2 hs2; have HF := hid (HX.out.put hc2 hb2); clear hc2 hb2 hs2)
    exact ret_st rfl rfl g2 _ rfl HF.out.1 underE rfl (by rw [sizeE]; rfl) ⟨rfl, HF.out.2⟩
  rw [if_neg h1] at hu
  by_cases h2 : t = 2
  · subst h2
    rw [if_pos rfl] at hu
    subst hu
    clear h1
    go_enter Tryz.func128, Tryz.ntmps128
    go_upto_region 1 with fail
    generalize hX : (W.alloc _).alloc _ = X at *
    clear hX
    generalize W.heap.size + 1 = g2 at *
    generalize W.heap.size = g1 at *
    have c0 := HX.out.a.cell 0
    have c1 := HX.out.a.cell 1
    have c2 := HX.out.a.cell 2
    have c3 := HX.out.a.cell 3
    have c4 := HX.out.a.cell 4
    simp only [List.getElem?_cons_zero, List.getElem?_cons_succ] at c0 c1 c2 c3 c4
    go_wp2_with (refine wpList_store_st rfl 125 _ _ rfl g2 [.int .i64 2, .int .i64 o, .int .i64 0, .int .i64 0, .bool e] rfl rfl HX.out.b sizeE rfl rfl ?_; intro w2 hc2 hb2 hs2; have HF := hid (HX.out.put hc2 hb2); clear hc2 hb2 hs2)
    exact ret_st rfl rfl g2 _ rfl HF.out.1 underE rfl (by rw [sizeE]; rfl) ⟨rfl, HF.out.2⟩
  rw [if_neg h2] at hu
  by_cases h3 : t = 3
  · subst h3
    rw [if_pos (by decide)] at hu
    subst hu
    clear h1 h2
    go_enter Tryz.func128, Tryz.ntmps128
    go_upto_region 1 with fail
    generalize hX : (W.alloc _).alloc _ = X at *
    clear hX
    generalize W.heap.size + 1 = g2 at *
    generalize W.heap.size = g1 at *
    have c0 := HX.out.a.cell 0
    have c1 := HX.out.a.cell 1
    have c2 := HX.out.a.cell 2
    have c3 := HX.out.a.cell 3
    have c4 := HX.out.a.cell 4
    simp only [List.getElem?_cons_zero, List.getElem?_cons_succ] at c0 c1 c2 c3 c4
    go_wp2_with (refine wpList_store_st rfl 125 _ _ rfl g2 [.int .i64 3, .int .i64 o, .int .i64 0, .int .i64 0, .bool false] rfl rfl HX.out.b sizeE rfl rfl ?_; intro w2 hc2 hb2 hs2; have HF := hid (HX.out.put hc2 hb2); clear hc2 hb2 hs2)
    exact ret_st rfl rfl g2 _ rfl HF.out.1 underE rfl (by rw [sizeE]; rfl) ⟨rfl, HF.out.2⟩
  by_cases h4 : t = 4
  · subst h4
    rw [if_pos (by decide)] at hu
    subst hu
    clear h1 h2 h3
    go_enter Tryz.func128, Tryz.ntmps128
    go_upto_region 1 with fail
    generalize hX : (W.alloc _).alloc _ = X at *
    clear hX
    generalize W.heap.size + 1 = g2 at *
    generalize W.heap.size = g1 at *
    have c0 := HX.out.a.cell 0
    have c1 := HX.out.a.cell 1
    have c2 := HX.out.a.cell 2
    have c3 := HX.out.a.cell 3
    have c4 := HX.out.a.cell 4
    simp only [List.getElem?_cons_zero, List.getElem?_cons_succ] at c0 c1 c2 c3 c4
    go_wp2_with (refine wpList_store_st rfl 125 _ _ rfl g2 [.int .i64 4, .int .i64 o, .int .i64 0, .int .i64 0, .bool false] rfl rfl HX.out.b sizeE rfl rfl ?_; intro w2 hc2 hb2 hs2; have HF := hid (HX.out.put hc2 hb2); clear hc2 hb2 hs2)
    exact ret_st rfl rfl g2 _ rfl HF.out.1 underE rfl (by rw [sizeE]; rfl) ⟨rfl, HF.out.2⟩
  by_cases h5 : t = 5
  · subst h5
    rw [if_pos (by decide)] at hu
    subst hu
    clear h1 h2 h3 h4
    go_enter Tryz.func128, Tryz.ntmps128
    go_upto_region 1 with fail
    generalize hX : (W.alloc _).alloc _ = X at *
    clear hX
    generalize W.heap.size + 1 = g2 at *
    generalize W.heap.size = g1 at *
    have c0 := HX.out.a.cell 0
    have c1 := HX.out.a.cell 1
    have c2 := HX.out.a.cell 2
    have c3 := HX.out.a.cell 3
    have c4 := HX.out.a.cell 4
    simp only [List.getElem?_cons_zero, List.getElem?_cons_succ] at c0 c1 c2 c3 c4
    go_wp2_with (refine wpList_store_st rfl 125 _ _ rfl g2 [.int .i64 5, .int .i64 o, .int .i64 0, .int .i64 0, .bool false] rfl rfl HX.out.b sizeE rfl rfl ?_; intro w2 hc2 hb2 hs2; have HF := hid (HX.out.put hc2 hb2); clear hc2 hb2 hs2)
    exact ret_st rfl rfl g2 _ rfl HF.out.1 underE rfl (by rw [sizeE]; rfl) ⟨rfl, HF.out.2⟩
  by_cases h6 : t = 6
  · subst h6
    rw [if_pos (by decide)] at hu
    subst hu
    clear h1 h2 h3 h4 h5
    go_enter Tryz.func128, Tryz.ntmps128
    go_upto_region 1 with fail
    generalize hX : (W.alloc _).alloc _ = X at *
    clear hX
    generalize W.heap.size + 1 = g2 at *
    generalize W.heap.size = g1 at *
    have c0 := HX.out.a.cell 0
    have c1 := HX.out.a.cell 1
    have c2 := HX.out.a.cell 2
    have c3 := HX.out.a.cell 3
    have c4 := HX.out.a.cell 4
    simp only [List.getElem?_cons_zero, List.getElem?_cons_succ] at c0 c1 c2 c3 c4
    go_wp2_with (refine wpList_store_st rfl 125 _ _ rfl g2 [.int .i64 6, .int .i64 o, .int .i64 0, .int .i64 0, .bool false] rfl rfl HX.out.b sizeE rfl rfl ?_; intro w2 hc2 hb2 hs2; have HF := hid (HX.out.put hc2 hb2); clear hc2 hb2 hs2)
    exact ret_st rfl rfl g2 _ rfl HF.out.1 underE rfl (by rw [sizeE]; rfl) ⟨rfl, HF.out.2⟩
  · rw [if_neg (by omega)] at hu
    subst hu
    have q1 : (t == 1) = false := by simpa using h1
    have q2 : (t == 2) = false := by simpa using h2
    have q3 : (t == 3) = false := by simpa using h3
    have q4 : (t == 4) = false := by simpa using h4
    have q5 : (t == 5) = false := by simpa using h5
    have q6 : (t == 6) = false := by simpa using h6
    clear h1 h2 h3 h4 h5 h6
    go_enter Tryz.func128, Tryz.ntmps128
    go_upto_region 1 with fail
    generalize hX : (W.alloc _).alloc _ = X at *
    clear hX
    generalize W.heap.size + 1 = g2 at *
    generalize W.heap.size = g1 at *
    have c0 := HX.out.a.cell 0
    have c1 := HX.out.a.cell 1
    have c2 := HX.out.a.cell 2
    have c3 := HX.out.a.cell 3
    have c4 := HX.out.a.cell 4
    simp only [List.getElem?_cons_zero, List.getElem?_cons_succ] at c0 c1 c2 c3 c4
    go_wp2_with (refine wpList_store_st rfl 125 _ _ rfl g2 [.int .i64 0, .int .i64 0, .int .i64 0, .int .i64 0, .bool false] rfl rfl HX.out.b sizeE rfl rfl ?_; intro w2 hc2 hb2 hs2; have HF := hid (HX.out.put hc2 hb2); clear hc2 hb2 hs2)
    exact ret_st rfl rfl g2 _ rfl HF.out.1 underE rfl (by rw [sizeE]; rfl) ⟨rfl, HF.out.2⟩
end Go.Proofs.YtgbpbfnpeeciaaaGreat
