import Derived.Test.YtdfnbcbnmiohnaaGreatDoorP39
import Derived.Test.YtdfnbcbnmiohnaaGreatDoorP38
namespace Go.Proofs.YtdfnbcbnmiohnaaGreatDoor
open Go.RowKit
theorem under66 : Tryz.prog.underlying 184 = some (.slice 51) := by kernel_rfl
theorem info24 : (Tryz.prog.info? 51).map (fun i => (i.zero, i.size, i.bytes)) = some (some (.slice none 0 0), 1, 24) := by kernel_rfl
/-- A list of lists of the call's own. -/
structure Hv (W wr : World) (v : Value) (vs : List Value) : Prop where
  own : wr.ownsRow W.heap.size 51 1 v vs.length vs
  below : Below W.heap.size W wr
theorem Hv.start (W : World) : Hv W W (.slice none 0 0) [] := ⟨World.ownsRow_nil _ _ _ _, Below.refl _ _⟩
theorem Hv.on {W w w' : World} {v : Value} {L : List Value} (h : Hv W w v L) (hb : Below w.heap.size w w') : Hv W w' v L :=
  ⟨⟨h.own.1, h.own.2.imp id fun ⟨g, cap, cur, hv, hB, hg, r⟩ => ⟨g, cap, cur, hv, hB, (hb.block g (Array.getElem?_eq_some_iff.1 hg).1).trans hg, r⟩⟩, below_on h.below hb⟩
theorem Hv.but {W w w' : World} {G : List Nat} {v : Value} {L : List Value} (h : Hv W w v L) (hb : ButL G w w') (hG : ∀ k ∈ G, W.heap.size ≤ k) (hn : ∀ b, blkOf v = some b → b ∉ G) : Hv W w' v L :=
  ⟨⟨h.own.1, h.own.2.imp id fun ⟨g, cap, cur, hv, hB, hg, r⟩ => ⟨g, cap, cur, hv, hB, (hb.block g (Array.getElem?_eq_some_iff.1 hg).1 (hn g (by rw [hv]; rfl))).trans hg, r⟩⟩, h.below.trans (hb.below hG h.below.size)⟩
theorem Hv.form {W w : World} {v : Value} {L : List Value} (h : Hv W w v L) : ∃ ao c, v = .slice ao L.length c := by
  rcases h.own.2 with ⟨hv, h0⟩ | ⟨g, cap, cur, hv, r⟩
  · exact ⟨none, 0, by rw [hv, h0]⟩
  · exact ⟨_, cap, hv⟩
theorem Hv.blk {W w : World} {v : Value} {L : List Value} (h : Hv W w v L) {b : Nat} (hb : blkOf v = some b) : W.heap.size ≤ b ∧ ∃ cur, w.heap[b]? = some (.cells cur 51 (0, 0)) := by
  rcases h.own.2 with ⟨hv, h0⟩ | ⟨g, cap, cur, hv, hB, hg, r⟩
  · rw [hv] at hb; cases hb
  · rw [hv] at hb
    simp only [blkOf, Option.some.injEq] at hb
    subst hb
    exact ⟨hB, cur, hg⟩
theorem Hv.cells {W w : World} {v : Value} {L : List Value} (h : Hv W w v L) (hp : 0 < L.length) : ∃ g cap cur, v = .slice (some ⟨g, 0, none⟩) L.length cap ∧ W.heap.size ≤ g ∧ w.heap[g]? = some (.cells cur 51 (0, 0)) ∧ cur.toList.take L.length = L := by
  rcases h.own.2 with ⟨hv, h0⟩ | ⟨g, cap, cur, hv, hB, hg, hle, r⟩
  · omega
  · refine ⟨g, cap, cur, hv, hB, hg, ?_⟩
    apply List.ext_getElem?
    intro j
    by_cases hj : j < L.length
    · have hc := h.own.cells (g := g) (by rw [hv]; rfl) j _ (List.getElem?_eq_getElem hj)
      rw [Addr.add_mid, Nat.zero_add, cell_of_row w g j _ 51 (0, 0) hg] at hc
      rw [List.getElem?_take_of_lt hj, List.getElem?_eq_getElem hj]
      simpa using hc
    · rw [List.getElem?_take_eq_none (by omega), List.getElem?_eq_none (by omega)]
theorem grown_but {w w' : World} {v : Value} (h : w.grownBy w' v.ownBlock) {G : List Nat} (hG : ∀ b, v.ownBlock = some b → b ∈ G) : ButL G w w' :=
  ⟨h.os, h.tape, h.output, h.size, fun k hk hn => h.block k hk (fun e => hn (hG k e.symm))⟩
theorem wpList_append_v {W w : World} {ops : Array Oper} {rest : List Oper} {o : Oper} {a : Act} {Q : Exit → Act → World → Prop} (hgd : o.guard = none) (s x : Operand)
    (ho : o.op = .call { callee := .builtin .append, args := #[s, x], argTypes := #[184, 184] }) (v : Value) (L : List Value) (hs : a.eval s = v) (H : Hv W w v L) (ad : Addr) (m c : Nat) (xs : List Value) (hx : a.eval x = .slice (some ad) m c) (hl : xs.length = m)
    (hsrc : ∀ j u, xs[j]? = some u → w.cell? (ad.add j) = some u) (hone : ∀ u ∈ xs, u.oneCell' = true) (hbytes : (L.length + m) * 24 ≤ 140737488355328)
    (h : ∀ v' w', Hv W w' v' (L ++ xs) → w.grownBy w' v.ownBlock → wpList Tryz.prog ops Q rest (a.put o.dst v') w') : wpList Tryz.prog ops Q (o :: rest) a w := by
  obtain ⟨i, hi, hz, hsize, hby⟩ := info_parts info24
  obtain ⟨v', w', hr, h1, h2, _⟩ := run_append_own (P := Tryz.prog) w W.heap.size 184 o.type 51 i (.slice none 0 0) 1 24 under66 hi hz hsize hby rfl (by decide) v L.length _ H.own ad m c xs (by rw [hl, Nat.mul_one]) hsrc hone (by unfold maxLen; omega) hbytes H.below.size
  have hH : Hv W w' v' (L ++ xs) := ⟨by rw [List.length_append, hl]; exact h1, H.below.grown h2 H.below.size (fun g hg => (H.own.lt g hg).1)⟩
  refine wpList_plain hgd fun K hK => ?_
  unfold Oper.wp execOp
  simp only [ho, resolve, invoke, builtin, Sem.run_bind, Sem.run_pure, Result.andThen_ok, List.map_toArray, List.map_cons, List.map_nil, hs, hx, hr]
  exact hK _ _ (h _ _ hH h2)
theorem new_srcv (w : World) (xs : List Value) : ∀ j u, xs[j]? = some u → (w.alloc (.cells xs.toArray 51)).cell? ((⟨w.heap.size, 0, none⟩ : Addr).add j) = some u := (Cel.new w 51 xs).src
/-- A document's memory that is being put together. -/
structure RB (W wr : World) (g : Nat) (v : Value) (vs : List Value) (s c : Int) : Prop where
  hv : Hv W wr v vs
  cel : Cel wr g 186 [v, .int .i64 s, .int .i64 c]
  hg : W.heap.size ≤ g
theorem RB.on {W w w' : World} {g : Nat} {v : Value} {vs : List Value} {s c : Int} (h : RB W w g v vs s c) (hb : Below w.heap.size w w') : RB W w' g v vs s c := ⟨h.hv.on hb, h.cel.on hb, h.hg⟩
theorem ownBlock_blk {v : Value} {b : Nat} {W w : World} {L : List Value} (h : Hv W w v L) (hb : v.ownBlock = some b) : blkOf v = some b := by
  rcases h.own.2 with ⟨hv, h0⟩ | ⟨g, cap, cur, hv, r⟩
  · rw [hv] at hb; cases hb
  · rw [hv] at hb ⊢; exact hb
theorem RB.grown {W w w' : World} {g : Nat} {v v' : Value} {vs vs' : List Value} {s c : Int} (h : RB W w g v vs s c) (h2 : Hv W w' v' vs') (hgr : w.grownBy w' v.ownBlock) : RB W (w'.setCell ⟨g, 0, none⟩ v') g v' vs' s c := by
  have hne : ∀ b, v.ownBlock = some b → b ≠ g := fun b hb e => by
    subst e
    obtain ⟨_, cur, hc⟩ := h.hv.blk (ownBlock_blk h.hv hb)
    have h3 := h.cel
    unfold Cel at h3
    rw [hc] at h3
    injection h3 with h3
    injection h3 with _ h4 _
    exact absurd h4 (by decide)
  have hc : Cel w' g 186 [v, .int .i64 s, .int .i64 c] := (hgr.block g h.cel.lt (fun e => hne g e.symm rfl)).trans h.cel
  refine ⟨h2.but (G := [g]) (.setCell _ _ _ _ (by simp)) (fun k hk => by rw [List.mem_singleton] at hk; subst hk; exact h.hg) (fun b hb => ?_), hc.setCell 0 v', h.hg⟩
  rw [List.mem_singleton]
  intro e
  subst e
  obtain ⟨_, cur, hcc⟩ := h2.blk hb
  unfold Cel at hc
  rw [hcc] at hc
  injection hc with hc
  injection hc with _ h4 _
  exact absurd h4 (by decide)
theorem RB.celG {W w w' : World} {g : Nat} {v : Value} {vs : List Value} {s c : Int} (h : RB W w g v vs s c) (hgr : w.grownBy w' v.ownBlock) : Cel w' g 186 [v, .int .i64 s, .int .i64 c] := by
  refine (hgr.block g h.cel.lt (fun e => ?_)).trans h.cel
  obtain ⟨_, cur, hc⟩ := h.hv.blk (ownBlock_blk h.hv e.symm)
  have h3 := h.cel
  unfold Cel at h3
  rw [hc] at h3
  injection h3 with h3
  injection h3 with _ h4 _
  exact absurd h4 (by decide)
theorem RB.cell0 {W w w' : World} {g : Nat} {v v' : Value} {vs vs' : List Value} {s c : Int} (h : RB W w g v vs s c) (_ : Hv W w' v' vs') (hgr : w.grownBy w' v.ownBlock) : w'.cell? ⟨g, 0, none⟩ = some v := (h.celG hgr).cell 0
theorem RB.free0 {W w w' : World} {g : Nat} {v v' : Value} {vs vs' : List Value} {s c : Int} (h : RB W w g v vs s c) (_ : Hv W w' v' vs') (hgr : w.grownBy w' v.ownBlock) : w'.frozen? ⟨g, 0, none⟩ = false := (h.celG hgr).free 0
theorem RB.c0 {W w : World} {g : Nat} {v : Value} {vs : List Value} {s c : Int} (h : RB W w g v vs s c) : w.cell? ⟨g, 0, none⟩ = some v := h.cel.cell 0
/-- A new document's memory. -/
structure NewR (w w' : World) (r : Rf) (m : MS) : Prop where
  mem : RMem w' r m
  below : Below w.heap.size w w'
  new : ∀ k ∈ r.all, w.heap.size ≤ k
theorem RB.done {W w : World} {g : Nat} {v : Value} {vs : List Value} {m : MS} (h : RB W w g v vs (m.ns : Int) m.c) (hlen : vs.length = m.P.length) (h0 : 0 < m.P.length) (ns0 : m.ns ≤ m.P.length) (most : m.P.length ≤ 128)
    (hpg : ∀ k, k < m.P.length → PgIs w (vs.getD k nilV) (m.p k)) (hbl : ∀ k, k < m.P.length → ∀ b, blkOf (vs.getD k nilV) = some b → W.heap.size ≤ b) (hap : ∀ j k, j < m.P.length → k < m.P.length → j ≠ k → ∀ b, blkOf (vs.getD j nilV) = some b → blkOf (vs.getD k nilV) ≠ some b) :
    ∃ r : Rf, r.g = g ∧ NewR W w r m := by
  obtain ⟨gp, cap, cur, e1, e2, e3, e4⟩ := h.hv.cells (by omega)
  have hc := h.cel
  rw [e1, hlen] at hc
  refine ⟨⟨g, gp, cap, vs⟩, rfl, ⟨hc, ⟨cur, e3, by rw [← hlen]; exact e4⟩, hlen, ns0, most, hpg, hap⟩, h.hv.below, fun b hb => ?_⟩
  rcases Rf.all_mem hb with rfl | rfl | ⟨k, hk, hbk⟩
  · exact h.hg
  · exact e2
  · exact hbl k (by rw [← hlen]; exact hk) b hbk
set_option maxRecDepth 40000 in
set_option maxHeartbeats 4000000 in
theorem rnew_any (w : World) (s n : Nat) (s1 : 1 ≤ s) (s2 : s ≤ 64) (n1 : 1 ≤ n) (n2 : n ≤ 64) :
    Calls Tryz.prog 74 #[.int .i64 (s : Int), .int .i64 (n : Int)] w fun x w' => ∃ r, x = .returned (.tuple #[ptr r.g, .int .i64 0]) ∧ NewR w w' r (MS.new s n) := by
  have a1 : (1 : Int) ≤ (s : Int) := by omega
  have a2 : (s : Int) ≤ 64 := by omega
  have a3 : (1 : Int) ≤ (n : Int) := by omega
  have a4 : (n : Int) ≤ 64 := by omega
  have HM : Hid (s + n ≤ 128) := hid (by omega)
  have HP : Hid (0 < s + n) := hid (by omega)
  have HB : Hid (RB w (w.alloc (.cells #[.slice none 0 0, .int .i64 (s : Int), .int .i64 0] 186)) w.heap.size (.slice none 0 0) [] (s : Int) 0) := hid ⟨(Hv.start w).on (below_one _ _), Cel.new w 186 [.slice none 0 0, .int .i64 (s : Int), .int .i64 0], Nat.le_refl _⟩
  clear s1 s2 n1 n2
  go_enter Tryz.func74, Tryz.ntmps74
  go_wp2_with fail
  generalize w.alloc _ = X at *
  have HG : Hid (w.heap.size = w.heap.size) := hid rfl
  generalize w.heap.size = g at *
  go_loopw [7] (fun i wr => ∃ (j : Nat) (v : Value), j ≤ s + n ∧ i = .int .i64 (j : Int) ∧ Hid (RB w wr g v (List.replicate j nilV) (s : Int) 0)) (fun i _ => s + n - (intOf i).toNat)
  case atStart => exact ⟨0, _, Nat.zero_le _, rfl, HB⟩
  case round =>
    obtain ⟨j, v, hj, rfl, HQ⟩ := hrel
    clear HB
    by_cases hlt : j < s + n
    · have c1 : (j : Int) < (s : Int) + (n : Int) := by omega
      have j1 : (j : Int) ≤ 128 := by have := HM.out; omega
      obtain ⟨ao, cc, hvf⟩ := HQ.out.hv.form
      have y0 := HQ.out.c0
      have HV : Hid (v = .slice ao (List.replicate j nilV).length cc) := hid hvf
      rw [hvf] at y0
      have HQ1 := hid (HQ.out.on (below_one wr (.cells #[.slice none 0 0] 51)))
      have hby : ((List.replicate j nilV).length + 1) * 24 ≤ 140737488355328 := by rw [List.length_replicate]; have := HM.out; omega
      clear hvf
      subst v
      have HR : Hid (List.replicate j nilV ++ [.slice none 0 0] = List.replicate (j + 1) nilV) := hid (by rw [List.replicate_succ']; rfl)
      generalize hLL : List.replicate j nilV = LL at *
      clear hLL
      go_wp2_with (first | (at_builtin; refine wpList_append_v (W := w) rfl _ _ rfl (.slice ao LL.length cc) LL rfl HQ1.out.hv ⟨wr.heap.size, 0, none⟩ 1 1 [.slice none 0 0] rfl rfl (new_srcv _ [.slice none 0 0]) (by intro u hu; rw [List.mem_singleton] at hu; subst hu; rfl) hby ?_; intro v' w2 H2 hgr; obtain ⟨ao2, cc2, rfl⟩ := H2.form; have HN := hid (HQ1.out.grown H2 hgr); have y1 : w2.cell? ⟨g, 0, none⟩ = some (.slice ao LL.length cc) := (RB.cell0 HQ1.out H2 hgr); have y2 : w2.frozen? ⟨g, 0, none⟩ = false := (RB.free0 HQ1.out H2 hgr); clear H2 hgr))
      exact ⟨⟨j + 1, _, by omega, by go_num, by rw [← HR.out]; exact (by simpa using HN.out : RB w (w2.setCell ⟨g, 0, none⟩ (.slice ao2 (LL.length + 1) cc2)) g (.slice ao2 (LL.length + 1) cc2) (LL ++ [.slice none 0 0]) (s : Int) 0)⟩, by simp [intOf]; omega⟩
    · obtain rfl : j = s + n := by omega
      have c1 : ¬ ((s + n : Nat) : Int) < (s : Int) + (n : Int) := by omega
      have HD : Hid (∃ r : Rf, r.g = g ∧ NewR w wr r (MS.new s n)) := hid (by
        have e : (MS.new s n).P.length = s + n := by simp [MS.new]
        refine RB.done (m := MS.new s n) HQ.out (by rw [List.length_replicate, e]) (by rw [e]; exact HP.out) (by rw [e]; exact Nat.le_add_right _ _) (by rw [e]; exact HM.out) (fun k hk => ?_) (fun k hk b hb => ?_) (fun j k hj hk _ b hb => ?_)
        · rw [e] at hk
          have e1 : (List.replicate (s + n) nilV).getD k nilV = .slice none 0 0 := by simp [List.getD_eq_getElem?_getD, hk]; rfl
          have e2 : (MS.new s n).p k = zs := rep_p k (s + n) hk
          rw [e1, e2]; exact pg_nil _
        · rw [e] at hk
          have e1 : (List.replicate (s + n) nilV).getD k nilV = .slice none 0 0 := by simp [List.getD_eq_getElem?_getD, hk]; rfl
          rw [e1] at hb; cases hb
        · rw [e] at hj
          have e1 : (List.replicate (s + n) nilV).getD j nilV = .slice none 0 0 := by simp [List.getD_eq_getElem?_getD, hj]; rfl
          rw [e1] at hb; cases hb)
      go_wp2_with fail
      go_ret2
      obtain ⟨r, rfl, hr⟩ := HD.out
      exact ⟨r, rfl, hr⟩
end Go.Proofs.YtdfnbcbnmiohnaaGreatDoor
namespace Go.Proofs.YtdfnbcbnmiohnaaGreatDoor
open Go.RowKit
theorem Hl.pg {W w : World} {v : Value} {L : List Int} (h : Hl W w v L) (hL : L.length = 1024) : PgIs w v L ∧ (∀ b, blkOf v = some b → W.heap.size ≤ b) := by
  rcases h.own.2 with ⟨hv, h0⟩ | ⟨g, cap, cur, hv, hB, hg, hle, r⟩
  · omega
  · rw [hL] at hv
    refine ⟨⟨hL, .inr ⟨g, cap, cur, hv, hg, ?_⟩⟩, fun b hb => by rw [hv] at hb; simp only [blkOf, Option.some.injEq] at hb; rw [← hb]; exact hB⟩
    apply List.ext_getElem?
    intro j
    by_cases hj : j < 1024
    · have hjl : j < (u32s L).length := by rw [u32s_len, hL]; exact hj
      have hc := h.own.cells (g := g) (by rw [hv]; rfl) j _ (List.getElem?_eq_getElem hjl)
      rw [Addr.add_mid, Nat.zero_add, cell_of_row w g j _ 43 (0, 0) hg] at hc
      rw [List.getElem?_take_of_lt hj, List.getElem?_eq_getElem hjl]
      simpa using hc
    · rw [List.getElem?_take_eq_none (by omega), List.getElem?_eq_none (by rw [u32s_len, hL]; omega)]
set_option maxRecDepth 40000 in
set_option maxHeartbeats 4000000 in
theorem PgIs.grown {W w w' : World} {v x : Value} {L : List Value} {L' : List Int} (h : PgIs w x L') (hv : Hv W w v L) (hgr : w.grownBy w' v.ownBlock) : PgIs w' x L' := by
  refine ⟨h.1, h.2.imp id ?_⟩
  rintro ⟨b, cap, cur, e1, e2, e3⟩
  refine ⟨b, cap, cur, e1, (hgr.block b (Array.getElem?_eq_some_iff.1 e2).1 (fun e => ?_)).trans e2, e3⟩
  obtain ⟨_, cur', hc⟩ := hv.blk (ownBlock_blk hv e.symm)
  rw [hc] at e2
  injection e2 with e2
  injection e2 with _ h4 _
  exact absurd h4 (by decide)
theorem PgIs.setG {w : World} {x : Value} {L' : List Int} (h : PgIs w x L') {g : Nat} {cs : List Value} {t : TypeId} (hg : Cel w g t cs) (ht : t ≠ 43) (j : Nat) (u : Value) : PgIs (w.setCell ⟨g, j, none⟩ u) x L' :=
  h.but (G := [g]) (.setCell _ _ _ _ (by simp)) (fun b hb => by rw [List.mem_singleton]; intro e; subst e; exact ht (h.ty hb hg))
/-- A clone that is being made. -/
structure CI (w wr : World) (g : Nat) (v : Value) (vs : List Value) (m : MS) (j : Nat) : Prop where
  rb : RB w wr g v vs (m.ns : Int) m.c
  len : vs.length = j
  pg : ∀ k, k < j → PgIs wr (vs.getD k nilV) (m.p k)
  bl : ∀ k, k < j → ∀ b, blkOf (vs.getD k nilV) = some b → w.heap.size ≤ b
  ap : ∀ i k, i < j → k < j → i ≠ k → ∀ b, blkOf (vs.getD i nilV) = some b → blkOf (vs.getD k nilV) ≠ some b
theorem getD_snoc (vs : List Value) (x : Value) (k : Nat) (hk : k < vs.length + 1) : (vs ++ [x]).getD k nilV = if k = vs.length then x else vs.getD k nilV := by
  by_cases e : k = vs.length
  · subst e; rw [if_pos rfl, List.getD_eq_getElem?_getD, List.getElem?_append_right (Nat.le_refl _)]; simp
  · rw [if_neg e, List.getD_eq_getElem?_getD, List.getElem?_append_left (by omega), ← List.getD_eq_getElem?_getD]
theorem CI.snoc {w wr w1 w2 : World} {g : Nat} {v v' x : Value} {vs : List Value} {m : MS} {j : Nat} (h : CI w wr g v vs m j) (hb : Below wr.heap.size wr w1) (hx : PgIs w1 x (m.p j)) (hxb : ∀ b, blkOf x = some b → wr.heap.size ≤ b) (h2 : Hv w w2 v' (vs ++ [x])) (hgr : w1.grownBy w2 v.ownBlock) :
    CI w (w2.setCell ⟨g, 0, none⟩ v') g v' (vs ++ [x]) m (j + 1) := by
  have hrb := h.rb.on hb
  have hlen := h.len
  have key : ∀ (y : Value) (L : List Int), PgIs w1 y L → PgIs (w2.setCell ⟨g, 0, none⟩ v') y L := fun y L hy => (hy.grown hrb.hv hgr).setG (hrb.celG hgr) (by decide) 0 v'
  refine ⟨hrb.grown h2 hgr, by simp [hlen], fun k hk => ?_, fun k hk b => ?_, fun i k hi hk hik b => ?_⟩
  · rw [getD_snoc vs x k (by omega)]
    split
    · rename_i e; rw [e, hlen]; exact key _ _ hx
    · exact key _ _ ((h.pg k (by omega)).on hb)
  · rw [getD_snoc vs x k (by omega)]
    split
    · intro hbx; have := hxb b hbx; have := h.rb.hv.below.size; omega
    · exact h.bl k (by omega) b
  · rw [getD_snoc vs x i (by omega), getD_snoc vs x k (by omega)]
    split
    · rename_i e1
      rw [if_neg (by omega)]
      intro h1 h3
      have a := hxb b h1
      have c := (h.pg k (by omega)).lt h3
      omega
    · split
      · intro h1 h3
        have a := hxb b h3
        have c := (h.pg i (by omega)).lt h1
        omega
      · exact h.ap i k (by omega) (by omega) hik b
theorem Hl.blk {W w : World} {v : Value} {L : List Int} (h : Hl W w v L) {b : Nat} (hb : blkOf v = some b) : W.heap.size ≤ b := by
  rcases h.own.2 with ⟨hv, h0⟩ | ⟨g, cap, cur, hv, hB, hg, r⟩
  · rw [hv] at hb; cases hb
  · rw [hv] at hb
    simp only [blkOf, Option.some.injEq] at hb
    subst hb
    exact hB
end Go.Proofs.YtdfnbcbnmiohnaaGreatDoor
