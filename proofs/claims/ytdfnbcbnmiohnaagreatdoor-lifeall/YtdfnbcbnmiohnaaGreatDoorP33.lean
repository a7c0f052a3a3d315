import Derived.Test.YtdfnbcbnmiohnaaGreatDoorP32
import Derived.Test.YtdfnbcbnmiohnaaGreatDoorP25
import Derived.Test.YtdfnbcbnmiohnaaGreatDoorP01
import Derived.RangeFuncNested
import Derived.RangeFuncLeaves
import Derived.RangeFuncBound
import Derived.RangeFuncCalls
import Derived.Shelf.Abstract
import Derived.Shelf.RegionOpen
import Derived.OwnWalkIn
import Derived.TacticsInMore
import Derived.LoopNIn
import Derived.LoopIn
import Derived.Test.YtdfnbcbnmiohnaaGreatDoorP28
namespace Go.Proofs.YtdfnbcbnmiohnaaGreatDoor
open Go.RowKit
theorem under66 : Tryz.prog.underlying 184 = some (.slice 51) := by kernel_rfl
theorem info24 : (Tryz.prog.info? 51).map (fun i => (i.zero, i.size, i.bytes)) = some (some (.slice none 0 0), 1, 24) := by kernel_rfl
structure Hv (W wr : World) (v : Value) (vs : List Value) : Prop where
  own : wr.ownsRow W.heap.size 51 1 v vs.length vs
  below : Below W.heap.size W wr
theorem Hv.start (W : World) : Hv W W (.slice none 0 0) [] := ⟨World.ownsRow_nil _ _ _ _, Below.refl _ _⟩
theorem Hv.on {W w w' : World} {v : Value} {L : List Value} (h : Hv W w v L) (hb : Below w.heap.size w w') : Hv W w' v L :=
  ⟨⟨h.own.1, h.own.2.imp id fun ⟨g, cap, cur, hv, hB, hg, r⟩ => ⟨g, cap, cur, hv, hB, (hb.block g (Array.getElem?_eq_some_iff.1 hg).1).trans hg, r⟩⟩, below_on h.below hb⟩
theorem Hv.but {W w w' : World} {G : List Nat} {v : Value} {L : List Value} (h : Hv W w v L) (hb : ButL G w w') (hG : ∀ k ∈ G, W.heap.size ≤ k) (hn : ∀ b, blkOf v = some b → b ∉ G) : Hv W w' v L :=
  ⟨⟨h.own.1, h.own.2.imp id fun ⟨g, cap, cur, hv, hB, hg, r⟩ => ⟨g, cap, cur, hv, hB, (hb.block g (Array.getElem?_eq_some_iff.1 hg).1 (hn g (by rw [hv]; rfl))).trans hg, r⟩⟩, h.below.trans (hb.below hG h.below.size)⟩
theorem Hv.form {W w : World} {v : Value} {L : List Value} (h : Hv W w v L) : ∃ ao c, v = .slice ao L.length c := by
  rcases h.own.2 with ⟨hv, h0⟩ | ⟨g, cap, cur, hv, r⟩
  · exact ⟨none, 0, by rw [hv, h0]⟩
  · exact ⟨_, cap, hv⟩
theorem Hv.blk {W w : World} {v : Value} {L : List Value} (h : Hv W w v L) {b : Nat} (hb : blkOf v = some b) : W.heap.size ≤ b ∧ ∃ cur, w.heap[b]? = some (.cells cur 51 (0, 0)) := by
  rcases h.own.2 with ⟨hv, h0⟩ | ⟨g, cap, cur, hv, hB, hg, r⟩
  · rw [hv] at hb; cases hb
  · rw [hv] at hb
    simp only [blkOf, Option.some.injEq] at hb
    subst hb
    exact ⟨hB, cur, hg⟩
theorem Hv.cells {W w : World} {v : Value} {L : List Value} (h : Hv W w v L) (hp : 0 < L.length) : ∃ g cap cur, v = .slice (some ⟨g, 0, none⟩) L.length cap ∧ W.heap.size ≤ g ∧ w.heap[g]? = some (.cells cur 51 (0, 0)) ∧ cur.toList.take L.length = L := by
  rcases h.own.2 with ⟨hv, h0⟩ | ⟨g, cap, cur, hv, hB, hg, hle, r⟩
  · omega
  · refine ⟨g, cap, cur, hv, hB, hg, ?_⟩
    apply List.ext_getElem?
    intro j
    by_cases hj : j < L.length
    · have hc := h.own.cells (g := g) (by rw [hv]; rfl) j _ (List.getElem?_eq_getElem hj)
      rw [Addr.add_mid, Nat.zero_add, cell_of_row w g j _ 51 (0, 0) hg] at hc
      rw [List.getElem?_take_of_lt hj, List.getElem?_eq_getElem hj]
      simpa using hc
    · rw [List.getElem?_take_eq_none (by omega), List.getElem?_eq_none (by omega)]
theorem grown_but {w w' : World} {v : Value} (h : w.grownBy w' v.ownBlock) {G : List Nat} (hG : ∀ b, v.ownBlock = some b → b ∈ G) : ButL G w w' :=
  ⟨h.os, h.tape, h.output, h.size, fun k hk hn => h.block k hk (fun e => hn (hG k e.symm))⟩
theorem wpList_append_v {W w : World} {ops : Array Oper} {rest : List Oper} {o : Oper} {a : Act} {Q : Exit → Act → World → Prop} (hgd : o.guard = none) (s x : Operand)
    (ho : o.op = .call { callee := .builtin .append, args := #[s, x], argTypes := #[184, 184] }) (v : Value) (L : List Value) (hs : a.eval s = v) (H : Hv W w v L) (ad : Addr) (m c : Nat) (xs : List Value) (hx : a.eval x = .slice (some ad) m c) (hl : xs.length = m)
    (hsrc : ∀ j u, xs[j]? = some u → w.cell? (ad.add j) = some u) (hone : ∀ u ∈ xs, u.oneCell' = true) (hbytes : (L.length + m) * 24 ≤ 140737488355328)
    (h : ∀ v' w', Hv W w' v' (L ++ xs) → w.grownBy w' v.ownBlock → wpList Tryz.prog ops Q rest (a.put o.dst v') w') : wpList Tryz.prog ops Q (o :: rest) a w := by
  obtain ⟨i, hi, hz, hsize, hby⟩ := info_parts info24
  obtain ⟨v', w', hr, h1, h2, _⟩ := run_append_own (P := Tryz.prog) w W.heap.size 184 o.type 51 i (.slice none 0 0) 1 24 under66 hi hz hsize hby rfl (by decide) v L.length _ H.own ad m c xs (by rw [hl, Nat.mul_one]) hsrc hone (by unfold maxLen; omega) hbytes H.below.size
  have hH : Hv W w' v' (L ++ xs) := ⟨by rw [List.length_append, hl]; exact h1, H.below.grown h2 H.below.size (fun g hg => (H.own.lt g hg).1)⟩
  refine wpList_plain hgd fun K hK => ?_
  unfold Oper.wp execOp
  simp only [ho, resolve, invoke, builtin, Sem.run_bind, Sem.run_pure, Result.andThen_ok, List.map_toArray, List.map_cons, List.map_nil, hs, hx, hr]
  exact hK _ _ (h _ _ hH h2)
theorem new_srcv (w : World) (xs : List Value) : ∀ j u, xs[j]? = some u → (w.alloc (.cells xs.toArray 51)).cell? ((⟨w.heap.size, 0, none⟩ : Addr).add j) = some u := (Cel.new w 51 xs).src
structure RB (W wr : World) (g : Nat) (v : Value) (vs : List Value) (s c : Int) : Prop where
  hv : Hv W wr v vs
  cel : Cel wr g 186 [v, .int .i64 s, .int .i64 c]
  hg : W.heap.size ≤ g
theorem RB.on {W w w' : World} {g : Nat} {v : Value} {vs : List Value} {s c : Int} (h : RB W w g v vs s c) (hb : Below w.heap.size w w') : RB W w' g v vs s c := ⟨h.hv.on hb, h.cel.on hb, h.hg⟩
theorem ownBlock_blk {v : Value} {b : Nat} {W w : World} {L : List Value} (h : Hv W w v L) (hb : v.ownBlock = some b) : blkOf v = some b := by
  rcases h.own.2 with ⟨hv, h0⟩ | ⟨g, cap, cur, hv, r⟩
  · rw [hv] at hb; cases hb
  · rw [hv] at hb ⊢; exact hb
theorem RB.grown {W w w' : World} {g : Nat} {v v' : Value} {vs vs' : List Value} {s c : Int} (h : RB W w g v vs s c) (h2 : Hv W w' v' vs') (hgr : w.grownBy w' v.ownBlock) : RB W (w'.setCell ⟨g, 0, none⟩ v') g v' vs' s c := by
  have hne : ∀ b, v.ownBlock = some b → b ≠ g := fun b hb e => by
    subst e
    obtain ⟨_, cur, hc⟩ := h.hv.blk (ownBlock_blk h.hv hb)
    have h3 := h.cel
    unfold Cel at h3
    rw [hc] at h3
    injection h3 with h3
    injection h3 with _ h4 _
    exact absurd h4 (by decide)
  have hc : Cel w' g 186 [v, .int .i64 s, .int .i64 c] := (hgr.block g h.cel.lt (fun e => hne g e.symm rfl)).trans h.cel
  refine ⟨h2.but (G := [g]) (.setCell _ _ _ _ (by simp)) (fun k hk => by rw [List.mem_singleton] at hk; subst hk; exact h.hg) (fun b hb => ?_), hc.setCell 0 v', h.hg⟩
  rw [List.mem_singleton]
  intro e
  subst e
  obtain ⟨_, cur, hcc⟩ := h2.blk hb
  unfold Cel at hc
  rw [hcc] at hc
  injection hc with hc
  injection hc with _ h4 _
  exact absurd h4 (by decide)
theorem RB.celG {W w w' : World} {g : Nat} {v : Value} {vs : List Value} {s c : Int} (h : RB W w g v vs s c) (hgr : w.grownBy w' v.ownBlock) : Cel w' g 186 [v, .int .i64 s, .int .i64 c] := by
  refine (hgr.block g h.cel.lt (fun e => ?_)).trans h.cel
  obtain ⟨_, cur, hc⟩ := h.hv.blk (ownBlock_blk h.hv e.symm)
  have h3 := h.cel
  unfold Cel at h3
  rw [hc] at h3
  injection h3 with h3
  injection h3 with _ h4 _
  exact absurd h4 (by decide)
theorem RB.cell0 {W w w' : World} {g : Nat} {v v' : Value} {vs vs' : List Value} {s c : Int} (h : RB W w g v vs s c) (_ : Hv W w' v' vs') (hgr : w.grownBy w' v.ownBlock) : w'.cell? ⟨g, 0, none⟩ = some v := (h.celG hgr).cell 0
theorem RB.free0 {W w w' : World} {g : Nat} {v v' : Value} {vs vs' : List Value} {s c : Int} (h : RB W w g v vs s c) (_ : Hv W w' v' vs') (hgr : w.grownBy w' v.ownBlock) : w'.frozen? ⟨g, 0, none⟩ = false := (h.celG hgr).free 0
theorem RB.c0 {W w : World} {g : Nat} {v : Value} {vs : List Value} {s c : Int} (h : RB W w g v vs s c) : w.cell? ⟨g, 0, none⟩ = some v := h.cel.cell 0
structure NewR (w w' : World) (r : Rf) (m : MS) : Prop where
  mem : RMem w' r m
  below : Below w.heap.size w w'
  new : ∀ k ∈ r.all, w.heap.size ≤ k
theorem RB.done {W w : World} {g : Nat} {v : Value} {vs : List Value} {m : MS} (h : RB W w g v vs (m.ns : Int) m.c) (hlen : vs.length = m.P.length) (h0 : 0 < m.P.length) (ns0 : m.ns ≤ m.P.length) (most : m.P.length ≤ 128)
    (hpg : ∀ k, k < m.P.length → PgIs w (vs.getD k nilV) (m.p k)) (hbl : ∀ k, k < m.P.length → ∀ b, blkOf (vs.getD k nilV) = some b → W.heap.size ≤ b) (hap : ∀ j k, j < m.P.length → k < m.P.length → j ≠ k → ∀ b, blkOf (vs.getD j nilV) = some b → blkOf (vs.getD k nilV) ≠ some b) :
    ∃ r : Rf, r.g = g ∧ NewR W w r m := by
  obtain ⟨gp, cap, cur, e1, e2, e3, e4⟩ := h.hv.cells (by omega)
  have hc := h.cel
  rw [e1, hlen] at hc
  refine ⟨⟨g, gp, cap, vs⟩, rfl, ⟨hc, ⟨cur, e3, by rw [← hlen]; exact e4⟩, hlen, ns0, most, hpg, hap⟩, h.hv.below, fun b hb => ?_⟩
  rcases Rf.all_mem hb with rfl | rfl | ⟨k, hk, hbk⟩
  · exact h.hg
  · exact e2
  · exact hbl k (by rw [← hlen]; exact hk) b hbk
set_option maxRecDepth 40000 in
set_option maxHeartbeats 4000000 in
theorem rnew_any (w : World) (s n : Nat) (s1 : 1 ≤ s) (s2 : s ≤ 64) (n1 : 1 ≤ n) (n2 : n ≤ 64) :
    Calls Tryz.prog 74 #[.int .i64 (s : Int), .int .i64 (n : Int)] w fun x w' => ∃ r, x = .returned (.tuple #[ptr r.g, .int .i64 0]) ∧ NewR w w' r (MS.new s n) := by
  have a1 : (1 : Int) ≤ (s : Int) := by omega
  have a2 : (s : Int) ≤ 64 := by omega
  have a3 : (1 : Int) ≤ (n : Int) := by omega
  have a4 : (n : Int) ≤ 64 := by omega
  have HM : Hid (s + n ≤ 128) := hid (by omega)
  have HP : Hid (0 < s + n) := hid (by omega)
  have HB : Hid (RB w (w.alloc (.cells #[.slice none 0 0, .int .i64 (s : Int), .int .i64 0] 186)) w.heap.size (.slice none 0 0) [] (s : Int) 0) := hid ⟨(Hv.start w).on (below_one _ _), Cel.new w 186 [.slice none 0 0, .int .i64 (s : Int), .int .i64 0], Nat.le_refl _⟩
  clear s1 s2 n1 n2
  go_enter Tryz.func74, Tryz.ntmps74
  go_wp2_with fail
  generalize w.alloc _ = X at *
  have HG : Hid (w.heap.size = w.heap.size) := hid rfl
  generalize w.heap.size = g at *
  go_loopw [7] (fun i wr => ∃ (j : Nat) (v : Value), j ≤ s + n ∧ i = .int .i64 (j : Int) ∧ Hid (RB w wr g v (List.replicate j nilV) (s : Int) 0)) (fun i _ => s + n - (intOf i).toNat)
  case atStart => exact ⟨0, _, Nat.zero_le _, rfl, HB⟩
  case round =>
    obtain ⟨j, v, hj, rfl, HQ⟩ := hrel
    clear HB
    by_cases hlt : j < s + n
    · have c1 : (j : Int) < (s : Int) + (n : Int) := by omega
      have j1 : (j : Int) ≤ 128 := by have := HM.out; omega
      obtain ⟨ao, cc, hvf⟩ := HQ.out.hv.form
      have y0 := HQ.out.c0
      have HV : Hid (v = .slice ao (List.replicate j nilV).length cc) := hid hvf
      rw [hvf] at y0
      have HQ1 := hid (HQ.out.on (below_one wr (.cells #[.slice none 0 0] 51)))
      have hby : ((List.replicate j nilV).length + 1) * 24 ≤ 140737488355328 := by rw [List.length_replicate]; have := HM.out; omega
      clear hvf
      subst v
      have HR : Hid (List.replicate j nilV ++ [.slice none 0 0] = List.replicate (j + 1) nilV) := hid (by rw [List.replicate_succ']; rfl)
      generalize hLL : List.replicate j nilV = LL at *
      clear hLL
      go_wp2_with (first | (at_builtin; refine wpList_append_v (W := w) rfl _ _ rfl (.slice ao LL.length cc) LL rfl HQ1.out.hv ⟨wr.heap.size, 0, none⟩ 1 1 [.slice none 0 0] rfl rfl (new_srcv _ [.slice none 0 0]) (by intro u hu; rw [List.mem_singleton] at hu; subst hu; rfl) hby ?_; intro v' w2 H2 hgr; obtain ⟨ao2, cc2, rfl⟩ := H2.form; have HN := hid (HQ1.out.grown H2 hgr); have y1 : w2.cell? ⟨g, 0, none⟩ = some (.slice ao LL.length cc) := (RB.cell0 HQ1.out H2 hgr); have y2 : w2.frozen? ⟨g, 0, none⟩ = false := (RB.free0 HQ1.out H2 hgr); clear H2 hgr))
      exact ⟨⟨j + 1, _, by omega, by go_num, by rw [← HR.out]; exact (by simpa using HN.out : RB w (w2.setCell ⟨g, 0, none⟩ (.slice ao2 (LL.length + 1) cc2)) g (.slice ao2 (LL.length + 1) cc2) (LL ++ [.slice none 0 0]) (s : Int) 0)⟩, by simp [intOf]; omega⟩
    · obtain rfl : j = s + n := by omega
      have c1 : ¬ ((s + n : Nat) : Int) < (s : Int) + (n : Int) := by omega
      have HD : Hid (∃ r : Rf, r.g = g ∧ NewR w wr r (MS.new s n)) := hid (by
        have e : (MS.new s n).P.length = s + n := by simp [MS.new]
        refine RB.done (m := MS.new s n) HQ.out (by rw [List.length_replicate, e]) (by rw [e]; exact HP.out) (by rw [e]; exact Nat.le_add_right _ _) (by rw [e]; exact HM.out) (fun k hk => ?_) (fun k hk b hb => ?_) (fun j k hj hk _ b hb => ?_)
        · rw [e] at hk
          have e1 : (List.replicate (s + n) nilV).getD k nilV = .slice none 0 0 := by simp [List.getD_eq_getElem?_getD, hk]; rfl
          have e2 : (MS.new s n).p k = zs := rep_p k (s + n) hk
          rw [e1, e2]; exact pg_nil _
        · rw [e] at hk
          have e1 : (List.replicate (s + n) nilV).getD k nilV = .slice none 0 0 := by simp [List.getD_eq_getElem?_getD, hk]; rfl
          rw [e1] at hb; cases hb
        · rw [e] at hj
          have e1 : (List.replicate (s + n) nilV).getD j nilV = .slice none 0 0 := by simp [List.getD_eq_getElem?_getD, hj]; rfl
          rw [e1] at hb; cases hb)
      go_wp2_with fail
      go_ret2
      obtain ⟨r, rfl, hr⟩ := HD.out
      exact ⟨r, rfl, hr⟩
theorem Hl.pg {W w : World} {v : Value} {L : List Int} (h : Hl W w v L) (hL : L.length = 1024) : PgIs w v L ∧ (∀ b, blkOf v = some b → W.heap.size ≤ b) := by
  rcases h.own.2 with ⟨hv, h0⟩ | ⟨g, cap, cur, hv, hB, hg, hle, r⟩
  · omega
  · rw [hL] at hv
    refine ⟨⟨hL, .inr ⟨g, cap, cur, hv, hg, ?_⟩⟩, fun b hb => by rw [hv] at hb; simp only [blkOf, Option.some.injEq] at hb; rw [← hb]; exact hB⟩
    apply List.ext_getElem?
    intro j
    by_cases hj : j < 1024
    · have hjl : j < (u32s L).length := by rw [u32s_len, hL]; exact hj
      have hc := h.own.cells (g := g) (by rw [hv]; rfl) j _ (List.getElem?_eq_getElem hjl)
      rw [Addr.add_mid, Nat.zero_add, cell_of_row w g j _ 43 (0, 0) hg] at hc
      rw [List.getElem?_take_of_lt hj, List.getElem?_eq_getElem hjl]
      simpa using hc
    · rw [List.getElem?_take_eq_none (by omega), List.getElem?_eq_none (by rw [u32s_len, hL]; omega)]
set_option maxRecDepth 40000 in
set_option maxHeartbeats 4000000 in
theorem PgIs.grown {W w w' : World} {v x : Value} {L : List Value} {L' : List Int} (h : PgIs w x L') (hv : Hv W w v L) (hgr : w.grownBy w' v.ownBlock) : PgIs w' x L' := by
  refine ⟨h.1, h.2.imp id ?_⟩
  rintro ⟨b, cap, cur, e1, e2, e3⟩
  refine ⟨b, cap, cur, e1, (hgr.block b (Array.getElem?_eq_some_iff.1 e2).1 (fun e => ?_)).trans e2, e3⟩
  obtain ⟨_, cur', hc⟩ := hv.blk (ownBlock_blk hv e.symm)
  rw [hc] at e2
  injection e2 with e2
  injection e2 with _ h4 _
  exact absurd h4 (by decide)
theorem PgIs.setG {w : World} {x : Value} {L' : List Int} (h : PgIs w x L') {g : Nat} {cs : List Value} {t : TypeId} (hg : Cel w g t cs) (ht : t ≠ 43) (j : Nat) (u : Value) : PgIs (w.setCell ⟨g, j, none⟩ u) x L' :=
  h.but (G := [g]) (.setCell _ _ _ _ (by simp)) (fun b hb => by rw [List.mem_singleton]; intro e; subst e; exact ht (h.ty hb hg))
structure CI (w wr : World) (g : Nat) (v : Value) (vs : List Value) (m : MS) (j : Nat) : Prop where
  rb : RB w wr g v vs (m.ns : Int) m.c
  len : vs.length = j
  pg : ∀ k, k < j → PgIs wr (vs.getD k nilV) (m.p k)
  bl : ∀ k, k < j → ∀ b, blkOf (vs.getD k nilV) = some b → w.heap.size ≤ b
  ap : ∀ i k, i < j → k < j → i ≠ k → ∀ b, blkOf (vs.getD i nilV) = some b → blkOf (vs.getD k nilV) ≠ some b
theorem getD_snoc (vs : List Value) (x : Value) (k : Nat) (hk : k < vs.length + 1) : (vs ++ [x]).getD k nilV = if k = vs.length then x else vs.getD k nilV := by
  by_cases e : k = vs.length
  · subst e; rw [if_pos rfl, List.getD_eq_getElem?_getD, List.getElem?_append_right (Nat.le_refl _)]; simp
  · rw [if_neg e, List.getD_eq_getElem?_getD, List.getElem?_append_left (by omega), ← List.getD_eq_getElem?_getD]
theorem CI.snoc {w wr w1 w2 : World} {g : Nat} {v v' x : Value} {vs : List Value} {m : MS} {j : Nat} (h : CI w wr g v vs m j) (hb : Below wr.heap.size wr w1) (hx : PgIs w1 x (m.p j)) (hxb : ∀ b, blkOf x = some b → wr.heap.size ≤ b) (h2 : Hv w w2 v' (vs ++ [x])) (hgr : w1.grownBy w2 v.ownBlock) :
    CI w (w2.setCell ⟨g, 0, none⟩ v') g v' (vs ++ [x]) m (j + 1) := by
  have hrb := h.rb.on hb
  have hlen := h.len
  have key : ∀ (y : Value) (L : List Int), PgIs w1 y L → PgIs (w2.setCell ⟨g, 0, none⟩ v') y L := fun y L hy => (hy.grown hrb.hv hgr).setG (hrb.celG hgr) (by decide) 0 v'
  refine ⟨hrb.grown h2 hgr, by simp [hlen], fun k hk => ?_, fun k hk b => ?_, fun i k hi hk hik b => ?_⟩
  · rw [getD_snoc vs x k (by omega)]
    split
    · rename_i e; rw [e, hlen]; exact key _ _ hx
    · exact key _ _ ((h.pg k (by omega)).on hb)
  · rw [getD_snoc vs x k (by omega)]
    split
    · intro hbx; have := hxb b hbx; have := h.rb.hv.below.size; omega
    · exact h.bl k (by omega) b
  · rw [getD_snoc vs x i (by omega), getD_snoc vs x k (by omega)]
    split
    · rename_i e1
      rw [if_neg (by omega)]
      intro h1 h3
      have a := hxb b h1
      have c := (h.pg k (by omega)).lt h3
      omega
    · split
      · intro h1 h3
        have a := hxb b h3
        have c := (h.pg i (by omega)).lt h1
        omega
      · exact h.ap i k (by omega) (by omega) hik b
theorem Hl.blk {W w : World} {v : Value} {L : List Int} (h : Hl W w v L) {b : Nat} (hb : blkOf v = some b) : W.heap.size ≤ b := by
  rcases h.own.2 with ⟨hv, h0⟩ | ⟨g, cap, cur, hv, hB, hg, r⟩
  · rw [hv] at hb; cases hb
  · rw [hv] at hb
    simp only [blkOf, Option.some.injEq] at hb
    subst hb
    exact hB
set_option maxHeartbeats 8000000
set_option maxRecDepth 100000
theorem chk_nok {x : En} (h : ¬ x.Ok) : chk x = 110 := by
  unfold chk
  rw [if_neg (fun hk => h (x.ok_iff.1 hk))]
theorem chk_ok {x : En} (h : x.Ok) : chk x = 0 := chk_yes (x.ok_iff.2 h)
theorem rcheck_any (W : World) (x : En) : Calls Tryz.prog 149 #[x.v] W fun e W' => e = .returned (.int .i64 (chk x)) ∧ Below W.heap.size W W' := by
  have HC := hid (Cel.new W 144 x.cs)
  have HB := hid (below_one W (.cells x.cs.toArray 144))
  obtain ⟨t, o, r, s, e⟩ := x
  simp only [En.v, En.cs] at *
  by_cases n1 : t < 0
  · have HK : Hid (chk ⟨t, o, r, s, e⟩ = 110) := hid (chk_nok (by rintro ⟨t0, t1, o0, o1, r0, r1, s0, s1, z, sp, ns, en⟩; simp at * <;> omega))
    go_enter Tryz.func149, Tryz.ntmps149
    go_upto_region 1 with fail
    generalize hX : World.alloc _ _ = X at *
    clear hX
    generalize W.heap.size = g1 at HC ⊢
    have c0 := HC.out.cell 0
    have c1 := HC.out.cell 1
    have c2 := HC.out.cell 2
    have c3 := HC.out.cell 3
    have c4 := HC.out.cell 4
    simp only [tqG, tqH] at c0 c1 c2 c3 c4
    go_wp2_with fail
    go_ret
    exact ⟨by rw [HK.out]; rfl, HB.out⟩
  by_cases n2 : 6 < t
  · have HK : Hid (chk ⟨t, o, r, s, e⟩ = 110) := hid (chk_nok (by rintro ⟨t0, t1, o0, o1, r0, r1, s0, s1, z, sp, ns, en⟩; simp at * <;> omega))
    go_enter Tryz.func149, Tryz.ntmps149
    go_upto_region 1 with fail
    generalize hX : World.alloc _ _ = X at *
    clear hX
    generalize W.heap.size = g1 at HC ⊢
    have c0 := HC.out.cell 0
    have c1 := HC.out.cell 1
    have c2 := HC.out.cell 2
    have c3 := HC.out.cell 3
    have c4 := HC.out.cell 4
    simp only [tqG, tqH] at c0 c1 c2 c3 c4
    go_wp2_with fail
    go_ret
    exact ⟨by rw [HK.out]; rfl, HB.out⟩
  by_cases n3 : o < 0
  · have HK : Hid (chk ⟨t, o, r, s, e⟩ = 110) := hid (chk_nok (by rintro ⟨t0, t1, o0, o1, r0, r1, s0, s1, z, sp, ns, en⟩; simp at * <;> omega))
    go_enter Tryz.func149, Tryz.ntmps149
    go_upto_region 1 with fail
    generalize hX : World.alloc _ _ = X at *
    clear hX
    generalize W.heap.size = g1 at HC ⊢
    have c0 := HC.out.cell 0
    have c1 := HC.out.cell 1
    have c2 := HC.out.cell 2
    have c3 := HC.out.cell 3
    have c4 := HC.out.cell 4
    simp only [tqG, tqH] at c0 c1 c2 c3 c4
    go_wp2_with fail
    go_ret
    exact ⟨by rw [HK.out]; rfl, HB.out⟩
  by_cases n4 : 63 < o
  · have HK : Hid (chk ⟨t, o, r, s, e⟩ = 110) := hid (chk_nok (by rintro ⟨t0, t1, o0, o1, r0, r1, s0, s1, z, sp, ns, en⟩; simp at * <;> omega))
    go_enter Tryz.func149, Tryz.ntmps149
    go_upto_region 1 with fail
    generalize hX : World.alloc _ _ = X at *
    clear hX
    generalize W.heap.size = g1 at HC ⊢
    have c0 := HC.out.cell 0
    have c1 := HC.out.cell 1
    have c2 := HC.out.cell 2
    have c3 := HC.out.cell 3
    have c4 := HC.out.cell 4
    simp only [tqG, tqH] at c0 c1 c2 c3 c4
    go_wp2_with fail
    go_ret
    exact ⟨by rw [HK.out]; rfl, HB.out⟩
  by_cases n5 : r < 0
  · have HK : Hid (chk ⟨t, o, r, s, e⟩ = 110) := hid (chk_nok (by rintro ⟨t0, t1, o0, o1, r0, r1, s0, s1, z, sp, ns, en⟩; simp at * <;> omega))
    go_enter Tryz.func149, Tryz.ntmps149
    go_upto_region 1 with fail
    generalize hX : World.alloc _ _ = X at *
    clear hX
    generalize W.heap.size = g1 at HC ⊢
    have c0 := HC.out.cell 0
    have c1 := HC.out.cell 1
    have c2 := HC.out.cell 2
    have c3 := HC.out.cell 3
    have c4 := HC.out.cell 4
    simp only [tqG, tqH] at c0 c1 c2 c3 c4
    go_wp2_with fail
    go_ret
    exact ⟨by rw [HK.out]; rfl, HB.out⟩
  by_cases n6 : 63 < r
  · have HK : Hid (chk ⟨t, o, r, s, e⟩ = 110) := hid (chk_nok (by rintro ⟨t0, t1, o0, o1, r0, r1, s0, s1, z, sp, ns, en⟩; simp at * <;> omega))
    go_enter Tryz.func149, Tryz.ntmps149
    go_upto_region 1 with fail
    generalize hX : World.alloc _ _ = X at *
    clear hX
    generalize W.heap.size = g1 at HC ⊢
    have c0 := HC.out.cell 0
    have c1 := HC.out.cell 1
    have c2 := HC.out.cell 2
    have c3 := HC.out.cell 3
    have c4 := HC.out.cell 4
    simp only [tqG, tqH] at c0 c1 c2 c3 c4
    go_wp2_with fail
    go_ret
    exact ⟨by rw [HK.out]; rfl, HB.out⟩
  by_cases k0 : t = 0
  · subst k0
    by_cases j1 : o = 0
    · subst j1
      by_cases j2 : r = 0
      · subst j2
        by_cases j3 : s = 0
        · subst j3
          rcases e with _ | _
          · have HK : Hid (chk ⟨0, 0, 0, 0, false⟩ = 0) := hid (chk_ok ⟨by simp <;> omega, by simp <;> omega, by simp <;> omega, by simp <;> omega, by simp <;> omega, by simp <;> omega, by simp <;> omega, by simp <;> omega, by simp <;> omega, by simp <;> omega, by simp <;> omega, by simp <;> omega⟩)
            go_enter Tryz.func149, Tryz.ntmps149
            go_upto_region 1 with fail
            generalize hX : World.alloc _ _ = X at *
            clear hX
            generalize W.heap.size = g1 at HC ⊢
            have c0 := HC.out.cell 0
            have c1 := HC.out.cell 1
            have c2 := HC.out.cell 2
            have c3 := HC.out.cell 3
            have c4 := HC.out.cell 4
            simp only [tqG, tqH] at c0 c1 c2 c3 c4
            go_wp2_with fail
            go_ret
            exact ⟨by rw [HK.out]; rfl, HB.out⟩
          · have HK : Hid (chk ⟨0, 0, 0, 0, true⟩ = 110) := hid (chk_nok (by rintro ⟨t0, t1, o0, o1, r0, r1, s0, s1, z, sp, ns, en⟩; simp at * <;> omega))
            go_enter Tryz.func149, Tryz.ntmps149
            go_upto_region 1 with fail
            generalize hX : World.alloc _ _ = X at *
            clear hX
            generalize W.heap.size = g1 at HC ⊢
            have c0 := HC.out.cell 0
            have c1 := HC.out.cell 1
            have c2 := HC.out.cell 2
            have c3 := HC.out.cell 3
            have c4 := HC.out.cell 4
            simp only [tqG, tqH] at c0 c1 c2 c3 c4
            go_wp2_with fail
            go_ret
            exact ⟨by rw [HK.out]; rfl, HB.out⟩
        · have j3' : (s == 0) = false := by simpa using j3
          have HK : Hid (chk ⟨0, 0, 0, s, e⟩ = 110) := hid (chk_nok (by rintro ⟨t0, t1, o0, o1, r0, r1, s0, s1, z, sp, ns, en⟩; simp at * <;> omega))
          go_enter Tryz.func149, Tryz.ntmps149
          go_upto_region 1 with fail
          generalize hX : World.alloc _ _ = X at *
          clear hX
          generalize W.heap.size = g1 at HC ⊢
          have c0 := HC.out.cell 0
          have c1 := HC.out.cell 1
          have c2 := HC.out.cell 2
          have c3 := HC.out.cell 3
          have c4 := HC.out.cell 4
          simp only [tqG, tqH] at c0 c1 c2 c3 c4
          go_wp2_with fail
          go_ret
          exact ⟨by rw [HK.out]; rfl, HB.out⟩
      · have j2' : (r == 0) = false := by simpa using j2
        have HK : Hid (chk ⟨0, 0, r, s, e⟩ = 110) := hid (chk_nok (by rintro ⟨t0, t1, o0, o1, r0, r1, s0, s1, z, sp, ns, en⟩; simp at * <;> omega))
        go_enter Tryz.func149, Tryz.ntmps149
        go_upto_region 1 with fail
        generalize hX : World.alloc _ _ = X at *
        clear hX
        generalize W.heap.size = g1 at HC ⊢
        have c0 := HC.out.cell 0
        have c1 := HC.out.cell 1
        have c2 := HC.out.cell 2
        have c3 := HC.out.cell 3
        have c4 := HC.out.cell 4
        simp only [tqG, tqH] at c0 c1 c2 c3 c4
        go_wp2_with fail
        go_ret
        exact ⟨by rw [HK.out]; rfl, HB.out⟩
    · have j1' : (o == 0) = false := by simpa using j1
      have HK : Hid (chk ⟨0, o, r, s, e⟩ = 110) := hid (chk_nok (by rintro ⟨t0, t1, o0, o1, r0, r1, s0, s1, z, sp, ns, en⟩; simp at * <;> omega))
      go_enter Tryz.func149, Tryz.ntmps149
      go_upto_region 1 with fail
      generalize hX : World.alloc _ _ = X at *
      clear hX
      generalize W.heap.size = g1 at HC ⊢
      have c0 := HC.out.cell 0
      have c1 := HC.out.cell 1
      have c2 := HC.out.cell 2
      have c3 := HC.out.cell 3
      have c4 := HC.out.cell 4
      simp only [tqG, tqH] at c0 c1 c2 c3 c4
      go_wp2_with fail
      go_ret
      exact ⟨by rw [HK.out]; rfl, HB.out⟩
  have k0' : (t == 0) = false := by simpa using k0
  by_cases k1 : t = 1
  · subst k1
    rcases e with _ | _
    · by_cases j1 : s < 1
      · have HK : Hid (chk ⟨1, o, r, s, false⟩ = 110) := hid (chk_nok (by rintro ⟨t0, t1, o0, o1, r0, r1, s0, s1, z, sp, ns, en⟩; simp at * <;> omega))
        go_enter Tryz.func149, Tryz.ntmps149
        go_upto_region 1 with fail
        generalize hX : World.alloc _ _ = X at *
        clear hX
        generalize W.heap.size = g1 at HC ⊢
        have c0 := HC.out.cell 0
        have c1 := HC.out.cell 1
        have c2 := HC.out.cell 2
        have c3 := HC.out.cell 3
        have c4 := HC.out.cell 4
        simp only [tqG, tqH] at c0 c1 c2 c3 c4
        go_wp2_with fail
        go_ret
        exact ⟨by rw [HK.out]; rfl, HB.out⟩
      by_cases j2 : 3 < s
      · have HK : Hid (chk ⟨1, o, r, s, false⟩ = 110) := hid (chk_nok (by rintro ⟨t0, t1, o0, o1, r0, r1, s0, s1, z, sp, ns, en⟩; simp at * <;> omega))
        go_enter Tryz.func149, Tryz.ntmps149
        go_upto_region 1 with fail
        generalize hX : World.alloc _ _ = X at *
        clear hX
        generalize W.heap.size = g1 at HC ⊢
        have c0 := HC.out.cell 0
        have c1 := HC.out.cell 1
        have c2 := HC.out.cell 2
        have c3 := HC.out.cell 3
        have c4 := HC.out.cell 4
        simp only [tqG, tqH] at c0 c1 c2 c3 c4
        go_wp2_with fail
        go_ret
        exact ⟨by rw [HK.out]; rfl, HB.out⟩
      · have HK : Hid (chk ⟨1, o, r, s, false⟩ = 0) := hid (chk_ok ⟨by simp <;> omega, by simp <;> omega, by simp <;> omega, by simp <;> omega, by simp <;> omega, by simp <;> omega, by simp <;> omega, by simp <;> omega, by simp <;> omega, by simp <;> omega, by simp <;> omega, by simp <;> omega⟩)
        go_enter Tryz.func149, Tryz.ntmps149
        go_upto_region 1 with fail
        generalize hX : World.alloc _ _ = X at *
        clear hX
        generalize W.heap.size = g1 at HC ⊢
        have c0 := HC.out.cell 0
        have c1 := HC.out.cell 1
        have c2 := HC.out.cell 2
        have c3 := HC.out.cell 3
        have c4 := HC.out.cell 4
        simp only [tqG, tqH] at c0 c1 c2 c3 c4
        go_wp2_with fail
        go_ret
        exact ⟨by rw [HK.out]; rfl, HB.out⟩
    · have HK : Hid (chk ⟨1, o, r, s, true⟩ = 110) := hid (chk_nok (by rintro ⟨t0, t1, o0, o1, r0, r1, s0, s1, z, sp, ns, en⟩; simp at * <;> omega))
      go_enter Tryz.func149, Tryz.ntmps149
      go_upto_region 1 with fail
      generalize hX : World.alloc _ _ = X at *
      clear hX
      generalize W.heap.size = g1 at HC ⊢
      have c0 := HC.out.cell 0
      have c1 := HC.out.cell 1
      have c2 := HC.out.cell 2
      have c3 := HC.out.cell 3
      have c4 := HC.out.cell 4
      simp only [tqG, tqH] at c0 c1 c2 c3 c4
      go_wp2_with fail
      go_ret
      exact ⟨by rw [HK.out]; rfl, HB.out⟩
  have k1' : (t == 1) = false := by simpa using k1
  by_cases j2 : r = 0
  · subst j2
    by_cases j3 : s = 0
    · subst j3
      by_cases k2 : t = 2
      · subst k2
        rcases e with _ | _
        · have HK : Hid (chk ⟨2, o, 0, 0, false⟩ = 0) := hid (chk_ok ⟨by simp <;> omega, by simp <;> omega, by simp <;> omega, by simp <;> omega, by simp <;> omega, by simp <;> omega, by simp <;> omega, by simp <;> omega, by simp <;> omega, by simp <;> omega, by simp <;> omega, by simp <;> omega⟩)
          go_enter Tryz.func149, Tryz.ntmps149
          go_upto_region 1 with fail
          generalize hX : World.alloc _ _ = X at *
          clear hX
          generalize W.heap.size = g1 at HC ⊢
          have c0 := HC.out.cell 0
          have c1 := HC.out.cell 1
          have c2 := HC.out.cell 2
          have c3 := HC.out.cell 3
          have c4 := HC.out.cell 4
          simp only [tqG, tqH] at c0 c1 c2 c3 c4
          go_wp2_with fail
          go_ret
          exact ⟨by rw [HK.out]; rfl, HB.out⟩
        · have HK : Hid (chk ⟨2, o, 0, 0, true⟩ = 0) := hid (chk_ok ⟨by simp <;> omega, by simp <;> omega, by simp <;> omega, by simp <;> omega, by simp <;> omega, by simp <;> omega, by simp <;> omega, by simp <;> omega, by simp <;> omega, by simp <;> omega, by simp <;> omega, by simp <;> omega⟩)
          go_enter Tryz.func149, Tryz.ntmps149
          go_upto_region 1 with fail
          generalize hX : World.alloc _ _ = X at *
          clear hX
          generalize W.heap.size = g1 at HC ⊢
          have c0 := HC.out.cell 0
          have c1 := HC.out.cell 1
          have c2 := HC.out.cell 2
          have c3 := HC.out.cell 3
          have c4 := HC.out.cell 4
          simp only [tqG, tqH] at c0 c1 c2 c3 c4
          go_wp2_with fail
          go_ret
          exact ⟨by rw [HK.out]; rfl, HB.out⟩
      · have k2' : (t == 2) = false := by simpa using k2
        rcases e with _ | _
        · have HK : Hid (chk ⟨t, o, 0, 0, false⟩ = 0) := hid (chk_ok ⟨by simp <;> omega, by simp <;> omega, by simp <;> omega, by simp <;> omega, by simp <;> omega, by simp <;> omega, by simp <;> omega, by simp <;> omega, by simp <;> omega, by simp <;> omega, by simp <;> omega, by simp <;> omega⟩)
          go_enter Tryz.func149, Tryz.ntmps149
          go_upto_region 1 with fail
          generalize hX : World.alloc _ _ = X at *
          clear hX
          generalize W.heap.size = g1 at HC ⊢
          have c0 := HC.out.cell 0
          have c1 := HC.out.cell 1
          have c2 := HC.out.cell 2
          have c3 := HC.out.cell 3
          have c4 := HC.out.cell 4
          simp only [tqG, tqH] at c0 c1 c2 c3 c4
          go_wp2_with fail
          go_ret
          exact ⟨by rw [HK.out]; rfl, HB.out⟩
        · have HK : Hid (chk ⟨t, o, 0, 0, true⟩ = 110) := hid (chk_nok (by rintro ⟨t0, t1, o0, o1, r0, r1, s0, s1, z, sp, ns, en⟩; simp at * <;> omega))
          go_enter Tryz.func149, Tryz.ntmps149
          go_upto_region 1 with fail
          generalize hX : World.alloc _ _ = X at *
          clear hX
          generalize W.heap.size = g1 at HC ⊢
          have c0 := HC.out.cell 0
          have c1 := HC.out.cell 1
          have c2 := HC.out.cell 2
          have c3 := HC.out.cell 3
          have c4 := HC.out.cell 4
          simp only [tqG, tqH] at c0 c1 c2 c3 c4
          go_wp2_with fail
          go_ret
          exact ⟨by rw [HK.out]; rfl, HB.out⟩
    · have j3' : (s == 0) = false := by simpa using j3
      have HK : Hid (chk ⟨t, o, 0, s, e⟩ = 110) := hid (chk_nok (by rintro ⟨t0, t1, o0, o1, r0, r1, s0, s1, z, sp, ns, en⟩; simp at * <;> omega))
      go_enter Tryz.func149, Tryz.ntmps149
      go_upto_region 1 with fail
      generalize hX : World.alloc _ _ = X at *
      clear hX
      generalize W.heap.size = g1 at HC ⊢
      have c0 := HC.out.cell 0
      have c1 := HC.out.cell 1
      have c2 := HC.out.cell 2
      have c3 := HC.out.cell 3
      have c4 := HC.out.cell 4
      simp only [tqG, tqH] at c0 c1 c2 c3 c4
      go_wp2_with fail
      go_ret
      exact ⟨by rw [HK.out]; rfl, HB.out⟩
  · have j2' : (r == 0) = false := by simpa using j2
    have HK : Hid (chk ⟨t, o, r, s, e⟩ = 110) := hid (chk_nok (by rintro ⟨t0, t1, o0, o1, r0, r1, s0, s1, z, sp, ns, en⟩; simp at * <;> omega))
    go_enter Tryz.func149, Tryz.ntmps149
    go_upto_region 1 with fail
    generalize hX : World.alloc _ _ = X at *
    clear hX
    generalize W.heap.size = g1 at HC ⊢
    have c0 := HC.out.cell 0
    have c1 := HC.out.cell 1
    have c2 := HC.out.cell 2
    have c3 := HC.out.cell 3
    have c4 := HC.out.cell 4
    simp only [tqG, tqH] at c0 c1 c2 c3 c4
    go_wp2_with fail
    go_ret
    exact ⟨by rw [HK.out]; rfl, HB.out⟩
set_option maxHeartbeats 8000000
set_option maxRecDepth 100000
theorem rencode_any (W : World) (x : En) : Calls Tryz.prog 133 #[x.v] W fun e W' => e = .returned (.tuple #[twoV (e0 x) (e1 x), .int .i64 (chk x)]) ∧ Below W.heap.size W W' := by
  have HX := hid (Bx.new W 144 162 x.cs (two 0 0))
  have HK := hid (fun W => rcheck_any W x)
  cases hok : x.ok
  · have hc : chk x = 110 := by simp [chk, hok]
    have h0 : e0 x = 0 := by simp [e0, hok]
    have h1 : e1 x = 0 := by simp [e1, hok]
    rw [hc] at HK
    rw [hc, h0, h1]
    clear hc h0 h1 hok
    simp only [twoV, two, En.v] at *
    go_enter Tryz.func133, Tryz.ntmps133
    go_upto_region 1 with fail
    generalize hX : (W.alloc _).alloc _ = X at *
    clear hX
    generalize W.heap.size + 1 = g2 at *
    generalize W.heap.size = g1 at *
    go_wp2_with (first | (refine wpList_load_mid rfl 144 _ rfl g1 0 rfl _ _ HX.out.a.range underR rfl (by rw [sizeR]; rfl) ?_) | (go_at_call 149; refine (HK.out _).mono ?_; rintro e w1 ⟨rfl, hb1⟩; have HX1 := hid (HX.out.on hb1); clear hb1) | (refine wpList_store_st rfl 162 _ _ rfl g2 (two 0 0) rfl rfl HX1.out.b sizeA rfl rfl ?_; intro w2 hc2 hb2 hs2; have HF := hid (HX1.out.put hc2 hb2); clear hc2 hb2 hs2))
    exact ret_st2 rfl rfl g2 _ rfl HF.out.1 underA rfl sizeA ⟨rfl, HF.out.2⟩
  · have hO := x.ok_iff.1 hok
    have hc : chk x = 0 := by simp [chk, hok]
    have h0 : e0 x = x.w := by simp [e0, hok]
    have h1 : e1 x = x.r := by simp [e1, hok]
    have q2 : x.r % 4294967296 = x.r := by have := hO.r0; have := hO.r1; omega
    have q3 : x.e = false → x.w = x.t + 16 * x.s + 65536 * x.o := fun he => by rw [En.w, he]; simp
    have q4 : x.e = true → x.w = x.t + 16 * x.s + 65536 * x.o + 256 := fun he => by rw [En.w, he]; simp
    have q5 := En.w_range hO
    have b0 := hO.t0
    have b1 := hO.t1
    have b2 := hO.o0
    have b3 := hO.o1
    have b4 := hO.s0
    have b5 := hO.s1
    rw [hc] at HK
    rw [hc, h0, h1]
    clear hc h0 h1 hok hO
    simp only [twoV, two, En.v] at HX HK ⊢
    generalize x.w = xw at *
    obtain ⟨t, o, r, s, e⟩ := x
    simp only [En.cs] at *
    go_enter Tryz.func133, Tryz.ntmps133
    go_upto_region 1 with fail
    generalize hX : (W.alloc _).alloc _ = X at *
    clear hX
    generalize W.heap.size + 1 = g2 at *
    generalize W.heap.size = g1 at *
    have HQ := hid (And.intro q3 q4)
    clear q3 q4
    go_upto_region 2 with (first | (refine wpList_load_mid rfl 144 _ rfl g1 0 rfl _ _ HX.out.a.range underR rfl (by rw [sizeR]; rfl) ?_) | (go_at_call 149; refine (HK.out _).mono ?_; rintro e1 w1 ⟨rfl, hb1⟩; have HX1 := hid (HX.out.on hb1); clear hb1))
    have c0 := HX1.out.a.cell 0
    have c1 := HX1.out.a.cell 1
    have c2 := HX1.out.a.cell 2
    have c3 := HX1.out.a.cell 3
    have c4 := HX1.out.a.cell 4
    simp only [tqG, tqH] at c0 c1 c2 c3 c4
    obtain ⟨q3, q4⟩ := HQ.out
    clear HQ
    cases e
    · have q6 := q3 rfl
      subst q6
      clear q3 q4
      go_wp2_with (refine wpList_store_st rfl 162 _ _ rfl g2 [Value.int .u32 (t + 16 * s + 65536 * o), .int .u32 r] rfl rfl HX1.out.b sizeA rfl rfl ?_; intro w2 hc2 hb2 hs2; have HF := hid (HX1.out.put hc2 hb2); clear hc2 hb2 hs2)
      exact ret_st2 rfl rfl g2 _ rfl HF.out.1 underA rfl sizeA ⟨rfl, HF.out.2⟩
    · have q6 := q4 rfl
      subst q6
      clear q3 q4
      go_wp2_with (refine wpList_store_st rfl 162 _ _ rfl g2 [Value.int .u32 (t + 16 * s + 65536 * o + 256), .int .u32 r] rfl rfl HX1.out.b sizeA rfl rfl ?_; intro w2 hc2 hb2 hs2; have HF := hid (HX1.out.put hc2 hb2); clear hc2 hb2 hs2)
      exact ret_st2 rfl rfl g2 _ rfl HF.out.1 underA rfl sizeA ⟨rfl, HF.out.2⟩
structure R4 (W x : World) (g1 g2 g4 g5 : Nat) (a b : List Value) (y : En) (c : List Value) : Prop where
  c1 : Cel x g1 162 a
  c2 : Cel x g2 144 b
  c4 : Cel x g4 144 y.cs
  c5 : Cel x g5 162 c
  below : Below W.heap.size W x
  l2 : W.heap.size ≤ g2
theorem R4.put {W x x' : World} {g1 g2 g4 g5 : Nat} {a b c es : List Value} {y : En} (k : R4 W x g1 g2 g4 g5 a b y c) (hc : Cel x' g2 144 es) (hb : ButL [g2] x x') : Cel x' g2 144 es ∧ Below W.heap.size W x' :=
  ⟨hc, k.below.trans (hb.below (B := W.heap.size) (by simpa using k.l2) k.below.size)⟩
theorem yield_of {F : Fence} {n : Nat} {P : Program} {l : Nat} {r : Loop} {args : Array Value} {W : World} {R : Ending → World → Prop} (hF : F.fn r.fn) (hl : W.heap[l]? = some (.loop r)) (hst : r.state = .ready) (hp : r.pending = none) (hs : args.size = r.params.size)
    (h : r.assign.wpIn (F.inRound l) n P (Exit.then (fun a₁ w₁ => w₁.heap[l]? = some (.loop r) ∧ r.body.wpIn (F.inRound l) n P (fun e _ w₃ => e = .normal ∧ w₃.heap[l]? = some (.loop { r with state := .busy }) ∧ R (.returned (.bool true)) (w₃.putObj l (.loop r))) a₁ (w₁.putObj l (.loop { r with state := .busy }))) (fun _ _ _ => False))
      { tmps := (r.params.zip args).foldl (fun t (p, v) => t.setIfInBounds p v) r.tmps, defers := [] } W) : YieldAt F n P l args W R := by
  have hrr : ({ ({ r with state := .busy } : Loop) with state := .ready, pending := none } : Loop) = r := by
    cases r
    simp only at hst hp
    subst hst hp
    rfl
  refine ⟨r.fn, _, r.assign, r.body, run_yield hl hs, roundIn_of_wpIn hF (wpIn_mono h ?_)⟩
  rintro e a1 w1 hq
  cases e with
  | normal =>
    obtain ⟨h1, hb⟩ := hq
    refine ⟨_, run_beginRound h1 hst, wpIn_mono hb ?_⟩
    rintro e2 a3 w3 ⟨rfl, h3, hR⟩
    have he := run_endRound (P := P) none h3
    simp only [Option.isNone_none, if_true] at he
    rw [hrr] at he
    exact ⟨_, _, he, hR⟩
  | exit id => exact hq.elim
  | goto t => exact hq.elim
  | ret => exact hq.elim
  | panic c => exact hq.elim
  | outgrown => exact hq.elim
def recOf (fn : FuncId) (tmps : Array Value) (ps : Array Tmp) (assign body : Code) (D : Nat) : Loop := { state := .ready, pending := none, fn := fn, tmps := tmps, params := ps, assign := assign, body := body, defers := D }

theorem range_out {F : Fence} {n : Nat} {P : Program} {g : Operand} {ps : Array Tmp} {assign body : Code} {Q : Exit → Act → World → Prop} {a : Act} {w : World} (hro : F.round = none) (hd : F.depth = none) {gf : Nat} {lb : Array Value} (hg : a.eval g = .func (.func gf) #[] lb) (hF : F.fn gf) (eg : ∀ args w, (callFunc gf args).run P w = .ok (.enter gf args) w)
    (h : ∀ fn, F.fn fn → CallsIn F (n - 1) P gf (#[.func (.yield (w.heap.size + 1)) #[] #[]] ++ lb) ((w.alloc (.deferred (some []))).alloc (.loop (recOf fn a.tmps ps assign body w.heap.size))) fun e W2 => (∃ v, e = .returned v) ∧ W2.heap[w.heap.size + 1]? = some (.loop (recOf fn a.tmps ps assign body w.heap.size)) ∧
      Q .normal { a with defers := { target := .collected w.heap.size, args := #[] } :: a.defers } (W2.putObj (w.heap.size + 1) (.loop { recOf fn a.tmps ps assign body w.heap.size with state := .exhausted }))) :
    (Code.rangeFunc g ps assign body).wpIn F n P Q a w := by
  refine wpIn_rangeFunc ?_
  intro fn hfn
  rw [hro]
  have hh := h fn hfn
  obtain ⟨W1, hW1⟩ : ∃ W1, (w.alloc (.deferred (some []))).alloc (.loop (recOf fn a.tmps ps assign body w.heap.size)) = W1 := ⟨_, rfl⟩
  rw [hW1] at hh
  refine ⟨w.heap.size + 1, [{ target := .collected w.heap.size, args := #[] }], W1, { target := .fn (.func gf) lb, args := #[.func (.yield (w.heap.size + 1)) #[] #[]] }, W1, gf,
    #[.func (.yield (w.heap.size + 1)) #[] #[]] ++ lb, W1, ?_, ?_, ?_, ?_, ?_, ?_⟩
  · rw [← hW1]; exact run_enterLoop_outer _ _ _ _ _
  · simp only [resolve, hg]
    simp [go_sem]
  · intro f' hf'; simp [Target.leads] at hf'; subst hf'; exact hF
  · simp [invoke, go_sem, eg]
  · intro hh; rw [hd] at hh; cases hh
  · refine CallsIn.mono hh ?_
    rintro e W2 ⟨⟨v, rfl⟩, hl, hq⟩
    exact ⟨none, _, run_endLoop hl (by simp [recOf]), hq⟩

def Ob (W : World) (k : Nat) (o : Obj) : Prop := W.heap[k]? = some o
theorem Ob.lt {W : World} {k : Nat} {o : Obj} (h : Ob W k o) : k < W.heap.size := (Array.getElem?_eq_some_iff.1 h).1
theorem Ob.on {W W' : World} {k : Nat} {o : Obj} (h : Ob W k o) (hb : Below W.heap.size W W') : Ob W' k o := (hb.block k h.lt).trans h
theorem Ob.but {W W' : World} {k : Nat} {o : Obj} {G : List Nat} (h : Ob W k o) (hb : ButL G W W') (hk : k ∉ G) : Ob W' k o := (hb.block k h.lt hk).trans h
def box (v : Value) (t : TypeId) : Obj := .cells #[v] t (0, 0)
theorem Ob.cell {W : World} {k : Nat} {v : Value} {t : TypeId} (h : Ob W k (box v t)) : W.cell? ⟨k, 0, none⟩ = some v := by
  rw [cell_of_row W k 0 _ t (0, 0) h]; rfl
theorem Ob.free {W : World} {k : Nat} {v : Value} {t : TypeId} (h : Ob W k (box v t)) : W.frozen? ⟨k, 0, none⟩ = false := frozen_of_row W k 0 _ t h
theorem putObj_but (W : World) (k : Nat) (o : Obj) : ButL [k] W (W.putObj k o) :=
  ⟨rfl, rfl, rfl, by simp [World.putObj], fun j _ hj => World.putObj_heap_other (by rw [List.mem_singleton] at hj; exact hj)⟩
theorem Ob.put {W : World} {k : Nat} {o : Obj} (h : Ob W k o) (o' : Obj) : Ob (W.putObj k o') k o' := World.putObj_heap_same h.lt
theorem Ob.ne {W : World} {j k : Nat} {o o' : Obj} (h : Ob W j o) (h' : Ob W k o') (hn : o.isCells ≠ o'.isCells) : j ≠ k := by
  rintro rfl
  unfold Ob at h h'
  rw [h] at h'
  cases h'
  exact hn rfl
theorem DB.ob {W : World} {p : Dp} {d : DS} (h : DB W p d) {k : Nat} {o : Obj} (ho : Ob W k o) (hn : o.isCells = false) : k ∉ p.all := by
  intro hk
  have hc : ∃ cs t, Cel W k t cs := by
    simp only [Dp.all, Fp.all, List.mem_cons] at hk
    rcases hk with rfl | rfl | rfl | rfl | rfl | hk
    · exact ⟨_, _, h.cel⟩
    · exact ⟨_, _, h.wds⟩
    · exact ⟨_, _, h.mem.cel⟩
    · exact ⟨_, _, h.mem.sec⟩
    · exact ⟨_, _, h.mem.ins⟩
    · obtain ⟨i, hi, rfl⟩ := List.mem_iff_getElem.1 hk
      have hi' : i < d.m.P.length := by rw [← h.mem.len]; exact hi
      have := h.mem.pg i hi'
      unfold Fp.b at this
      rw [List.getD_eq_getElem?_getD, List.getElem?_eq_getElem hi] at this
      exact ⟨_, _, this⟩
  obtain ⟨cs, t, hc⟩ := hc
  unfold Cel at hc
  rw [show W.heap[k]? = some o from ho] at hc
  cases hc
  cases hn
def busyOf (r : Loop) : Loop := { r with state := .busy }
theorem yield_b {n l : Nat} {r : Loop} {args : Array Value} {W : World} {R : Ending → World → Prop} (hl : Ob W l (.loop r)) (hst : r.state = .ready) (hp : r.pending = none) (hs : args.size = r.params.size)
    (h : r.assign.wpIn (Fence.wide.inRound l) n Tryz.prog (Exit.then (fun a₁ w₁ => Ob w₁ l (.loop r) ∧ r.body.wpIn (Fence.wide.inRound l) n Tryz.prog (fun e _ w₃ => e = .normal ∧ Ob w₃ l (.loop (busyOf r)) ∧ R (.returned (.bool true)) (w₃.putObj l (.loop r))) a₁ (w₁.putObj l (.loop (busyOf r)))) (fun _ _ _ => False))
      { tmps := (r.params.zip args).foldl (fun t (p, v) => t.setIfInBounds p v) r.tmps, defers := [] } W) : YieldAt .wide n Tryz.prog l args W R := yield_of trivial hl hst hp hs h
set_option maxHeartbeats 2000000
set_option maxRecDepth 100000
def cntN (f : Nat → Bool) : Nat → Nat
  | 0 => 0
  | k + 1 => cntN f k + (if f k = true then 1 else 0)
def lstN (f : Nat → Bool) : Nat → List Nat
  | 0 => []
  | k + 1 => lstN f k ++ (if f k = true then [k] else [])
def isF (x : En) : Bool := x.t == 0
def isO (s : Int) (k : Int) (x : En) : Bool := k != s && (x.o == s && x.t != 0)
def DS.free (d : DS) : Nat := cntN (fun k => isF (d.at k)) d.m.ns
def DS.owned (d : DS) (s : Int) : List Nat := if (d.ent s).t = 1 then lstN (fun k => isO s (k : Int) (d.at k)) d.m.ns else []
theorem isFree_any (W : World) (k : Int) (x : En) : Calls Tryz.prog 73 #[.int .i64 k, x.v] W fun e W' => e = .returned (.bool (isF x)) ∧ Below W.heap.size W W' := by
  have HC := hid (Cel.new W 30 x.cs)
  have HB := hid (below_one W (.cells x.cs.toArray 30))
  obtain ⟨t, o, r, s, e⟩ := x
  simp only [En.v, En.cs, isF] at *
  go_enter Tryz.func73, Tryz.ntmps73
  go_upto_region 1 with fail
  generalize W.alloc _ = X at *
  have c0 := HC.out.cell 0
  simp only [tqG] at c0
  go_wp2_with fail
  go_ret
  exact ⟨rfl, HB.out⟩
theorem isOf_any (W : World) (s : Int) : Calls Tryz.prog 95 #[.int .i64 s] W fun e W' => ∃ bs, e = .returned (.func (.func 136) #[] #[.pointer (some ⟨bs, 0, none⟩)]) ∧ Ob W' bs (box (.int .i64 s) 3) ∧ W.heap.size ≤ bs ∧ Below W.heap.size W W' := by
  have H : Hid (Ob (W.alloc (.cells #[.int .i64 s] 3)) W.heap.size (box (.int .i64 s) 3)) := hid (heap_alloc_new _ _)
  go_enter Tryz.func95, Tryz.ntmps95
  go_wp2_with fail
  go_ret
  exact ⟨_, rfl, H.out, Nat.le_refl _, below_one _ _⟩
theorem isOf1_any (W : World) (k : Int) (x : En) (bs : Nat) (s : Int) (hs : Ob W bs (box (.int .i64 s) 3)) : Calls Tryz.prog 136 #[.int .i64 k, x.v, .pointer (some ⟨bs, 0, none⟩)] W fun e W' => e = .returned (.bool (isO s k x)) ∧ Below W.heap.size W W' := by
  have HC := hid (Cel.new W 30 x.cs)
  have HB := hid (below_one W (.cells x.cs.toArray 30))
  have cs := (hs.on HB.out).cell
  clear hs
  obtain ⟨t, o, r, st, e⟩ := x
  simp only [En.v, En.cs, isO] at *
  generalize hR : (k != s && (o == s && t != 0)) = R
  have HR := hid hR
  clear hR
  by_cases h1 : k = s
  · subst h1
    have e1 : R = false := by rw [← HR.out]; simp
    subst e1
    clear HR
    go_enter Tryz.func136, Tryz.ntmps136
    go_upto_region 1 with fail
    generalize W.alloc _ = X at *
    go_wp2_with fail
    go_ret
    exact ⟨rfl, HB.out⟩
  · have h1' : (k != s) = true := by simpa using h1
    by_cases h2 : o = s
    · subst h2
      by_cases h3 : t = 0
      · subst h3
        have e1 : R = false := by rw [← HR.out]; simp
        subst e1
        clear HR h1
        go_enter Tryz.func136, Tryz.ntmps136
        go_upto_region 1 with fail
        generalize W.alloc _ = X at *
        have c0 := HC.out.cell 0
        have c1 := HC.out.cell 1
        simp only [tqG, tqH] at c0 c1
        go_wp2_with fail
        go_ret
        exact ⟨rfl, HB.out⟩
      · have e1 : R = true := by rw [← HR.out]; simp [h1, h3]
        have h3' : (t != 0) = true := by simpa using h3
        subst e1
        clear HR h1 h3
        go_enter Tryz.func136, Tryz.ntmps136
        go_upto_region 1 with fail
        generalize W.alloc _ = X at *
        have c0 := HC.out.cell 0
        have c1 := HC.out.cell 1
        simp only [tqG, tqH] at c0 c1
        go_wp2_with fail
        go_ret
        exact ⟨rfl, HB.out⟩
    · have e1 : R = false := by rw [← HR.out]; simp [h2]
      have h2' : (o == s) = false := by simpa using h2
      subst e1
      clear HR h1 h2
      go_enter Tryz.func136, Tryz.ntmps136
      go_upto_region 1 with fail
      generalize W.alloc _ = X at *
      have c0 := HC.out.cell 0
      have c1 := HC.out.cell 1
      simp only [tqG, tqH] at c0 c1
      go_wp2_with fail
      go_ret
      exact ⟨rfl, HB.out⟩
theorem pagesf_any (W : World) (g : Nat) (fv : Nat) (cap : Array Value) : Calls Tryz.prog 72 #[.pointer (some ⟨g, 0, none⟩), .func (.func fv) #[] cap] W fun x W' => ∃ bd bs, x = .returned (.func (.func 118) #[] #[.pointer (some ⟨bd, 0, none⟩), .pointer (some ⟨bs, 0, none⟩)]) ∧ Ob W' bd (box (.pointer (some ⟨g, 0, none⟩)) 23) ∧ Ob W' bs (box (.func (.func fv) #[] cap) 136) ∧ W.heap.size ≤ bd ∧ W.heap.size ≤ bs ∧ Below W.heap.size W W' := by
  have h1 : Ob (W.alloc (.cells #[.pointer (some ⟨g, 0, none⟩)] 23)) W.heap.size (box (.pointer (some ⟨g, 0, none⟩)) 23) := heap_alloc_new _ _
  have h2 := heap_alloc_new (W.alloc (.cells #[.pointer (some ⟨g, 0, none⟩)] 23)) (.cells #[.func (.func fv) #[] cap] 136)
  rw [World.size_alloc] at h2
  have H := hid (And.intro (h1.on (below_one _ (.cells #[.func (.func fv) #[] cap] 136))) h2)
  clear h1 h2
  go_enter Tryz.func72, Tryz.ntmps72
  go_wp2_with fail
  go_ret
  exact ⟨_, _, rfl, H.out.1, H.out.2, Nat.le_refl _, Nat.le_succ _, below_on (below_one _ _) (below_one _ _)⟩
end Go.Proofs.YtdfnbcbnmiohnaaGreatDoor
