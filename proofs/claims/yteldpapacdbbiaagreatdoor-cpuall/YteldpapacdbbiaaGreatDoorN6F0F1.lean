/- The document's New 40. Both memories, and blocks of the call's own beside them. The law's docFile 7. -/
import Derived.Test.YteldpapacdbbiaaGreatDoorRfN0N1N2N3N4
import Derived.Test.YteldpapacdbbiaaGreatDoorA2E9
import Derived.Test.YteldpapacdbbiaaGreatDoorCb
namespace Go.Proofs.YteldpapacdbbiaaGreatDoor
open Go.RowKit
theorem under66 : Tryz.prog.underlying 95 = some (.slice 60) := by kernel_rfl
theorem info24 : (Tryz.prog.info? 60).map (fun i => (i.zero, i.size, i.bytes)) = some (some (.slice none 0 0), 1, 24) := by kernel_rfl
/-- A list of lists of the call's own. -/
structure Hv (W wr : World) (v : Value) (vs : List Value) : Prop where
  own : wr.ownsRow W.heap.size 60 1 v vs.length vs
  below : Below W.heap.size W wr
theorem Hv.start (W : World) : Hv W W (.slice none 0 0) [] := ⟨World.ownsRow_nil _ _ _ _, Below.refl _ _⟩
theorem Hv.on {W w w' : World} {v : Value} {L : List Value} (h : Hv W w v L) (hb : Below w.heap.size w w') : Hv W w' v L :=
  ⟨⟨h.own.1, h.own.2.imp id fun ⟨g, cap, cur, hv, hB, hg, r⟩ => ⟨g, cap, cur, hv, hB, (hb.block g (Array.getElem?_eq_some_iff.1 hg).1).trans hg, r⟩⟩, below_on h.below hb⟩
theorem Hv.but {W w w' : World} {G : List Nat} {v : Value} {L : List Value} (h : Hv W w v L) (hb : ButL G w w') (hG : ∀ k ∈ G, W.heap.size ≤ k) (hn : ∀ b, blkOf v = some b → b ∉ G) : Hv W w' v L :=
  ⟨⟨h.own.1, h.own.2.imp id fun ⟨g, cap, cur, hv, hB, hg, r⟩ => ⟨g, cap, cur, hv, hB, (hb.block g (Array.getElem?_eq_some_iff.1 hg).1 (hn g (by rw [hv]; rfl))).trans hg, r⟩⟩, h.below.trans (hb.below hG h.below.size)⟩
theorem Hv.form {W w : World} {v : Value} {L : List Value} (h : Hv W w v L) : ∃ ao c, v = .slice ao L.length c := by
  rcases h.own.2 with ⟨hv, h0⟩ | ⟨g, cap, cur, hv, r⟩
  · exact ⟨none, 0, by rw [hv, h0]⟩
  · exact ⟨_, cap, hv⟩
theorem Hv.blk {W w : World} {v : Value} {L : List Value} (h : Hv W w v L) {b : Nat} (hb : blkOf v = some b) : W.heap.size ≤ b ∧ ∃ cur, w.heap[b]? = some (.cells cur 60 (0, 0)) := by
  rcases h.own.2 with ⟨hv, h0⟩ | ⟨g, cap, cur, hv, hB, hg, r⟩
  · rw [hv] at hb; cases hb
  · rw [hv] at hb
    simp only [blkOf, Option.some.injEq] at hb
    subst hb
    exact ⟨hB, cur, hg⟩
theorem Hv.cells {W w : World} {v : Value} {L : List Value} (h : Hv W w v L) (hp : 0 < L.length) : ∃ g cap cur, v = .slice (some ⟨g, 0, none⟩) L.length cap ∧ W.heap.size ≤ g ∧ w.heap[g]? = some (.cells cur 60 (0, 0)) ∧ cur.toList.take L.length = L := by
  rcases h.own.2 with ⟨hv, h0⟩ | ⟨g, cap, cur, hv, hB, hg, hle, r⟩
  · omega
  · refine ⟨g, cap, cur, hv, hB, hg, ?_⟩
    apply List.ext_getElem?
    intro j
    by_cases hj : j < L.length
    · have hc := h.own.cells (g := g) (by rw [hv]; rfl) j _ (List.getElem?_eq_getElem hj)
      rw [Addr.add_mid, Nat.zero_add, cell_of_row w g j _ 60 (0, 0) hg] at hc
      rw [List.getElem?_take_of_lt hj, List.getElem?_eq_getElem hj]
      simpa using hc
    · rw [List.getElem?_take_eq_none (by omega), List.getElem?_eq_none (by omega)]
theorem grown_but {w w' : World} {v : Value} (h : w.grownBy w' v.ownBlock) {G : List Nat} (hG : ∀ b, v.ownBlock = some b → b ∈ G) : ButL G w w' :=
  ⟨h.os, h.tape, h.output, h.size, fun k hk hn => h.block k hk (fun e => hn (hG k e.symm))⟩
theorem wpList_append_v {W w : World} {ops : Array Oper} {rest : List Oper} {o : Oper} {a : Act} {Q : Exit → Act → World → Prop} (hgd : o.guard = none) (s x : Operand)
    (ho : o.op = .call { callee := .builtin .append, args := #[s, x], argTypes := #[95, 95] }) (v : Value) (L : List Value) (hs : a.eval s = v) (H : Hv W w v L) (ad : Addr) (m c : Nat) (xs : List Value) (hx : a.eval x = .slice (some ad) m c) (hl : xs.length = m)
    (hsrc : ∀ j u, xs[j]? = some u → w.cell? (ad.add j) = some u) (hone : ∀ u ∈ xs, u.oneCell' = true) (hbytes : (L.length + m) * 24 ≤ 140737488355328)
    (h : ∀ v' w', Hv W w' v' (L ++ xs) → w.grownBy w' v.ownBlock → wpList Tryz.prog ops Q rest (a.put o.dst v') w') : wpList Tryz.prog ops Q (o :: rest) a w := by
  obtain ⟨i, hi, hz, hsize, hby⟩ := info_parts info24
  obtain ⟨v', w', hr, h1, h2, _⟩ := run_append_own (P := Tryz.prog) w W.heap.size 95 o.type 60 i (.slice none 0 0) 1 24 under66 hi hz hsize hby rfl (by decide) v L.length _ H.own ad m c xs (by rw [hl, Nat.mul_one]) hsrc hone (by unfold maxLen; omega) hbytes H.below.size
  have hH : Hv W w' v' (L ++ xs) := ⟨by rw [List.length_append, hl]; exact h1, H.below.grown h2 H.below.size (fun g hg => (H.own.lt g hg).1)⟩
  refine wpList_plain hgd fun K hK => ?_
  unfold Oper.wp execOp
  simp only [ho, resolve, invoke, builtin, Sem.run_bind, Sem.run_pure, Result.andThen_ok, List.map_toArray, List.map_cons, List.map_nil, hs, hx, hr]
  exact hK _ _ (h _ _ hH h2)
theorem new_srcv (w : World) (xs : List Value) : ∀ j u, xs[j]? = some u → (w.alloc (.cells xs.toArray 60)).cell? ((⟨w.heap.size, 0, none⟩ : Addr).add j) = some u := (Cel.new w 60 xs).src
/-- A document's memory that is being put together. -/
structure RNb (W wr : World) (g : Nat) (v : Value) (vs : List Value) (s c : Int) : Prop where
  hv : Hv W wr v vs
  cel : Cel wr g 97 [v, .int .i64 s, .int .i64 c]
  hg : W.heap.size ≤ g
theorem RNb.on {W w w' : World} {g : Nat} {v : Value} {vs : List Value} {s c : Int} (h : RNb W w g v vs s c) (hb : Below w.heap.size w w') : RNb W w' g v vs s c := ⟨h.hv.on hb, h.cel.on hb, h.hg⟩
theorem ownBlock_blk {v : Value} {b : Nat} {W w : World} {L : List Value} (h : Hv W w v L) (hb : v.ownBlock = some b) : blkOf v = some b := by
  rcases h.own.2 with ⟨hv, h0⟩ | ⟨g, cap, cur, hv, r⟩
  · rw [hv] at hb; cases hb
  · rw [hv] at hb ⊢; exact hb
theorem RNb.grown {W w w' : World} {g : Nat} {v v' : Value} {vs vs' : List Value} {s c : Int} (h : RNb W w g v vs s c) (h2 : Hv W w' v' vs') (hgr : w.grownBy w' v.ownBlock) : RNb W (w'.setCell ⟨g, 0, none⟩ v') g v' vs' s c := by
  have hne : ∀ b, v.ownBlock = some b → b ≠ g := fun b hb e => by
    subst e
    obtain ⟨_, cur, hc⟩ := h.hv.blk (ownBlock_blk h.hv hb)
    have h3 := h.cel
    unfold Cel at h3
    rw [hc] at h3
    injection h3 with h3
    injection h3 with _ h4 _
    exact absurd h4 (by decide)
  have hc : Cel w' g 97 [v, .int .i64 s, .int .i64 c] := (hgr.block g h.cel.lt (fun e => hne g e.symm rfl)).trans h.cel
  refine ⟨h2.but (G := [g]) (.setCell _ _ _ _ (by simp)) (fun k hk => by rw [List.mem_singleton] at hk; subst hk; exact h.hg) (fun b hb => ?_), hc.setCell 0 v', h.hg⟩
  rw [List.mem_singleton]
  intro e
  subst e
  obtain ⟨_, cur, hcc⟩ := h2.blk hb
  unfold Cel at hc
  rw [hcc] at hc
  injection hc with hc
  injection hc with _ h4 _
  exact absurd h4 (by decide)
theorem RNb.celG {W w w' : World} {g : Nat} {v : Value} {vs : List Value} {s c : Int} (h : RNb W w g v vs s c) (hgr : w.grownBy w' v.ownBlock) : Cel w' g 97 [v, .int .i64 s, .int .i64 c] := by
  refine (hgr.block g h.cel.lt (fun e => ?_)).trans h.cel
  obtain ⟨_, cur, hc⟩ := h.hv.blk (ownBlock_blk h.hv e.symm)
  have h3 := h.cel
  unfold Cel at h3
  rw [hc] at h3
  injection h3 with h3
  injection h3 with _ h4 _
  exact absurd h4 (by decide)
theorem RNb.cell0 {W w w' : World} {g : Nat} {v v' : Value} {vs vs' : List Value} {s c : Int} (h : RNb W w g v vs s c) (_ : Hv W w' v' vs') (hgr : w.grownBy w' v.ownBlock) : w'.cell? ⟨g, 0, none⟩ = some v := (h.celG hgr).cell 0
theorem RNb.free0 {W w w' : World} {g : Nat} {v v' : Value} {vs vs' : List Value} {s c : Int} (h : RNb W w g v vs s c) (_ : Hv W w' v' vs') (hgr : w.grownBy w' v.ownBlock) : w'.frozen? ⟨g, 0, none⟩ = false := (h.celG hgr).free 0
theorem RNb.c0 {W w : World} {g : Nat} {v : Value} {vs : List Value} {s c : Int} (h : RNb W w g v vs s c) : w.cell? ⟨g, 0, none⟩ = some v := h.cel.cell 0
/-- A new document's memory. -/
structure NewR (w w' : World) (r : Rf) (m : MS) : Prop where
  mem : RMem w' r m
  below : Below w.heap.size w w'
  new : ∀ k ∈ r.all, w.heap.size ≤ k
theorem RNb.done {W w : World} {g : Nat} {v : Value} {vs : List Value} {m : MS} (h : RNb W w g v vs (m.ns : Int) m.c) (hlen : vs.length = m.P.length) (h0 : 0 < m.P.length) (ns0 : m.ns ≤ m.P.length) (most : m.P.length ≤ 128)
    (hpg : ∀ k, k < m.P.length → PgIs w (vs.getD k nilV) (m.p k)) (hbl : ∀ k, k < m.P.length → ∀ b, blkOf (vs.getD k nilV) = some b → W.heap.size ≤ b) (hap : ∀ j k, j < m.P.length → k < m.P.length → j ≠ k → ∀ b, blkOf (vs.getD j nilV) = some b → blkOf (vs.getD k nilV) ≠ some b) :
    ∃ r : Rf, r.g = g ∧ NewR W w r m := by
  obtain ⟨gp, cap, cur, e1, e2, e3, e4⟩ := h.hv.cells (by omega)
  have hc := h.cel
  rw [e1, hlen] at hc
  refine ⟨⟨g, gp, cap, vs⟩, rfl, ⟨hc, ⟨cur, e3, by rw [← hlen]; exact e4⟩, hlen, ns0, most, hpg, hap⟩, h.hv.below, fun b hb => ?_⟩
  rcases Rf.all_mem hb with rfl | rfl | ⟨k, hk, hbk⟩
  · exact h.hg
  · exact e2
  · exact hbl k (by rw [← hlen]; exact hk) b hbk
set_option maxRecDepth 40000 in
set_option maxHeartbeats 4000000 in
theorem rnew_any (w : World) (s n : Nat) (s1 : 1 ≤ s) (s2 : s ≤ 64) (n1 : 1 ≤ n) (n2 : n ≤ 64) :
    Calls Tryz.prog 21 #[.int .i64 (s : Int), .int .i64 (n : Int)] w fun x w' => ∃ r, x = .returned (.tuple #[ptr r.g, .int .i64 0]) ∧ NewR w w' r (MS.new s n) := by
  have a1 : (1 : Int) ≤ (s : Int) := by omega
  have a2 : (s : Int) ≤ 64 := by omega
  have a3 : (1 : Int) ≤ (n : Int) := by omega
  have a4 : (n : Int) ≤ 64 := by omega
  have HM : Hid (s + n ≤ 128) := hid (by omega)
  have HP : Hid (0 < s + n) := hid (by omega)
  have HB : Hid (RNb w (w.alloc (.cells #[.slice none 0 0, .int .i64 (s : Int), .int .i64 0] 97)) w.heap.size (.slice none 0 0) [] (s : Int) 0) := hid ⟨(Hv.start w).on (below_one _ _), Cel.new w 97 [.slice none 0 0, .int .i64 (s : Int), .int .i64 0], Nat.le_refl _⟩
  clear s1 s2 n1 n2
  go_enter Tryz.func21, Tryz.ntmps21
  go_wp2_with fail
  generalize w.alloc _ = X at *
  have HG : Hid (w.heap.size = w.heap.size) := hid rfl
  generalize w.heap.size = g at *
  go_loopw [7] (fun i wr => ∃ (j : Nat) (v : Value), j ≤ s + n ∧ i = .int .i64 (j : Int) ∧ Hid (RNb w wr g v (List.replicate j nilV) (s : Int) 0)) (fun i _ => s + n - (intOf i).toNat)
  case atStart => exact ⟨0, _, Nat.zero_le _, rfl, HB⟩
  case round =>
    obtain ⟨j, v, hj, rfl, HQ⟩ := hrel
    clear HB
    by_cases hlt : j < s + n
    · have c1 : (j : Int) < (s : Int) + (n : Int) := by omega
      have j1 : (j : Int) ≤ 128 := by have := HM.out; omega
      obtain ⟨ao, cc, hvf⟩ := HQ.out.hv.form
      have y0 := HQ.out.c0
      have HV : Hid (v = .slice ao (List.replicate j nilV).length cc) := hid hvf
      rw [hvf] at y0
      have HQ1 := hid (HQ.out.on (below_one wr (.cells #[.slice none 0 0] 60)))
      have hby : ((List.replicate j nilV).length + 1) * 24 ≤ 140737488355328 := by rw [List.length_replicate]; have := HM.out; omega
      clear hvf
      subst v
      have HR : Hid (List.replicate j nilV ++ [.slice none 0 0] = List.replicate (j + 1) nilV) := hid (by rw [List.replicate_succ']; rfl)
      generalize hLL : List.replicate j nilV = LL at *
      clear hLL
      go_wp2_with (first | (at_builtin; refine wpList_append_v (W := w) rfl _ _ rfl (.slice ao LL.length cc) LL rfl HQ1.out.hv ⟨wr.heap.size, 0, none⟩ 1 1 [.slice none 0 0] rfl rfl (new_srcv _ [.slice none 0 0]) (by intro u hu; rw [List.mem_singleton] at hu; subst hu; rfl) hby ?_; intro v' w2 H2 hgr; obtain ⟨ao2, cc2, rfl⟩ := H2.form; have HN := hid (HQ1.out.grown H2 hgr); have y1 : w2.cell? ⟨g, 0, none⟩ = some (.slice ao LL.length cc) := (RNb.cell0 HQ1.out H2 hgr); have y2 : w2.frozen? ⟨g, 0, none⟩ = false := (RNb.free0 HQ1.out H2 hgr); clear H2 hgr))
      exact ⟨⟨j + 1, _, by omega, by go_num, by rw [← HR.out]; exact (by simpa using HN.out : RNb w (w2.setCell ⟨g, 0, none⟩ (.slice ao2 (LL.length + 1) cc2)) g (.slice ao2 (LL.length + 1) cc2) (LL ++ [.slice none 0 0]) (s : Int) 0)⟩, by simp [intOf]; omega⟩
    · obtain rfl : j = s + n := by omega
      have c1 : ¬ ((s + n : Nat) : Int) < (s : Int) + (n : Int) := by omega
      have HD : Hid (∃ r : Rf, r.g = g ∧ NewR w wr r (MS.new s n)) := hid (by
        have e : (MS.new s n).P.length = s + n := by simp [MS.new]
        refine RNb.done (m := MS.new s n) HQ.out (by rw [List.length_replicate, e]) (by rw [e]; exact HP.out) (by rw [e]; exact Nat.le_add_right _ _) (by rw [e]; exact HM.out) (fun k hk => ?_) (fun k hk b hb => ?_) (fun j k hj hk _ b hb => ?_)
        · rw [e] at hk
          have e1 : (List.replicate (s + n) nilV).getD k nilV = .slice none 0 0 := by simp [List.getD_eq_getElem?_getD, hk]; rfl
          have e2 : (MS.new s n).p k = zs := rep_p k (s + n) hk
          rw [e1, e2]; exact pg_nil _
        · rw [e] at hk
          have e1 : (List.replicate (s + n) nilV).getD k nilV = .slice none 0 0 := by simp [List.getD_eq_getElem?_getD, hk]; rfl
          rw [e1] at hb; cases hb
        · rw [e] at hj
          have e1 : (List.replicate (s + n) nilV).getD j nilV = .slice none 0 0 := by simp [List.getD_eq_getElem?_getD, hj]; rfl
          rw [e1] at hb; cases hb)
      go_wp2_with fail
      go_ret2
      obtain ⟨r, rfl, hr⟩ := HD.out
      exact ⟨r, rfl, hr⟩
theorem rnew_no (w : World) (s n : Int) (h : ¬ (1 ≤ s ∧ s ≤ 64 ∧ 1 ≤ n ∧ n ≤ 64)) :
    Calls Tryz.prog 21 #[.int .i64 s, .int .i64 n] w fun x w' => x = .returned (.tuple #[.pointer none, .int .i64 1]) ∧ w' = w := by
  have h' : s < 1 ∨ (1 ≤ s ∧ 64 < s) ∨ (1 ≤ s ∧ s ≤ 64 ∧ n < 1) ∨ (1 ≤ s ∧ s ≤ 64 ∧ 1 ≤ n ∧ 64 < n) := by omega
  clear h
  go_enter Tryz.func21, Tryz.ntmps21
  rcases h' with h | ⟨h1, h2⟩ | ⟨h1, h2, h3⟩ | ⟨h1, h2, h3, h4⟩
  all_goals go_wp2_with fail
  all_goals go_ret2
  all_goals exact ⟨rfl, rfl⟩
end Go.Proofs.YteldpapacdbbiaaGreatDoor
namespace Go.Proofs.YteldpapacdbbiaaGreatDoor
open Go.RowKit
theorem NewR.on {W w w' : World} {r : Rf} {m : MS} (h : NewR W w r m) (hb : Below w.heap.size w w') : NewR W w' r m := ⟨h.mem.on hb, below_on h.below hb, h.new⟩
theorem NewR.step {W w w' : World} {r r' : Rf} {m m' : MS} (h : NewR W w r m) (s : RSt w w' r r' m') : NewR W w' r' m' :=
  ⟨s.mem, h.below.trans (s.but.below h.new h.below.size), fun k hk => by
    rcases s.sub k hk with h1 | h1
    · exact h.new k h1
    · exact Nat.le_trans h.below.size h1⟩
structure TB (W x : World) (fa : Fp) (r : Rf) (ma mr : MS) (L : List (Nat × TypeId × List Value)) : Prop where
  a : Mem x fa ma
  d : RMem x r mr
  below : Below W.heap.size W x
  la : ∀ k ∈ fa.all, W.heap.size ≤ k
  lr : ∀ k ∈ r.all, W.heap.size ≤ k
  ar : ∀ k ∈ r.all, k ∉ fa.all
  all : ∀ p ∈ L, Cel x p.1 p.2.1 p.2.2
  new : ∀ p ∈ L, W.heap.size ≤ p.1 ∧ p.1 ∉ fa.all ∧ p.1 ∉ r.all
  nd : (L.map (·.1)).Nodup
theorem TB.get {W x : World} {fa : Fp} {r : Rf} {ma mr : MS} {L : List (Nat × TypeId × List Value)} (h : TB W x fa r ma mr L) (k : Nat) {g : Nat} {t : TypeId} {cs : List Value} (hk : L[k]? = some (g, t, cs)) : Cel x g t cs := h.all _ (List.mem_of_getElem? hk)
theorem TB.on {W x x' : World} {fa : Fp} {r : Rf} {ma mr : MS} {L : List (Nat × TypeId × List Value)} (h : TB W x fa r ma mr L) (hb : Below x.heap.size x x') : TB W x' fa r ma mr L :=
  ⟨h.a.on hb, h.d.on hb, below_on h.below hb, h.la, h.lr, h.ar, fun p hp => (h.all p hp).on hb, h.new, h.nd⟩
theorem TB.stepA {W x x' : World} {fa : Fp} {r : Rf} {ma mr m' : MS} {L : List (Nat × TypeId × List Value)} (h : TB W x fa r ma mr L) (s : Rd x x' fa m') : TB W x' fa r m' mr L :=
  ⟨s.mem, h.d.frame s.but (fun k hk hw => h.ar k hk (Fp.w_all hw)), h.below.trans (s.but.below (fun k hk => h.la k (Fp.w_all hk)) h.below.size), h.la, h.lr, h.ar, fun p hp => (h.all p hp).but s.but (fun hw => (h.new p hp).2.1 (Fp.w_all hw)), h.new, h.nd⟩
theorem TB.stepR {W x x' : World} {fa : Fp} {r r' : Rf} {ma mr m' : MS} {L : List (Nat × TypeId × List Value)} (h : TB W x fa r ma mr L) (s : RSt x x' r r' m') : TB W x' fa r' ma m' L :=
  ⟨h.a.frame s.but (fun k hk hw => h.ar k hw hk), s.mem, h.below.trans (s.but.below h.lr h.below.size), h.la, fun k hk => by
    rcases s.sub k hk with h1 | h1
    · exact h.lr k h1
    · exact Nat.le_trans h.below.size h1, fun k hk hf => by
    rcases s.sub k hk with h1 | h1
    · exact h.ar k h1 hf
    · have := h.a.lt k hf; omega, fun p hp => (h.all p hp).but s.but (h.new p hp).2.2, fun p hp => ⟨(h.new p hp).1, (h.new p hp).2.1, fun hm => by
    rcases s.sub _ hm with h1 | h1
    · exact (h.new p hp).2.2 h1
    · have := (h.all p hp).lt; omega⟩, h.nd⟩
theorem TB.box {W x : World} {fa : Fp} {r : Rf} {ma mr : MS} {L : List (Nat × TypeId × List Value)} (h : TB W x fa r ma mr L) (t : TypeId) (cs : List Value) : TB W (x.alloc (.cells cs.toArray t)) fa r ma mr ((x.heap.size, t, cs) :: L) :=
  ⟨h.a.on (below_one _ _), h.d.on (below_one _ _), below_on h.below (below_one _ _), h.la, h.lr, h.ar, fun p hp => by
    rcases List.mem_cons.1 hp with rfl | hp
    · exact Cel.new x t cs
    · exact (h.all p hp).on (below_one _ _), fun p hp => by
    rcases List.mem_cons.1 hp with rfl | hp
    · exact ⟨h.below.size, fun hm => by have := h.a.lt _ hm; simp only at this; omega, fun hm => by have := h.d.lt _ hm; simp only at this; omega⟩
    · exact h.new p hp, by
    rw [List.map_cons, List.nodup_cons]
    exact ⟨fun hm => by
      obtain ⟨p, hp, he⟩ := List.mem_map.1 hm
      have := (h.all p hp).lt
      simp only at he
      omega, h.nd⟩⟩
theorem TB.tail {W x : World} {fa : Fp} {r : Rf} {ma mr : MS} {p : Nat × TypeId × List Value} {L : List (Nat × TypeId × List Value)} (h : TB W x fa r ma mr (p :: L)) : TB W x fa r ma mr L :=
  ⟨h.a, h.d, h.below, h.la, h.lr, h.ar, fun q hq => h.all q (by simp [hq]), fun q hq => h.new q (by simp [hq]), (List.nodup_cons.1 h.nd).2⟩
/-- A block is written. -/
theorem TB.put {W x x' : World} {fa : Fp} {r : Rf} {ma mr : MS} {L : List (Nat × TypeId × List Value)} (h : TB W x fa r ma mr L) (k : Nat) {g : Nat} {t : TypeId} {cs es : List Value} (hk : L[k]? = some (g, t, cs)) (hc : Cel x' g t es) (hb : ButL [g] x x') : TB W x' fa r ma mr (L.set k (g, t, es)) := by
  have hm := List.mem_of_getElem? hk
  have hn := h.new _ hm
  have hkl : k < L.length := (List.getElem?_eq_some_iff.1 hk).1
  refine ⟨h.a.frame hb (fun k hk hw => by rw [List.mem_singleton] at hw; exact hn.2.1 (hw ▸ hk)), h.d.frame hb (fun k hk hw => by rw [List.mem_singleton] at hw; exact hn.2.2 (hw ▸ hk)), h.below.trans (hb.below (by simpa using hn.1) h.below.size), h.la, h.lr, h.ar, fun p hp => ?_, fun p hp => ?_, ?_⟩
  · obtain ⟨j, hj⟩ := List.getElem?_of_mem hp
    by_cases e : k = j
    · subst e
      rw [List.getElem?_set_self hkl] at hj
      obtain rfl := Option.some.inj hj
      exact hc
    · rw [List.getElem?_set_ne e] at hj
      refine (h.get j (show L[j]? = some (p.1, p.2.1, p.2.2) from hj)).but hb ?_
      rw [List.mem_singleton]
      exact fun he => e (nodup_inj h.nd hk hj he.symm)
  · rcases List.mem_or_eq_of_mem_set hp with hp | rfl
    · exact h.new p hp
    · exact hn
  · have : (L.set k (g, t, es)).map (·.1) = L.map (·.1) := by
      rw [List.map_set]
      apply List.ext_getElem?
      intro j
      by_cases e : k = j
      · subst e
        rw [List.getElem?_set_self (by simpa using hkl)]
        simp [hk]
      · rw [List.getElem?_set_ne e]
    rw [this]
    exact h.nd
theorem TB.loA {W x : World} {fa : Fp} {r : Rf} {ma mr : MS} {L : List (Nat × TypeId × List Value)} (h : TB W x fa r ma mr L) (hz : 3 < W.heap.size) : ∀ k ∈ fa.w, 3 < k := fun k hk => by have := h.la k (Fp.w_all hk); omega
theorem TB.loR {W x : World} {fa : Fp} {r : Rf} {ma mr : MS} {L : List (Nat × TypeId × List Value)} (h : TB W x fa r ma mr L) (hz : 3 < W.heap.size) : ∀ k ∈ r.all, 3 < k := fun k hk => by have := h.lr k hk; omega
end Go.Proofs.YteldpapacdbbiaaGreatDoor
namespace Go.Proofs.YteldpapacdbbiaaGreatDoor
open Go.RowKit
set_option maxHeartbeats 8000000
set_option maxRecDepth 100000
attribute [-simp] Tryz.isAgg26 Tryz.sizeOf26 Tryz.isAgg24 Tryz.isAgg34 Tryz.sizeOf34
theorem built_fileR (f : F) : Tryz.prog.built 34 [(0, rV f.r), (1, .int .u32 f.pc), (2, .bool f.z), (3, .bool f.n), (4, .bool f.l)] = some f.cs.toArray := by kernel_rfl
theorem wpList_build_fileR {ops : Array Oper} {rest : List Oper} {o : Oper} {a : Act} {w : World} {Q : Exit → Act → World → Prop} (hgd : o.guard = none) (x0 x1 x2 x3 x4 : Operand) (ho : o.op = .build 34 #[(0, x0), (1, x1), (2, x2), (3, x3), (4, x4)])
    (f : F) (h0 : a.eval x0 = rV f.r) (h1 : a.eval x1 = .int .u32 f.pc) (h2 : a.eval x2 = .bool f.z) (h3 : a.eval x3 = .bool f.n) (h4 : a.eval x4 = .bool f.l)
    (h : wpList Tryz.prog ops Q rest (a.put o.dst f.v) w) : wpList Tryz.prog ops Q (o :: rest) a w :=
  wpList_build_f hgd 34 _ ho #[(0, rV f.r), (1, .int .u32 f.pc), (2, .bool f.z), (3, .bool f.n), (4, .bool f.l)] (by simp only [List.map_toArray, List.map_cons, List.map_nil, h0, h1, h2, h3, h4]) _ (built_fileR f) h
theorem docFile_any (W : World) (f : F) : Calls Tryz.prog 7 #[f.v] W fun e W' => e = .returned f.v ∧ Below W.heap.size W W' := by
  have HC1 : Hid (Cel ((W.alloc (.cells f.cs.toArray 26)).alloc zg) W.heap.size 26 f.cs) := hid ((Cel.new W 26 _).on (below_one _ _))
  have HC2 : Hid (Cel ((W.alloc (.cells f.cs.toArray 26)).alloc zg) (W.heap.size + 1) 34 F.zero.cs) := hid (by
    have := zg_new (W.alloc (.cells f.cs.toArray 26))
    rwa [World.size_alloc] at this)
  have HB := hid (below_on (below_one W (.cells f.cs.toArray 26)) (below_one _ zg))
  simp only [F.v] at *
  simp only [zg] at HC1 HC2 HB
  have HS := hid (show F.v f = .agg f.cs.toArray from rfl)
  generalize hcs : f.cs.toArray = C at *
  go_enter Tryz.func7, Tryz.ntmps7
  go_upto_region 1 with fail
  generalize hX : (W.alloc _).alloc _ = X at *
  clear hX
  have y15 : X.cell? ⟨W.heap.size, 15, none⟩ = some (.int .u32 f.pc) := (HC1.out.cell 15).trans f.at15
  have y16 : X.cell? ⟨W.heap.size, 16, none⟩ = some (.bool f.z) := (HC1.out.cell 16).trans f.at16
  have y17 : X.cell? ⟨W.heap.size, 17, none⟩ = some (.bool f.n) := (HC1.out.cell 17).trans f.at17
  have y18 : X.cell? ⟨W.heap.size, 18, none⟩ = some (.bool f.l) := (HC1.out.cell 18).trans f.at18
  go_wp2_with (first | (refine wpList_load_r rfl _ rfl W.heap.size f rfl HC1.out ?_) | (refine wpList_build_fileR rfl _ _ _ _ _ rfl f rfl rfl rfl rfl rfl ?_) | (refine wpList_store_g rfl _ _ rfl (W.heap.size + 1) F.zero f rfl rfl HC2.out ?_; intro w9 hc hb hs; have H9 := hid (And.intro hc (HB.out.trans (hb.below (by simp) HB.out.size))); clear hc hb hs))
  exact ret_st rfl rfl (W.heap.size + 1) f.cs.toArray rfl H9.out.1 under25 rfl (by rw [size25]; simp [F.len]) ⟨by rw [hcs], H9.out.2⟩
end Go.Proofs.YteldpapacdbbiaaGreatDoor
