import Derived.Test.YtildhjiddidghaaGreatDoorP32
import Derived.Test.YtildhjiddidghaaGreatDoorP01
import Derived.Test.YtildhjiddidghaaGreatDoorP24
import Derived.Test.YtildhjiddidghaaGreatDoorP26
namespace Go.Proofs.YtildhjiddidghaaGreatDoor
open Go.RowKit
set_option maxHeartbeats 4000000
set_option maxRecDepth 100000
theorem broken_v (W : World) (p : Dp) (d : DS) (h : DB W p d) (hu : d.m.U) (h0 : 0 < d.m.ns) :
    Calls Tryz.prog 7 #[.pointer (some ⟨p.g, 0, none⟩)] W fun e w' => e = .returned (.tuple #[.int .i64 (d.fb 1 12).1, .int .i64 (d.fb 1 12).2]) ∧ Below W.heap.size W w' := by
  have HF := hid (firstBroken_v W p d h hu h0 1 12 (by decide) (by decide) (by decide))
  clear h hu h0
  generalize d.fb 1 12 = R at *
  go_enter Tryz.func7, Tryz.ntmps7
  go_wp2_with (go_at_call 21; refine HF.out.mono ?_; rintro e w1 ⟨rfl, hb⟩; have HB := hid hb; clear hb)
  go_ret2
  exact ⟨rfl, HB.out⟩
theorem isClause_v (W : World) (c : Int) : Calls Tryz.prog 47 #[.int .i64 c] W fun e w' => e = .returned (.bool (decide (1 ≤ c) && decide (c ≤ 12))) ∧ W = w' := by
  by_cases h1 : 1 ≤ c
  · rw [decide_eq_true h1, Bool.true_and]
    go_enter Tryz.func47, Tryz.ntmps47
    go_wp2_with fail
    go_ret
    exact ⟨rfl, rfl⟩
  · rw [decide_eq_false h1, Bool.false_and]
    go_enter Tryz.func47, Tryz.ntmps47
    go_wp2_with fail
    go_ret
    exact ⟨rfl, rfl⟩
def DS.holds (d : DS) (c : Int) : Bool := (decide (1 ≤ c) && decide (c ≤ 12)) && ((d.fb c.toNat 1).1 == 0)
theorem holds_v (W : World) (p : Dp) (d : DS) (h : DB W p d) (hu : d.m.U) (h0 : 0 < d.m.ns) (c : Int) :
    Calls Tryz.prog 14 #[.pointer (some ⟨p.g, 0, none⟩), .int .i64 c] W fun e w' => e = .returned (.bool (d.holds c)) ∧ Below W.heap.size W w' := by
  have HI := hid (isClause_v W c)
  unfold DS.holds
  cases hc : (decide (1 ≤ c) && decide (c ≤ 12))
  · rw [hc] at HI
    rw [Bool.false_and]
    clear h hu h0 hc
    go_enter Tryz.func14, Tryz.ntmps14
    go_wp2_with (go_at_call 47; refine HI.out.mono ?_; rintro e wx ⟨rfl, hw⟩; subst wx)
    go_ret
    exact ⟨rfl, Below.refl _ _⟩
  · rw [Bool.and_eq_true, decide_eq_true_eq, decide_eq_true_eq] at hc
    have HF := hid (firstBroken_v W p d h hu h0 c.toNat 1 (by omega) (by omega) (by decide))
    rw [show ((c.toNat : Nat) : Int) = c by omega, show ((c.toNat + 1 - 1 : Nat) : Int) = c by omega] at HF
    rw [show (decide (1 ≤ c) && decide (c ≤ 12)) = true by rw [decide_eq_true hc.1, decide_eq_true hc.2]; rfl] at HI
    rw [Bool.true_and]
    clear h hu h0 hc
    generalize d.fb c.toNat 1 = R at *
    go_enter Tryz.func14, Tryz.ntmps14
    go_wp2_with (first | (go_at_call 47; refine HI.out.mono ?_; rintro e wx ⟨rfl, hw⟩; subst wx) | (go_at_call 21; refine HF.out.mono ?_; rintro e w1 ⟨rfl, hb⟩; have HB := hid hb; clear hb))
    go_ret
    exact ⟨rfl, HB.out⟩
end Go.Proofs.YtildhjiddidghaaGreatDoor
namespace Go.Proofs.YtildhjiddidghaaGreatDoor
open Go.RowKit
set_option maxHeartbeats 4000000
set_option maxRecDepth 100000
structure SS (W w : World) (g : Nat) (p : Dp) (r : Rp) (d e : DS) : Prop where
  own : DB w p d
  doc : RDB w r e
  ap : ∀ k ∈ p.all, k ∉ r.all
  cel : Cel w g 34 [.pointer (some ⟨p.f.gm, 0, none⟩), .pointer (some ⟨p.g, 0, none⟩), .pointer (some ⟨r.g, 0, none⟩)]
  ng : W.heap.size ≤ g
  np : ∀ k ∈ p.all, W.heap.size ≤ k
  nr : ∀ k ∈ r.all, W.heap.size ≤ k
  bl : Below W.heap.size W w
theorem DB.ty {w : World} {p : Dp} {d : DS} (h : DB w p d) : ∀ k ∈ p.all, ∀ t cs, Cel w k t cs → t = 85 ∨ t = 22 ∨ t = 90 ∨ t = 153 ∨ t = 156 := by
  intro k hk t cs hc
  simp only [Dp.all, List.mem_cons] at hk
  rcases hk with rfl | rfl | hk
  · exact .inl (hc.ty h.cel)
  · exact .inr (.inl (hc.ty h.wds))
  · exact .inr (.inr (h.mem.ty_w k hk t cs hc))
theorem RDB.ty {w : World} {p : Rp} {d : DS} (h : RDB w p d) : ∀ k ∈ p.all, ∀ t cs, Cel w k t cs → t = 62 ∨ t = 121 ∨ t = 115 ∨ t = 40 ∨ t = 22 := by
  intro k hk t cs hc
  simp only [Rp.all, List.mem_cons] at hk
  rcases hk with rfl | rfl | hk
  · exact .inl (hc.ty h.cel)
  · obtain ⟨_, h1⟩ := h.ents; exact .inr (.inl (hc.ty h1))
  · exact .inr (.inr (h.mem.ty_w k hk t cs hc))
theorem SS.offp {W w : World} {g : Nat} {p : Dp} {r : Rp} {d e : DS} (h : SS W w g p r d e) : g ∉ p.all := fun hk => by
  rcases h.own.ty g hk 34 _ h.cel with e | e | e | e | e <;> (revert e; decide)
theorem SS.offr {W w : World} {g : Nat} {p : Dp} {r : Rp} {d e : DS} (h : SS W w g p r d e) : g ∉ r.all := fun hk => by
  rcases h.doc.ty g hk 34 _ h.cel with e | e | e | e | e <;> (revert e; decide)
theorem SS.on {W w w' : World} {g : Nat} {p : Dp} {r : Rp} {d e : DS} (h : SS W w g p r d e) (hb : Below w.heap.size w w') : SS W w' g p r d e :=
  ⟨h.own.on hb, h.doc.on hb, h.ap, h.cel.on hb, h.ng, h.np, h.nr, below_on h.bl hb⟩
theorem SS.stepA {W w w' : World} {g : Nat} {p : Dp} {r : Rp} {d d' e : DS} (h : SS W w g p r d e) (hd : DB w' p d') (hb : ButL p.w w w') : SS W w' g p r d' e :=
  ⟨hd, h.doc.frame hb (fun k hk hm => h.ap k (Dp.w_all hm) hk), h.ap, h.cel.but hb (fun hm => h.offp (Dp.w_all hm)), h.ng, h.np, h.nr, h.bl.trans (hb.below (B := W.heap.size) (fun k hk => h.np k (Dp.w_all hk)) h.bl.size)⟩
theorem SS.stepR {W w w' : World} {g : Nat} {p : Dp} {r q : Rp} {d e e' : DS} (h : SS W w g p r d e) (hR : RG w w' r q e') : SS W w' g p q d e' := by
  have hs := h.bl.size
  refine ⟨h.own.frame hR.but (fun k hk => h.ap k hk), hR.db, fun k hk hm => ?_, ?_, h.ng, h.np, fun k hk => ?_, h.bl.trans (hR.but.below (B := W.heap.size) h.nr hs)⟩
  · rcases hR.sub k hm with hm | hm
    · exact h.ap k hk hm
    · have := h.own.lt k hk; omega
  · have := h.cel.but hR.but h.offr
    rw [hR.g]
    exact this
  · rcases hR.sub k hk with hk | hk
    · exact h.nr k hk
    · omega
theorem SS.memA {W w w' : World} {g : Nat} {p : Dp} {r : Rp} {d e : DS} {m' : MS} (h : SS W w g p r d e) (hm : Mem w' p.f m') (hb : ButL p.f.w w w') (hn : m'.ns = d.m.ns) : SS W w' g p r { d with m := m' } e :=
  h.stepA (h.own.memory hm hb hn) ((ButL.refl p.w w).trans_sub hb (fun k hk => .inl (by simp only [Dp.w, List.mem_cons]; exact .inr hk)))
theorem SS.memR {W w w' : World} {g : Nat} {p : Dp} {r : Rp} {d e : DS} {r' : Rf} {m' : MS} (h : SS W w g p r d e) (hs : RSt w w' r.r r' m') (hn : m'.ns = e.m.ns) : SS W w' g p { r with r := r' } d { e with m := m' } :=
  h.stepR ((RG.start h.doc).mem hs hn)
theorem SS.c {W w : World} {g : Nat} {p : Dp} {r : Rp} {d e : DS} (h : SS W w g p r d e) : w.cell? ⟨g, 0, none⟩ = some (.pointer (some ⟨p.f.gm, 0, none⟩)) ∧ w.cell? ⟨g, 1, none⟩ = some (.pointer (some ⟨p.g, 0, none⟩)) ∧ w.cell? ⟨g, 2, none⟩ = some (.pointer (some ⟨r.g, 0, none⟩)) := ⟨h.cel.cell 0, h.cel.cell 1, h.cel.cell 2⟩
theorem secure_l (w : World) (q : Int) : Calls Tryz.prog 23 #[.int .i64 q] w fun e w' => e = .returned (.agg #[.bool true, .int .i64 q]) ∧ Below w.heap.size w w' := by
  go_enter Tryz.func23, Tryz.ntmps23
  go_wp2_with fail
  go_returns
  exact ⟨rfl, below_one _ _⟩
theorem num_l (w : World) (q : Int) : Calls Tryz.prog 25 #[.int .i64 q] w fun e w' => e = .returned (.int .i64 q) ∧ w = w' := by
  go_enter Tryz.func25, Tryz.ntmps25
  go_wp2_with fail
  go_ret
  exact ⟨rfl, rfl⟩
theorem write_l (W w : World) (g : Nat) (p : Dp) (r : Rp) (d : DS) (h : SS W w g p r d d) (q off v : Int) :
    Calls Tryz.prog 8 #[.pointer (some ⟨g, 0, none⟩), .int .i64 q, .int .i64 off, .int .u32 v] w fun e w' => e = .returned (.bool true) ∧ ∃ r', SS W w' g p r' { d with m := d.m.write true q off v } { d with m := d.m.write true q off v } := by
  have HA := hid (fun w (hw : DB w p d) => write_any w p.f d.m hw.mem true q off v)
  have HR := hid (fun w (hw : RDB w r d) => rwrite_any w r.r d.m hw.mem true q off v)
  have HNs : Hid ((d.m.write true q off v).ns = d.m.ns) := hid (MS.write_ns _ _ _ _ _)
  have S1 := hid (h.on (Below.refl _ _).drew)
  have HSc := hid (fun w => secure_l w q)
  have HNm := hid (fun w x => num_l w x)
  clear h
  simp only [ptr, fr] at *
  generalize hm2 : d.m.write true q off v = m2 at *
  clear hm2
  generalize d.m.err true q off = f at *
  go_enter Tryz.func8, Tryz.ntmps8
  go_upto_region 1 with fail
  refine wp_region_held_drew (S := fun w => w.cell? ⟨g, 0, none⟩ = some (.pointer (some ⟨p.f.gm, 0, none⟩))) (by kernel_rfl) S1.out.c.1 (fun hHeld => ?_)
  generalize World.drew _ = w1 at *
  refine tk 0 (some 11) (.pointer (some ⟨g, 0, none⟩)) ?_
  simp only [Act.put, tqA, tqZ, tqS]
  refine tk 1 (some 12) (.pointer (some ⟨g, 0, none⟩)) ?_
  simp only [Act.put, tqA, tqZ, tqS]
  refine tk 2 (some 13) (.pointer (some ⟨g, 0, none⟩)) ?_
  simp only [Act.put, tqA, tqZ, tqS]
  refine tk 3 (some 14) (.pointer (some ⟨p.f.gm, 0, none⟩)) ?_ (hy := Or.inl ⟨by rfl, by intro w hSw; have hc := hSw; go_simp⟩)
  simp only [Act.put, tqA, tqZ, tqS]
  refine tk 4 (some 15) (.int .i64 q) ?_
  simp only [Act.put, tqA, tqZ, tqS]
  refine tk 6 (some 17) (.int .i64 off) ?_
  simp only [Act.put, tqA, tqZ, tqS]
  refine tk 7 (some 18) (.int .u32 v) ?_
  simp only [Act.put, tqA, tqZ, tqS]
  refine wpAnyH_ready (rs := [5]) (by kernel_rfl) (by simp) (AllReadyH.cons (o := ⟨some 16, .call { callee := .value (.func 23), args := #[.tmp 15], argTypes := #[3] }, 57, "law.go:69", #[⟨4, .data⟩], none⟩) rfl (fun KQ hK => ?_) AllReadyH.nil)
  go_simp
  refine (HSc.out _).mono ?_
  rintro e w2 ⟨rfl, hb⟩
  have S2 := hid (S1.out.on hb)
  clear hb S1
  go_wp2_with fail
  refine hK.out _ _ S2.out.c.1 (fun hHeld => ?_)
  clear hK KQ
  try simp only [Act.put, tqA, tqZ, tqS]
  refine wpAnyH_ready (rs := [8]) (by kernel_rfl) (by simp) (AllReadyH.cons (o := ⟨some 19, .call { callee := .value (.func 22), args := #[.tmp 14, .tmp 16, .tmp 17, .tmp 18], argTypes := #[30, 57, 3, 22] }, 54, "law.go:69", #[⟨3, .data⟩, ⟨5, .data⟩, ⟨6, .data⟩, ⟨7, .data⟩, ⟨5, .chain⟩], none⟩) rfl (fun KQ hK => ?_) AllReadyH.nil)
  go_simp
  refine (HA.out _ S2.out.own).mono ?_
  rintro e w3 ⟨rfl, hm, hb⟩
  have S3 := hid (S2.out.memA hm hb HNs.out)
  clear hm hb S2
  go_wp2_with fail
  refine hK.out _ _ S3.out.c.1 (fun hHeld => ?_)
  clear hK KQ
  try simp only [Act.put, tqA, tqZ, tqS]
  refine wpAnyH_ready (rs := [9]) (by kernel_rfl) (by simp) (AllReadyH.cons (o := ⟨some 9, .assign (.tmp 19), 54, "law.go:69", #[⟨8, .data⟩, ⟨8, .chain⟩, ⟨0, .phase⟩, ⟨1, .phase⟩, ⟨2, .phase⟩, ⟨3, .phase⟩, ⟨4, .phase⟩, ⟨5, .phase⟩, ⟨6, .phase⟩, ⟨7, .phase⟩, ⟨8, .phase⟩], none⟩) rfl (fun KQ hK => ?_) AllReadyH.nil)
  go_simp
  refine hK.out _ _ S3.out.c.1 (fun hHeld => ?_)
  clear hK KQ
  try simp only [Act.put, tqA, tqZ, tqS]
  refine wpAnyH_done (by kernel_rfl) ?_ _
  obtain ⟨x0, x1, x2⟩ := S3.out.c
  have x3 := S3.out.doc.c0
  go_wp2_with (first | (go_at_call 24; refine (HR.out _ S3.out.doc).mono ?_; rintro e w4 ⟨rfl, r4, hs⟩; have S4 := hid (S3.out.memR hs HNs.out); clear hs S3 x0 x1 x2 x3) | (go_at_call 25; refine (HNm.out _ _).mono ?_; rintro e wx ⟨rfl, hw⟩; subst wx))
  go_ret
  exact ⟨rfl, _, S4.out⟩
def sz (q : Int) : Nat := (q.tmod 8 % 8 + 1).toNat
theorem sz_rg (q : Int) : 1 ≤ sz q ∧ sz q ≤ 8 := by
  unfold sz
  have h1 := Int.emod_nonneg (q.tmod 8) (show (8 : Int) ≠ 0 by decide)
  have h2 := Int.emod_lt_of_pos (q.tmod 8) (show (0 : Int) < 8 by decide)
  omega
theorem size_l (w : World) (q : Int) : Calls Tryz.prog 27 #[.int .i64 q] w fun e w' => e = .returned (.int .i64 (sz q : Int)) ∧ w = w' := by
  have h1 := Int.emod_nonneg (q.tmod 8) (show (8 : Int) ≠ 0 by decide)
  have h2 := Int.emod_lt_of_pos (q.tmod 8) (show (0 : Int) < 8 by decide)
  have e : ((sz q : Nat) : Int) = q.tmod 8 % 8 + 1 := by unfold sz; omega
  rw [e]
  have a1 := Int.tmod_lt_of_pos q (show (0 : Int) < 8 by decide)
  have a2 : -8 < q.tmod 8 := by
    have := Int.lt_tmod_of_pos q (show (0 : Int) < 8 by decide)
    omega
  have b2 : (q.tmod 8 + 8).tmod 8 = q.tmod 8 % 8 := by
    rw [Int.tmod_eq_emod_of_nonneg (by omega), Int.add_emod_right]
  have k1 : IntKind.wrap .i64 (q.tmod 8 + 8) = q.tmod 8 + 8 := wr64 _ (by omega) (by omega)
  have k3 : IntKind.wrap .i64 (q.tmod 8 % 8 + 1) = q.tmod 8 % 8 + 1 := wr64 _ (by omega) (by omega)
  clear e
  go_enter Tryz.func27, Tryz.ntmps27
  go_wp2_with fail
  go_ret
  exact ⟨by simp, rfl⟩
end Go.Proofs.YtildhjiddidghaaGreatDoor
namespace Go.Proofs.YtildhjiddidghaaGreatDoor
open Go.RowKit
set_option maxHeartbeats 4000000
set_option maxRecDepth 100000
theorem under78 : Tryz.prog.underlying 60 = some (.slice 121) := by kernel_rfl
theorem info124 : (Tryz.prog.info? 121).map (fun i => (i.zero, i.size, i.bytes)) = some (some En.zero.v, 5, 40) := by kernel_rfl
theorem ecs_snoc (E : List En) (x : En) : ecs (E ++ [x]) = ecs E ++ x.cs := by simp [ecs]
theorem cs_one (x : En) : ∀ u ∈ x.cs, u.oneCell' = true := by
  intro u hu
  simp only [En.cs, List.mem_cons, List.not_mem_nil, or_false] at hu
  rcases hu with rfl | rfl | rfl | rfl | rfl <;> rfl
theorem wpList_append_e {B : Nat} {w : World} {ops : Array Oper} {rest : List Oper} {o : Oper} {a : Act} {Q : Exit → Act → World → Prop} (hgd : o.guard = none) (s x : Operand)
    (ho : o.op = .call { callee := .builtin .append, args := #[s, x], argTypes := #[60, 60] }) (v : Value) (E : List En) (hs : a.eval s = v) (H : w.ownsRow B 121 5 v E.length (ecs E)) (hB : B ≤ w.heap.size) (ad : Addr) (c : Nat) (y : En) (hx : a.eval x = .slice (some ad) 1 c)
    (hsrc : ∀ j u, y.cs[j]? = some u → w.cell? (ad.add j) = some u) (hlen : E.length ≤ 1000)
    (h : ∀ v' w', w'.ownsRow B 121 5 v' (E ++ [y]).length (ecs (E ++ [y])) → w.grownBy w' v.ownBlock → wpList Tryz.prog ops Q rest (a.put o.dst v') w') : wpList Tryz.prog ops Q (o :: rest) a w := by
  obtain ⟨i, hi, hz, hsize, hby⟩ := info_parts info124
  obtain ⟨v', w', hr, h1, h2, _⟩ := run_append_own (P := Tryz.prog) w B 60 o.type 121 i En.zero.v 5 40 under78 hi hz hsize hby rfl (by decide) v E.length _ H ad 1 c y.cs rfl hsrc (cs_one y) (by unfold maxLen; omega) (by omega) hB
  have hH : w'.ownsRow B 121 5 v' (E ++ [y]).length (ecs (E ++ [y])) := by rw [List.length_append, ecs_snoc]; exact h1
  refine wpList_plain hgd fun K hK => ?_
  unfold Oper.wp execOp
  simp only [ho, resolve, invoke, builtin, Sem.run_bind, Sem.run_pure, Result.andThen_ok, List.map_toArray, List.map_cons, List.map_nil, hs, hx, hr]
  exact hK _ _ (h _ _ hH h2)
theorem own_blk {w : World} {B : Nat} {v : Value} {n : Nat} {L : List Value} (h : w.ownsRow B 121 5 v n L) {b : Nat} (hb : v.ownBlock = some b) : B ≤ b ∧ ∃ cur, w.heap[b]? = some (.cells cur 121 (0, 0)) := by
  rcases h.2 with ⟨hv, h0⟩ | ⟨g, cap, cur, hv, hB, hg, r⟩
  · rw [hv] at hb; cases hb
  · rw [hv] at hb
    have : g = b := by injection hb
    subst this
    exact ⟨hB, cur, hg⟩
theorem own_but {w w' : World} {B : Nat} {v : Value} {n : Nat} {L : List Value} {G : List Nat} (h : w.ownsRow B 121 5 v n L) (hb : ButL G w w') (hn : ∀ b cur, w.heap[b]? = some (.cells cur 121 (0, 0)) → B ≤ b → b ∉ G) : w'.ownsRow B 121 5 v n L :=
  ⟨h.1, h.2.imp id fun ⟨g, cap, cur, hv, hB, hg, r⟩ => ⟨g, cap, cur, hv, hB, (hb.block g (Array.getElem?_eq_some_iff.1 hg).1 (hn g cur hg hB)).trans hg, r⟩⟩
structure RN (W w : World) (r0 : Rf) (g : Nat) (v : Value) (r : Rf) (E : List En) (b : Int) (m : MS) : Prop where
  own : w.ownsRow W.heap.size 121 5 v E.length (ecs E)
  cel : Cel w g 62 [ptr r.g, v, .int .i64 b]
  hg : W.heap.size ≤ g
  mem : RMem w r m
  but : ButL r0.all W w
  sub : ∀ k ∈ r.all, k ∈ r0.all ∨ W.heap.size ≤ k
theorem RN.on {W w w' : World} {r0 r : Rf} {g : Nat} {v : Value} {E : List En} {b : Int} {m : MS} (h : RN W w r0 g v r E b m) (hb : Below w.heap.size w w') : RN W w' r0 g v r E b m :=
  ⟨own_but h.own (.of (G := []) hb) (by simp), h.cel.on hb, h.hg, h.mem.on hb, h.but.on hb, h.sub⟩
theorem off_cells {w : World} {r : Rf} {m : MS} (h : RMem w r m) {b : Nat} {cur : Array Value} {t : TypeId} (hc : w.heap[b]? = some (.cells cur t (0, 0))) (ht : t ≠ 115 ∧ t ≠ 40 ∧ t ≠ 22) : b ∉ r.all :=
  h.off (cs := cur.toList) (by show w.heap[b]? = _; rw [hc]) ht
theorem RN.st {W w w' : World} {r0 r r' : Rf} {g : Nat} {v : Value} {E : List En} {b : Int} {m m' : MS} (h : RN W w r0 g v r E b m) (hs : RSt w w' r r' m') : RN W w' r0 g v r' E b m' := by
  refine ⟨own_but h.own hs.but (fun b cur hc _ => off_cells h.mem hc (by decide)), ?_, h.hg, hs.mem, h.but.trans_sub hs.but h.sub, fun k hk => ?_⟩
  · rw [hs.g]; exact h.cel.but hs.but (h.mem.off h.cel (by decide))
  · rcases hs.sub k hk with hk | hk
    · exact h.sub k hk
    · exact .inr (Nat.le_trans h.but.size hk)
theorem RN.snoc {W w w' : World} {r0 r : Rf} {g : Nat} {v v' : Value} {E E' : List En} {b : Int} {m : MS} (h : RN W w r0 g v r E b m) (h2 : w'.ownsRow W.heap.size 121 5 v' E'.length (ecs E')) (hgr : w.grownBy w' v.ownBlock) :
    RN W (w'.setCell ⟨g, 1, none⟩ v') r0 g v' r E' b m ∧ w'.cell? ⟨g, 1, none⟩ = some v ∧ w'.frozen? ⟨g, 1, none⟩ = false := by
  obtain ⟨G, hG⟩ : ∃ G : List Nat, G = v.ownBlock.toList := ⟨_, rfl⟩
  have hbt : ButL G w w' := grown_but hgr (fun b hb => by rw [hG, hb]; simp)
  have hGe : ∀ k ∈ G, W.heap.size ≤ k ∧ ∃ cur, w.heap[k]? = some (.cells cur 121 (0, 0)) := fun k hk => by
    rw [hG, Option.mem_toList] at hk
    exact own_blk h.own hk
  have hgG : g ∉ G := fun hk => by
    obtain ⟨_, cur, hc⟩ := hGe g hk
    have hc' : Cel w g 121 cur.toList := by show w.heap[g]? = _; rw [hc]
    exact absurd (h.cel.ty hc') (by decide)
  have hrG : ∀ k ∈ r.all, k ∉ G := fun k hk hm => by
    obtain ⟨_, cur, hc⟩ := hGe k hm
    exact off_cells h.mem hc (by decide) hk
  have hcel := h.cel.but hbt hgG
  have hb1 : ButL [g] w' (w'.setCell ⟨g, 1, none⟩ v') := .setCell _ _ _ _ (by simp)
  have hmem := h.mem.frame hbt hrG
  refine ⟨⟨own_but h2 hb1 (fun k cur hc _ => ?_), hcel.setCell 1 v', h.hg, hmem.frame hb1 (fun k hk hm => ?_), (h.but.trans_sub hbt (fun k hk => .inr (hGe k hk).1)).trans_sub hb1 (fun k hk => ?_), h.sub⟩, hcel.cell 1, hcel.free 1⟩
  · intro hm
    rw [List.mem_singleton] at hm
    subst hm
    have hc' : Cel w' k 121 cur.toList := by show w'.heap[k]? = _; rw [hc]
    exact absurd (hcel.ty hc') (by decide)
  · rw [List.mem_singleton] at hm
    subst hm
    exact hmem.off hcel (by decide) hk
  · rw [List.mem_singleton] at hk
    subst hk
    exact .inr h.hg
theorem RN.done {W w : World} {r0 r : Rf} {g : Nat} {v : Value} {E : List En} {b : Int} {m : MS} (h : RN W w r0 g v r E b m) (hn : 0 < m.ns) (hl : E.length = m.ns) (hk : DS.Ok ⟨m, b, E⟩) :
    ∃ ge cap, RDB w ⟨g, ge, cap, r⟩ ⟨m, b, E⟩ ∧ W.heap.size ≤ ge := by
  rcases h.own.2 with ⟨hv, h0⟩ | ⟨ge, cap, cur, hv, hB, hg, hle, hm, hsz, ht⟩
  · omega
  · refine ⟨ge, cap, ⟨h.mem, ?_, ⟨cur.toList.drop (E.length * 5), ?_⟩, hk⟩, hB⟩
    · have := h.cel
      rw [hv, hl] at this
      exact this
    · show w.heap[ge]? = _
      rw [hg]
      show some (Obj.cells cur 121 (0, 0)) = some (.cells (ecs E ++ cur.toList.drop (E.length * 5)).toArray 121 (0, 0))
      rw [← ht, List.take_append_drop]
end Go.Proofs.YtildhjiddidghaaGreatDoor
namespace Go.Proofs.YtildhjiddidghaaGreatDoor
open Go.RowKit
set_option maxHeartbeats 4000000
set_option maxRecDepth 100000
theorem RDB.rng {w : World} {p : Rp} {d : DS} (h : RDB w p d) (k : Nat) (hk : k < d.m.ns) : w.rangeAt p.ge (k * 5) (d.at k).cs := fun j v hv => by
  have hj : j < 5 := by have := (List.getElem?_eq_some_iff.1 hv).1; simpa [En.cs] using this
  rw [h.e0 k j hk hj, hv]
theorem rframe_any (W : World) (p : Int) : Calls Tryz.prog 65 #[.int .i64 p] W fun x W' => x = .returned (fr true p) ∧ Below W.heap.size W W' := by
  unfold fr
  go_enter Tryz.func65, Tryz.ntmps65
  go_wp2_with fail
  go_returns
  exact ⟨rfl, below_one _ _⟩
theorem rturns_any (W : World) (t : Int) : Calls Tryz.prog 73 #[.int .i64 t] W fun e W' => e = .returned (.bool (trn t)) ∧ W = W' := by
  unfold trn
  by_cases h4 : t = 4
  · subst h4
    go_enter Tryz.func73, Tryz.ntmps73
    go_wp2_with fail
    go_ret
    exact ⟨rfl, rfl⟩
  · by_cases h5 : t = 5
    · subst h5
      go_enter Tryz.func73, Tryz.ntmps73
      go_wp2_with fail
      go_ret
      exact ⟨rfl, rfl⟩
    · have q4 : (t == 4) = false := by simpa using h4
      have q5 : (t == 5) = false := by simpa using h5
      rw [q4, q5]
      clear h4 h5
      go_enter Tryz.func73, Tryz.ntmps73
      go_wp2_with fail
      go_ret
      exact ⟨rfl, rfl⟩
theorem DS.ent_no {d : DS} {q : Int} (h : d.there q = false) : d.ent q = En.zero := by simp [DS.ent, h]
theorem ris_any (W : World) (p : Rp) (d : DS) (h : RDB W p d) (q t : Int) : Calls Tryz.prog 72 #[ptr p.g, .int .i64 q, .int .i64 t] W fun e W' => e = .returned (.bool (d.there q && ((d.ent q).t == t))) ∧ W = W' := by
  have c1 := h.c1
  by_cases hq : d.there q = true
  · obtain ⟨q0, q1, eq⟩ := there_lt hq
    rw [hq, ent_at hq]
    obtain ⟨r0, _, _, _, _⟩ := h.row q.toNat q1
    generalize q.toNat = k at *
    subst eq
    generalize (d.at k).t = dt at *
    have q2 : (k : Int) < (d.m.ns : Int) := by omega
    generalize d.m.ns = n at *
    clear h hq
    simp only [ptr, Bool.true_and] at *
    go_enter Tryz.func72, Tryz.ntmps72
    go_wp2_with fail
    go_ret
    exact ⟨rfl, rfl⟩
  · have hq' : d.there q = false := by simpa using hq
    rw [hq']
    have hc : q < 0 ∨ (0 ≤ q ∧ (d.m.ns : Int) ≤ q) := by
      have := of_decide_eq_false hq'
      omega
    clear h hq hq'
    simp only [ptr, Bool.false_and] at *
    generalize d.m.ns = n at *
    rcases hc with hc | ⟨h0, hc⟩
    · go_enter Tryz.func72, Tryz.ntmps72
      go_wp2_with fail
      go_ret
      exact ⟨rfl, rfl⟩
    · go_enter Tryz.func72, Tryz.ntmps72
      go_wp2_with fail
      go_ret
      exact ⟨rfl, rfl⟩
theorem built_zR : Tryz.prog.built 121 [] = some En.zero.cs.toArray := by kernel_rfl
theorem wpList_build_zR {ops : Array Oper} {rest : List Oper} {o : Oper} {a : Act} {w : World} {Q : Exit → Act → World → Prop} (hgd : o.guard = none) (ho : o.op = .build 121 #[])
    (h : wpList Tryz.prog ops Q rest (a.put o.dst (.agg En.zero.cs.toArray)) w) : wpList Tryz.prog ops Q (o :: rest) a w :=
  wpList_build_f hgd 121 _ ho #[] (by simp) _ built_zR h
end Go.Proofs.YtildhjiddidghaaGreatDoor
namespace Go.Proofs.YtildhjiddidghaaGreatDoor
open Go.RowKit
set_option maxHeartbeats 4000000
set_option maxRecDepth 100000
theorem rsecure_g (w : World) (r : Rf) (m : MS) (h : RMem w r m) (g : Nat) (hg : r.g = g) : Calls Tryz.prog 63 #[.pointer (some ⟨g, 0, none⟩)] w fun x w' => x = .returned (.int .i64 (m.ns : Int)) ∧ w' = w := by
  subst hg
  exact rsecure_any w r m h
theorem rzero_g (w : World) (r : Rf) (m : MS) (h : RMem w r m) (g : Nat) (hg : r.g = g) (s : Bool) (p : Int) : Calls Tryz.prog 64 #[.pointer (some ⟨g, 0, none⟩), fr s p] w fun x w' => x = .returned (.int .i64 (m.perr s p)) ∧ ∃ r', RSt w w' r r' (m.zero s p) := by
  subst hg
  exact rzero_any w r m h s p
theorem own_form5 {w : World} {B : Nat} {v : Value} {n : Nat} {L : List Value} (h : w.ownsRow B 121 5 v n L) : ∃ ao c, v = .slice ao n c := by
  rcases h.2 with ⟨hv, h0⟩ | ⟨g, cap, cur, hv, r⟩
  · exact ⟨none, 0, by rw [hv, h0]⟩
  · exact ⟨_, cap, hv⟩
structure NewD (W w : World) (r : Rf) (p : Rp) (d : DS) : Prop where
  db : RDB w p d
  g : W.heap.size ≤ p.g
  ge : W.heap.size ≤ p.ge
  rg : p.r.g = r.g
  but : ButL r.all W w
  sub : ∀ k ∈ p.r.all, k ∈ r.all ∨ W.heap.size ≤ k
theorem rnewDB_any (W : World) (r : Rf) (m : MS) (h : RMem W r m) (h64 : m.ns ≤ 64) (h0 : 0 < m.ns) :
    Calls Tryz.prog 30 #[ptr r.g] W fun e W' => ∃ p, e = .returned (ptr p.g) ∧ NewD W W' r p (DS.fresh m) := by
  have HS0 : Hid (RN W (W.alloc (.cells #[.pointer (some ⟨r.g, 0, none⟩), .slice none 0 0, .int .i64 0] 62)) r W.heap.size (.slice none 0 0) r [] 0 m) := hid
    ⟨World.ownsRow_nil _ _ _ _, Cel.new W 62 [.pointer (some ⟨r.g, 0, none⟩), .slice none 0 0, .int .i64 0], Nat.le_refl _, h.on (below_one _ _), .of (below_one _ _), fun k hk => .inl hk⟩
  have HN : Hid (m.ns ≤ 64) := hid h64
  have HZ0 : Hid (0 < m.ns) := hid h0
  have HZN : Hid (∀ k, (m.zall k).ns = m.ns) := hid (fun k => m.zall_ns k)
  have HFr := hid (fun w (p : Int) => rframe_any w p)
  clear h h64 h0
  simp only [ptr] at *
  go_enter Tryz.func30, Tryz.ntmps30
  go_wp2_with fail
  generalize W.alloc _ = X at *
  have HG : Hid (W.heap.size = W.heap.size) := hid rfl
  generalize hg : W.heap.size = g at *
  have HGG := hid hg
  clear hg HG
  go_loopw [4] (fun i wr => ∃ (j : Nat) (v : Value) (r' : Rf), j ≤ m.ns ∧ i = .int .i64 (j : Int) ∧ Hid (RN W wr r g v r' (List.replicate j En.zero) 0 (m.zall j) ∧ r'.g = r.g)) (fun i _ => m.ns - (intOf i).toNat)
  case atStart => exact ⟨0, _, r, Nat.zero_le _, rfl, hid ⟨HS0.out, rfl⟩⟩
  case round =>
    obtain ⟨j, v, r', hj, rfl, HQ⟩ := hrel
    clear HS0
    have HSc := hid (rsecure_g _ _ _ HQ.out.1.mem r.g HQ.out.2)
    rw [HZN.out] at HSc
    by_cases hlt : j < m.ns
    · have q1 : (j : Int) < (m.ns : Int) := by omega
      have HJ := hid hlt
      have hn64 := HN.out
      have j64 : (j : Int) ≤ 64 := by omega
      have j1000 : (List.replicate j En.zero).length ≤ 1000 := by rw [List.length_replicate]; omega
      have HR : Hid (List.replicate j En.zero ++ [En.zero] = List.replicate (j + 1) En.zero) := hid (by rw [List.replicate_succ'])
      have HM : Hid ((m.zall j).zero true (j : Int) = m.zall (j + 1)) := hid rfl
      clear hn64 hlt hj
      obtain ⟨m2, hm2⟩ : ∃ m2, m2 = m.zall (j + 1) := ⟨_, rfl⟩
      obtain ⟨E2, hE2⟩ : ∃ E2, E2 = List.replicate (j + 1) En.zero := ⟨_, rfl⟩
      rw [← hm2] at HM
      rw [← hE2] at HR
      have HME := hid (And.intro hm2 hE2)
      clear hm2 hE2
      generalize m.zall j = m1 at *
      generalize List.replicate j En.zero = E1 at *
      go_upto_region 8 with (first | (go_at_call 63; refine HSc.out.mono ?_; rintro e w0 ⟨rfl, rfl⟩) | (go_at_call 65; refine (HFr.out _ _).mono ?_; rintro e w1 ⟨rfl, hb⟩; have HQ1 := hid (And.intro (HQ.out.1.on hb) HQ.out.2); clear hb) | (go_at_call 64; refine (rzero_g _ _ _ HQ1.out.1.mem r.g HQ1.out.2 true (j : Int)).mono ?_; rintro e w2 ⟨rfl, r2, hs⟩; have HQ2 := hid (And.intro (HQ1.out.1.st hs) (hs.g.trans HQ1.out.2)); clear hs))
      rw [HM.out] at HQ2
      have y0 := HQ2.out.1.cel.cell 1
      simp only [List.getElem?_cons_zero, List.getElem?_cons_succ] at y0
      have HQ3 := hid (HQ2.out.1.on (below_one w2 (.cells En.zero.cs.toArray 121)))
      have HGR := hid HQ2.out.2
      have hfm := own_form5 HQ2.out.1.own
      obtain ⟨ao, cc, rfl⟩ := hfm
      have HBB := hid HQ3.out.but.size
      clear HQ2
      go_wp2_with (first | (refine wpList_build_zR rfl rfl ?_) | (at_builtin; refine wpList_append_e (B := W.heap.size) rfl _ _ rfl (.slice ao E1.length cc) E1 rfl HQ3.out.own HBB.out ⟨w2.heap.size, 0, none⟩ 1 En.zero rfl (Cel.new w2 121 En.zero.cs).src j1000 ?_; intro v' w3 h3 hgr; rw [HR.out] at h3; obtain ⟨ao9, cc9, rfl⟩ := own_form5 h3; obtain ⟨hq4, y1, y2⟩ := HQ3.out.snoc h3 hgr; have HQ4 := hid hq4; clear hq4 h3 hgr))
      go_roundw
      case measure => have := HJ.out; simp [intOf] <;> omega
      case rel => exact ⟨j + 1, _, _, HJ.out, by simp, hid ⟨by rw [← HME.out.1, ← HME.out.2]; exact HQ4.out, HGR.out⟩⟩
    · have hjn : j = m.ns := by omega
      subst hjn
      go_wp2_with (go_at_call 63; refine HSc.out.mono ?_; rintro e w0 ⟨rfl, rfl⟩)
      go_ret
      obtain ⟨ge, cap, hdb, hge⟩ := HQ.out.1.done (by rw [HZN.out]; exact HZ0.out) (by rw [HZN.out, List.length_replicate]) (zed_ok m m.ns HN.out)
      exact ⟨⟨g, ge, cap, r'⟩, rfl, hdb, HQ.out.1.hg, hge, HQ.out.2, HQ.out.1.but, HQ.out.1.sub⟩
end Go.Proofs.YtildhjiddidghaaGreatDoor
namespace Go.Proofs.YtildhjiddidghaaGreatDoor
open Go.RowKit
set_option maxHeartbeats 4000000
set_option maxRecDepth 100000
theorem state_new {X w1 w2 w3 w4 : World} {f : Fp} {r : Rf} {g gw : Nat} {q : Rp} {m : MS} {d : DS} (h1 : NewMem X w1 f m) (hd : DB w2 ⟨g, gw, f⟩ d) (hg : w1.heap.size ≤ g) (hgw : w1.heap.size ≤ gw) (hb : ButL f.w w1 w2) (h2 : NewR w2 w3 r m) (hn : NewD w3 w4 r q d) :
    SS X (w4.alloc (.cells #[.pointer (some ⟨f.gm, 0, none⟩), .pointer (some ⟨g, 0, none⟩), .pointer (some ⟨q.g, 0, none⟩)] 34)) w4.heap.size ⟨g, gw, f⟩ q d d := by
  have s1 := h1.below.size
  have s2 := hb.size
  have s3 := h2.below.size
  have s4 := hn.but.size
  have hpall : ∀ k ∈ (Dp.mk g gw f).all, k = g ∨ k = gw ∨ k ∈ f.all := fun k hk => by
    simpa only [Dp.all, List.mem_cons] using hk
  have hball : ∀ k ∈ q.all, k = q.g ∨ k = q.ge ∨ k ∈ q.r.all := fun k hk => by
    simpa only [Rp.all, List.mem_cons] using hk
  have hpl := hd.lt
  have hoff : ∀ k ∈ (Dp.mk g gw f).all, k ∉ r.all := fun k hk hm => by
    have := hpl k hk
    have := h2.new k hm
    omega
  have hq : ∀ k ∈ q.all, w2.heap.size ≤ k := fun k hk => by
    rcases hball k hk with rfl | rfl | hk
    · have := hn.g; omega
    · have := hn.ge; omega
    · rcases hn.sub k hk with hk | hk
      · exact h2.new k hk
      · omega
  have b1 : Below X.heap.size X w2 := h1.below.trans (hb.below (B := X.heap.size) (fun k hk => h1.new k (Fp.w_all hk)) s1)
  have b3 : Below X.heap.size X w3 := below_on b1 h2.below
  have b4 : Below X.heap.size X w4 := b3.trans (hn.but.below (B := X.heap.size) (fun k hk => by have := h2.new k hk; omega) b3.size)
  have ho := (hd.on h2.below).frame hn.but hoff
  have ha := below_one w4 (.cells #[.pointer (some ⟨f.gm, 0, none⟩), .pointer (some ⟨g, 0, none⟩), .pointer (some ⟨q.g, 0, none⟩)] 34)
  refine ⟨ho.on ha, hn.db.on ha, fun k hk hm => ?_, Cel.new w4 34 [.pointer (some ⟨f.gm, 0, none⟩), .pointer (some ⟨g, 0, none⟩), .pointer (some ⟨q.g, 0, none⟩)], b4.size, fun k hk => ?_, fun k hk => ?_, below_on b4 ha⟩
  · have := hpl k hk; have := hq k hm; omega
  · rcases hpall k hk with rfl | rfl | hk
    · omega
    · omega
    · exact h1.new k hk
  · have := hq k hk; omega
def DS.begun (a b : Int) : DS := DS.fresh (MS.new (sz a) (sz b))
theorem begun_l (W : World) (a b : Int) :
    Calls Tryz.prog 9 #[.int .i64 a, .int .i64 b] W fun e w' => ∃ g p r, e = .returned (.pointer (some ⟨g, 0, none⟩)) ∧ SS W w' g p r (DS.begun a b) (DS.begun a b) := by
  have ra := sz_rg a
  have rb := sz_rg b
  have HSa := hid (fun w => size_l w a)
  have HSb := hid (fun w => size_l w b)
  have H1 := hid (fun w => new_any w (sz a) (sz b) ra.1 (by omega) rb.1 (by omega))
  have H2 := hid (fun w => rnew_any w (sz a) (sz b) ra.1 (by omega) rb.1 (by omega))
  have H3 := hid (fun w f (hm : Mem w f (MS.new (sz a) (sz b))) => newDB_any w f _ hm (by show sz a ≤ 64; omega))
  have H4 := hid (fun w r (hm : RMem w r (MS.new (sz a) (sz b))) => rnewDB_any w r _ hm (by show sz a ≤ 64; omega) (by show 0 < sz a; omega))
  have HNm := hid (fun w x => num_l w x)
  unfold DS.begun
  clear ra rb
  generalize hd : DS.fresh (MS.new (sz a) (sz b)) = d at *
  clear hd
  generalize MS.new (sz a) (sz b) = m at *
  generalize sz a = sa at *
  generalize sz b = sb at *
  simp only [ptr] at *
  go_enter Tryz.func9, Tryz.ntmps9
  go_upto_region 4 with (first | (go_at_call 27; first | (refine (HSa.out _).mono ?_; rintro e wx ⟨rfl, hw⟩; subst wx) | (refine (HSb.out _).mono ?_; rintro e wx ⟨rfl, hw⟩; subst wx)) | (go_at_call 26; refine (H1.out _).mono ?_; rintro e w1 ⟨f, rfl, h1⟩; have N1 := hid h1; clear h1) | (go_at_call 25; refine (HNm.out _ _).mono ?_; rintro e wx ⟨rfl, hw⟩; subst wx))
  go_upto_region 7 with (go_at_call 28; refine (H3.out _ _ N1.out.mem).mono ?_; rintro e w2 ⟨g, gw, rfl, hd, hg, hgw, hb⟩; have N2 := hid (And.intro hd (And.intro hg (And.intro hgw hb))); clear hd hg hgw hb)
  go_upto_region 8 with (first | (go_at_call 27; first | (refine (HSa.out _).mono ?_; rintro e wx ⟨rfl, hw⟩; subst wx) | (refine (HSb.out _).mono ?_; rintro e wx ⟨rfl, hw⟩; subst wx)) | (go_at_call 29; refine (H2.out _).mono ?_; rintro e w3 ⟨r, rfl, h2⟩; have N3 := hid h2; clear h2))
  go_wp2_with (go_at_call 30; refine (H4.out _ _ N3.out.mem).mono ?_; rintro e w4 ⟨q, rfl, hn⟩; have N4 := hid (state_new N1.out N2.out.1 N2.out.2.1 N2.out.2.2.1 N2.out.2.2.2 N3.out hn); clear hn)
  go_ret
  exact ⟨_, _, _, rfl, N4.out⟩
end Go.Proofs.YtildhjiddidghaaGreatDoor
