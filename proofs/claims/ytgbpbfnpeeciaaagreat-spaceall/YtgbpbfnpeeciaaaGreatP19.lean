import Derived.Test.YtgbpbfnpeeciaaaGreatP15
import Derived.Test.YtgbpbfnpeeciaaaGreatP18
namespace Go.Proofs.YtgbpbfnpeeciaaaGreat
open Go.RowKit
set_option maxHeartbeats 4000000
set_option maxRecDepth 100000
theorem Hl.one (W : World) (x : Int) : Hl W (W.alloc (.cells #[.int .u32 x] 29)) (.slice (some ⟨W.heap.size, 0, none⟩) 1 1) [x] :=
  ⟨⟨rfl, .inr ⟨W.heap.size, 1, #[.int .u32 x], rfl, Nat.le_refl _, heap_alloc_new _ _, Nat.le_refl _, by unfold maxLen; decide, rfl, rfl⟩⟩, below_one _ _⟩
def dws (b : Int) (E : List En) (j : Nat) : List Int := b :: (E.take j).flatMap ew
theorem dws_succ (b : Int) (E : List En) (j : Nat) (h : j < E.length) : dws b E (j + 1) = dws b E j ++ [e0 (E.getD j En.zero), e1 (E.getD j En.zero)] := by
  have e : E.take (j + 1) = E.take j ++ [E.getD j En.zero] := by
    rw [List.take_add_one, List.getD_eq_getElem?_getD]
    simp [h]
  simp [dws, e, ew]
theorem dws_len (b : Int) (E : List En) (j : Nat) (h : j ≤ E.length) : (dws b E j).length = 1 + 2 * j := by
  rw [dws, List.length_cons, flat_len, List.length_take]
  omega
theorem dws_all (b : Int) (E : List En) : dws b E E.length = wdsOf b E := by simp [dws, wdsOf]
theorem new_src2 (w : World) (x y : Int) : ∀ j u, (u32s [x, y])[j]? = some u → (w.alloc (.cells #[.int .u32 x, .int .u32 y] 29)).cell? ((⟨w.heap.size, 0, none⟩ : Addr).add j) = some u := (Cel.new w 29 (u32s [x, y])).src
theorem rwords_any (W : World) (p : Rp) (d : DS) (h : RDB W p d) :
    Calls Tryz.prog 46 #[ptr p.g] W fun x W' => ∃ v, x = .returned v ∧ Hl W W' v d.ws := by
  have c1 := h.c2
  have HW := hid h
  have HN : Hid (d.m.ns ≤ 64) := hid h.ok.n64
  have HE : Hid (d.E.length = d.m.ns) := hid h.ok.len
  have HR := hid (fun w (hw : RDB w p d) k hk => And.intro hw.c1 (hw.rng k hk))
  have HC := hid (fun w (hw : RDB w p d) => hw.c1)
  have HK := hid (fun w k => rencode_any w (d.at k))
  have wb : d.b % 4294967296 = d.b := by have := h.ok.b0; have := h.ok.b1; omega
  have HS0 := hid (Hl.one W d.b)
  clear h
  generalize d.m.ns = n at *
  simp only [ptr, En.v, twoV, two] at *
  go_enter Tryz.func46, Tryz.ntmps46
  go_wp2_with fail
  generalize W.alloc _ = X at *
  have HL0 : Hid (Hl W X (.slice (some ⟨W.heap.size, 0, none⟩) 1 1) (dws d.b d.E 0)) := HS0
  clear HS0 c1
  go_loopw [3, 4] (fun l i wr => ∃ j : Nat, j ≤ n ∧ i = .int .i64 (j : Int) ∧ Hid (Hl W wr l (dws d.b d.E j))) (fun _ i _ => n - (intOf i).toNat)
  case atStart => exact ⟨0, Nat.zero_le _, rfl, HL0⟩
  case round =>
    obtain ⟨j, hj, rfl, HQ⟩ := hrel
    clear HL0
    by_cases hlt : j < n
    · have q1 : (j : Int) < (n : Int) := by omega
      have HRW := hid (HW.out.on HQ.out.below)
      have c1 := HC.out _ HRW.out
      have HRR := hid (HR.out _ HRW.out j hlt).2
      have HJ := hid hlt
      have hn64 := HN.out
      have j64 : (j : Int) ≤ 64 := by omega
      have HS := hid (dws_succ d.b d.E j (by rw [HE.out]; exact hlt))
      have hll := dws_len d.b d.E j (by rw [HE.out]; exact hj)
      have hby : ((dws d.b d.E j).length + 2) * 4 ≤ 140737488355328 := by omega
      have HK2 := hid (fun w => HK.out w j)
      have hat : d.E.getD j En.zero = d.at j := rfl
      rw [hat] at HS
      clear hat
      generalize d.at j = D at *
      obtain ⟨ao, cc, hvf, _⟩ := HQ.out.form
      subst hvf
      clear hll hn64 hlt hj
      generalize dws d.b d.E j = LL at *
      generalize e0 D = a0 at *
      generalize e1 D = a1 at *
      generalize chk D = ck at *
      go_upto_region 6 with (first | (refine wpList_load_mid rfl 122 _ rfl p.ge (j * 5) (by go_simp) _ _ HRR.out underR rfl (by rw [sizeR]; rfl) ?_) | (go_at_call 99; refine (HK2.out _).mono ?_; rintro e w1 ⟨rfl, hb⟩; have HB1 := hid hb; clear hb) | (refine wpList_store_st rfl 178 _ _ rfl w1.heap.size [.int .u32 a0, .int .u32 a1] rfl rfl (Cel.new w1 178 [.int .u32 0, .int .u32 0]) sizeA rfl rfl ?_; intro w2 hc hb hs; have HC5 := hid hc; have HB2 := hid (new_below HB1.out hb); clear hc hb hs))
      have k0 := HC5.out.cell 0
      have k1 := HC5.out.cell 1
      simp only [List.getElem?_cons_zero, List.getElem?_cons_succ] at k0 k1
      generalize w1.heap.size = g5 at *
      have HQ2 := hid (HQ.out.on HB2.out)
      have HQ3 := hid (HQ2.out.on (below_one w2 (.cells #[.int .u32 a0, .int .u32 a1] 29)))
      clear c1
      go_wp2_with (at_builtin; refine wpList_append_w (W := W) rfl _ _ rfl (.slice ao LL.length cc) LL rfl HQ3.out ⟨w2.heap.size, 0, none⟩ 2 2 [a0, a1] rfl rfl (new_src2 _ a0 a1) hby ?_; intro v' w3 H3 _; obtain ⟨ao2, cc2, e9, _⟩ := H3.form; subst e9; have HN2 := hid H3; clear H3)
      go_roundw
      case measure => have := HJ.out; simp [intOf] <;> omega
      case rel => exact ⟨j + 1, HJ.out, by simp, by rw [HS.out]; have h9 := HN2.out; rw [List.length_append] at h9; exact hid h9⟩
    · have hjn : j = n := by omega
      subst hjn
      have c1 := HC.out _ (HW.out.on HQ.out.below)
      go_wp2_with fail
      go_ret
      refine ⟨_, rfl, ?_⟩
      have h9 := HQ.out
      rw [← HE.out, dws_all] at h9
      exact h9
end Go.Proofs.YtgbpbfnpeeciaaaGreat
namespace Go.Proofs.YtgbpbfnpeeciaaaGreat
open Go.RowKit
structure TP (W w : World) (p : Dp) (r q : Rp) (d e : DS) (L : List (Nat × TypeId × List Value)) : Prop where
  own : DB w p d
  doc : RDB w q e
  g : q.g = r.g
  but : ButL (p.all ++ r.all) W w
  sub : ∀ k ∈ q.all, k ∈ r.all ∨ W.heap.size ≤ k
  ap : ∀ k ∈ p.all, k ∉ q.all
  bag : ∀ x ∈ L, Cel w x.1 x.2.1 x.2.2
  bnew : ∀ x ∈ L, W.heap.size ≤ x.1
  boff : ∀ x ∈ L, x.1 ∉ q.all
  bown : ∀ x ∈ L, x.1 ∉ p.all
theorem TP.start {W : World} {p : Dp} {r : Rp} {d e : DS} (h : DB W p d) (h' : RDB W r e) (ha : ∀ k ∈ p.all, k ∉ r.all) : TP W W p r r d e [] :=
  ⟨h, h', rfl, .refl _ _, fun _ hk => .inl hk, ha, by simp, by simp, by simp, by simp⟩
theorem TP.on {W w w' : World} {p : Dp} {r q : Rp} {d e : DS} {L : List (Nat × TypeId × List Value)} (h : TP W w p r q d e L) (hb : Below w.heap.size w w') : TP W w' p r q d e L :=
  ⟨h.own.on hb, h.doc.on hb, h.g, h.but.on hb, h.sub, h.ap, fun x hx => (h.bag x hx).on hb, h.bnew, h.boff, h.bown⟩
theorem TP.box {W w : World} {p : Dp} {r q : Rp} {d e : DS} {L : List (Nat × TypeId × List Value)} (h : TP W w p r q d e L) (t : TypeId) (cs : List Value) : TP W (w.alloc (.cells cs.toArray t)) p r q d e ((w.heap.size, t, cs) :: L) := by
  have h1 := h.on (below_one w (.cells cs.toArray t))
  refine ⟨h1.own, h1.doc, h1.g, h1.but, h1.sub, h1.ap, fun x hx => ?_, fun x hx => ?_, fun x hx => ?_, fun x hx => ?_⟩
  · rcases List.mem_cons.1 hx with rfl | hx
    · exact Cel.new w t cs
    · exact h1.bag x hx
  · rcases List.mem_cons.1 hx with rfl | hx
    · exact h.but.size
    · exact h1.bnew x hx
  · rcases List.mem_cons.1 hx with rfl | hx
    · intro hm; exact Nat.lt_irrefl _ (h.doc.lt _ hm)
    · exact h1.boff x hx
  · rcases List.mem_cons.1 hx with rfl | hx
    · intro hm; exact Nat.lt_irrefl _ (h.own.lt _ hm)
    · exact h1.bown x hx
theorem TP.get {W w : World} {p : Dp} {r q : Rp} {d e : DS} {L : List (Nat × TypeId × List Value)} (h : TP W w p r q d e L) (k : Nat) {g : Nat} {t : TypeId} {cs : List Value} (hk : L[k]? = some (g, t, cs)) : Cel w g t cs := h.bag _ (List.mem_of_getElem? hk)
theorem TP.put {W w w' : World} {p : Dp} {r q : Rp} {d e : DS} {g : Nat} {t : TypeId} {cs es : List Value} {L : List (Nat × TypeId × List Value)} (h : TP W w p r q d e ((g, t, cs) :: L)) (hn : ∀ x ∈ L, x.1 ≠ g) (hc : Cel w' g t es) (hb : ButL [g] w w') : TP W w' p r q d e ((g, t, es) :: L) := by
  have hg := h.bnew (g, t, cs) (by simp)
  have hgo := h.bown (g, t, cs) (by simp)
  have hgq := h.boff (g, t, cs) (by simp)
  simp only at hg hgo hgq
  refine ⟨h.own.frame hb (fun k hk hm => ?_), h.doc.frame hb (fun k hk hm => ?_), h.g, h.but.trans_sub hb (fun k hk => ?_), h.sub, h.ap, fun x hx => ?_, fun x hx => ?_, fun x hx => ?_, fun x hx => ?_⟩
  · rw [List.mem_singleton] at hm; subst hm; exact hgo hk
  · rw [List.mem_singleton] at hm; subst hm; exact hgq hk
  · rw [List.mem_singleton] at hk; subst hk; exact .inr hg
  · rcases List.mem_cons.1 hx with rfl | hx
    · exact hc
    · exact (h.bag x (by simp [hx])).but hb (by rw [List.mem_singleton]; exact hn x hx)
  · rcases List.mem_cons.1 hx with rfl | hx
    · exact hg
    · exact h.bnew x (by simp [hx])
  · rcases List.mem_cons.1 hx with rfl | hx
    · exact hgq
    · exact h.boff x (by simp [hx])
  · rcases List.mem_cons.1 hx with rfl | hx
    · exact hgo
    · exact h.bown x (by simp [hx])
theorem TP.stepR {W w w' : World} {p : Dp} {r q q' : Rp} {d e e' : DS} {L : List (Nat × TypeId × List Value)} (h : TP W w p r q d e L) (hR : RG w w' q q' e') : TP W w' p r q' d e' L := by
  have hs := h.but.size
  refine ⟨h.own.frame hR.but (fun k hk => h.ap k hk), hR.db, hR.g.trans h.g, h.but.trans_sub hR.but (fun k hk => (h.sub k hk).imp (fun h => List.mem_append_right _ h) id), fun k hk => ?_, fun k hk hm => ?_, fun x hx => (h.bag x hx).but hR.but (h.boff x hx), h.bnew, fun x hx hm => ?_, h.bown⟩
  · rcases hR.sub k hk with hk | hk
    · exact h.sub k hk
    · exact .inr (Nat.le_trans hs hk)
  · rcases hR.sub k hm with hm | hm
    · exact h.ap k hk hm
    · have := h.own.lt k hk; omega
  · rcases hR.sub _ hm with hm | hm
    · exact h.boff x hx hm
    · have := (h.bag x hx).lt; omega
theorem TP.stepA {W w w' : World} {p : Dp} {r q : Rp} {d d' e : DS} {L : List (Nat × TypeId × List Value)} (h : TP W w p r q d e L) (hd : DB w' p d') (hb : ButL p.w w w') : TP W w' p r q d' e L :=
  ⟨hd, h.doc.frame hb (fun k hk hm => h.ap k (Dp.w_all hm) hk), h.g, h.but.trans_sub hb (fun _ hk => .inl (List.mem_append_left _ (Dp.w_all hk))), h.sub, h.ap, fun x hx => (h.bag x hx).but hb (fun hm => h.bown x hx (Dp.w_all hm)), h.bnew, h.boff, h.bown⟩
theorem TP.drop {W w : World} {p : Dp} {r q : Rp} {d e : DS} {L : List (Nat × TypeId × List Value)} (h : TP W w p r q d e L) : TP W w p r q d e [] :=
  ⟨h.own, h.doc, h.g, h.but, h.sub, h.ap, by simp, by simp, by simp, by simp⟩
theorem TP.pair {W w : World} {p : Dp} {r q : Rp} {d e : DS} {L : List (Nat × TypeId × List Value)} (h : TP W w p r q d e L) (k : Nat) {g : Nat} {t : TypeId} {a b : Value} (hk : L[k]? = some (g, t, [a, b])) : w.cell? ⟨g, 0, none⟩ = some a ∧ w.cell? ⟨g, 1, none⟩ = some b :=
  ⟨(h.get k hk).cell 0, (h.get k hk).cell 1⟩
theorem TP.op {W w : World} {p : Dp} {r q : Rp} {d e : DS} {L : List (Nat × TypeId × List Value)} (h : TP W w p r q d e L) (k : Nat) {g : Nat} {t : TypeId} {a0 a1 a2 a3 a4 a5 a6 a7 : Value} (hk : L[k]? = some (g, t, [a0, a1, a2, a3, a4, a5, a6, a7])) : w.cell? ⟨g, 0, none⟩ = some a0 ∧ w.cell? ⟨g, 1, none⟩ = some a1 ∧ w.cell? ⟨g, 2, none⟩ = some a2 ∧ w.cell? ⟨g, 3, none⟩ = some a3 ∧ w.cell? ⟨g, 4, none⟩ = some a4 ∧ w.cell? ⟨g, 5, none⟩ = some a5 ∧ w.cell? ⟨g, 6, none⟩ = some a6 ∧ w.cell? ⟨g, 7, none⟩ = some a7 :=
  ⟨(h.get k hk).cell 0, (h.get k hk).cell 1, (h.get k hk).cell 2, (h.get k hk).cell 3, (h.get k hk).cell 4, (h.get k hk).cell 5, (h.get k hk).cell 6, (h.get k hk).cell 7⟩
end Go.Proofs.YtgbpbfnpeeciaaaGreat
namespace Go.Proofs.YtgbpbfnpeeciaaaGreat
open Go.RowKit
set_option maxHeartbeats 4000000
set_option maxRecDepth 100000
theorem under78 : Tryz.prog.underlying 68 = some (.slice 122) := by kernel_rfl
theorem info124 : (Tryz.prog.info? 122).map (fun i => (i.zero, i.size, i.bytes)) = some (some En.zero.v, 5, 40) := by kernel_rfl
theorem ecs_snoc (E : List En) (x : En) : ecs (E ++ [x]) = ecs E ++ x.cs := by simp [ecs]
theorem cs_one (x : En) : ∀ u ∈ x.cs, u.oneCell' = true := by
  intro u hu
  simp only [En.cs, List.mem_cons, List.not_mem_nil, or_false] at hu
  rcases hu with rfl | rfl | rfl | rfl | rfl <;> rfl
theorem wpList_append_e {B : Nat} {w : World} {ops : Array Oper} {rest : List Oper} {o : Oper} {a : Act} {Q : Exit → Act → World → Prop} (hgd : o.guard = none) (s x : Operand)
    (ho : o.op = .call { callee := .builtin .append, args := #[s, x], argTypes := #[68, 68] }) (v : Value) (E : List En) (hs : a.eval s = v) (H : w.ownsRow B 122 5 v E.length (ecs E)) (hB : B ≤ w.heap.size) (ad : Addr) (c : Nat) (y : En) (hx : a.eval x = .slice (some ad) 1 c)
    (hsrc : ∀ j u, y.cs[j]? = some u → w.cell? (ad.add j) = some u) (hlen : E.length ≤ 1000)
    (h : ∀ v' w', w'.ownsRow B 122 5 v' (E ++ [y]).length (ecs (E ++ [y])) → w.grownBy w' v.ownBlock → wpList Tryz.prog ops Q rest (a.put o.dst v') w') : wpList Tryz.prog ops Q (o :: rest) a w := by
  obtain ⟨i, hi, hz, hsize, hby⟩ := info_parts info124
  obtain ⟨v', w', hr, h1, h2, _⟩ := run_append_own (P := Tryz.prog) w B 68 o.type 122 i En.zero.v 5 40 under78 hi hz hsize hby rfl (by decide) v E.length _ H ad 1 c y.cs rfl hsrc (cs_one y) (by unfold maxLen; omega) (by omega) hB
  have hH : w'.ownsRow B 122 5 v' (E ++ [y]).length (ecs (E ++ [y])) := by rw [List.length_append, ecs_snoc]; exact h1
  refine wpList_plain hgd fun K hK => ?_
  unfold Oper.wp execOp
  simp only [ho, resolve, invoke, builtin, Sem.run_bind, Sem.run_pure, Result.andThen_ok, List.map_toArray, List.map_cons, List.map_nil, hs, hx, hr]
  exact hK _ _ (h _ _ hH h2)
theorem own_blk {w : World} {B : Nat} {v : Value} {n : Nat} {L : List Value} (h : w.ownsRow B 122 5 v n L) {b : Nat} (hb : v.ownBlock = some b) : B ≤ b ∧ ∃ cur, w.heap[b]? = some (.cells cur 122 (0, 0)) := by
  rcases h.2 with ⟨hv, h0⟩ | ⟨g, cap, cur, hv, hB, hg, r⟩
  · rw [hv] at hb; cases hb
  · rw [hv] at hb
    have : g = b := by injection hb
    subst this
    exact ⟨hB, cur, hg⟩
theorem own_but {w w' : World} {B : Nat} {v : Value} {n : Nat} {L : List Value} {G : List Nat} (h : w.ownsRow B 122 5 v n L) (hb : ButL G w w') (hn : ∀ b cur, w.heap[b]? = some (.cells cur 122 (0, 0)) → B ≤ b → b ∉ G) : w'.ownsRow B 122 5 v n L :=
  ⟨h.1, h.2.imp id fun ⟨g, cap, cur, hv, hB, hg, r⟩ => ⟨g, cap, cur, hv, hB, (hb.block g (Array.getElem?_eq_some_iff.1 hg).1 (hn g cur hg hB)).trans hg, r⟩⟩
structure RN (W w : World) (r0 : Rf) (g : Nat) (v : Value) (r : Rf) (E : List En) (b : Int) (m : MS) : Prop where
  own : w.ownsRow W.heap.size 122 5 v E.length (ecs E)
  cel : Cel w g 70 [ptr r.g, v, .int .i64 b]
  hg : W.heap.size ≤ g
  mem : RMem w r m
  but : ButL r0.all W w
  sub : ∀ k ∈ r.all, k ∈ r0.all ∨ W.heap.size ≤ k
theorem RN.on {W w w' : World} {r0 r : Rf} {g : Nat} {v : Value} {E : List En} {b : Int} {m : MS} (h : RN W w r0 g v r E b m) (hb : Below w.heap.size w w') : RN W w' r0 g v r E b m :=
  ⟨own_but h.own (.of (G := []) hb) (by simp), h.cel.on hb, h.hg, h.mem.on hb, h.but.on hb, h.sub⟩
theorem off_cells {w : World} {r : Rf} {m : MS} (h : RMem w r m) {b : Nat} {cur : Array Value} {t : TypeId} (hc : w.heap[b]? = some (.cells cur t (0, 0))) (ht : t ≠ 114 ∧ t ≠ 102 ∧ t ≠ 29) : b ∉ r.all :=
  h.off (cs := cur.toList) (by show w.heap[b]? = _; rw [hc]) ht
theorem RN.st {W w w' : World} {r0 r r' : Rf} {g : Nat} {v : Value} {E : List En} {b : Int} {m m' : MS} (h : RN W w r0 g v r E b m) (hs : RSt w w' r r' m') : RN W w' r0 g v r' E b m' := by
  refine ⟨own_but h.own hs.but (fun b cur hc _ => off_cells h.mem hc (by decide)), ?_, h.hg, hs.mem, h.but.trans_sub hs.but h.sub, fun k hk => ?_⟩
  · rw [hs.g]; exact h.cel.but hs.but (h.mem.off h.cel (by decide))
  · rcases hs.sub k hk with hk | hk
    · exact h.sub k hk
    · exact .inr (Nat.le_trans h.but.size hk)
theorem RN.snoc {W w w' : World} {r0 r : Rf} {g : Nat} {v v' : Value} {E E' : List En} {b : Int} {m : MS} (h : RN W w r0 g v r E b m) (h2 : w'.ownsRow W.heap.size 122 5 v' E'.length (ecs E')) (hgr : w.grownBy w' v.ownBlock) :
    RN W (w'.setCell ⟨g, 1, none⟩ v') r0 g v' r E' b m ∧ w'.cell? ⟨g, 1, none⟩ = some v ∧ w'.frozen? ⟨g, 1, none⟩ = false := by
  obtain ⟨G, hG⟩ : ∃ G : List Nat, G = v.ownBlock.toList := ⟨_, rfl⟩
  have hbt : ButL G w w' := grown_but hgr (fun b hb => by rw [hG, hb]; simp)
  have hGe : ∀ k ∈ G, W.heap.size ≤ k ∧ ∃ cur, w.heap[k]? = some (.cells cur 122 (0, 0)) := fun k hk => by
    rw [hG, Option.mem_toList] at hk
    exact own_blk h.own hk
  have hgG : g ∉ G := fun hk => by
    obtain ⟨_, cur, hc⟩ := hGe g hk
    have hc' : Cel w g 122 cur.toList := by show w.heap[g]? = _; rw [hc]
    exact absurd (h.cel.ty hc') (by decide)
  have hrG : ∀ k ∈ r.all, k ∉ G := fun k hk hm => by
    obtain ⟨_, cur, hc⟩ := hGe k hm
    exact off_cells h.mem hc (by decide) hk
  have hcel := h.cel.but hbt hgG
  have hb1 : ButL [g] w' (w'.setCell ⟨g, 1, none⟩ v') := .setCell _ _ _ _ (by simp)
  have hmem := h.mem.frame hbt hrG
  refine ⟨⟨own_but h2 hb1 (fun k cur hc _ => ?_), hcel.setCell 1 v', h.hg, hmem.frame hb1 (fun k hk hm => ?_), (h.but.trans_sub hbt (fun k hk => .inr (hGe k hk).1)).trans_sub hb1 (fun k hk => ?_), h.sub⟩, hcel.cell 1, hcel.free 1⟩
  · intro hm
    rw [List.mem_singleton] at hm
    subst hm
    have hc' : Cel w' k 122 cur.toList := by show w'.heap[k]? = _; rw [hc]
    exact absurd (hcel.ty hc') (by decide)
  · rw [List.mem_singleton] at hm
    subst hm
    exact hmem.off hcel (by decide) hk
  · rw [List.mem_singleton] at hk
    subst hk
    exact .inr h.hg
theorem RN.done {W w : World} {r0 r : Rf} {g : Nat} {v : Value} {E : List En} {b : Int} {m : MS} (h : RN W w r0 g v r E b m) (hn : 0 < m.ns) (hl : E.length = m.ns) (hk : DS.Ok ⟨m, b, E⟩) :
    ∃ ge cap, RDB w ⟨g, ge, cap, r⟩ ⟨m, b, E⟩ ∧ W.heap.size ≤ ge := by
  rcases h.own.2 with ⟨hv, h0⟩ | ⟨ge, cap, cur, hv, hB, hg, hle, hm, hsz, ht⟩
  · omega
  · refine ⟨ge, cap, ⟨h.mem, ?_, ⟨cur.toList.drop (E.length * 5), ?_⟩, hk⟩, hB⟩
    · have := h.cel
      rw [hv, hl] at this
      exact this
    · show w.heap[ge]? = _
      rw [hg]
      show some (Obj.cells cur 122 (0, 0)) = some (.cells (ecs E ++ cur.toList.drop (E.length * 5)).toArray 122 (0, 0))
      rw [← ht, List.take_append_drop]
end Go.Proofs.YtgbpbfnpeeciaaaGreat
namespace Go.Proofs.YtgbpbfnpeeciaaaGreat
open Go.RowKit
set_option maxHeartbeats 4000000
set_option maxRecDepth 100000
theorem rsecure_g (w : World) (r : Rf) (m : MS) (h : RMem w r m) (g : Nat) (hg : r.g = g) : Calls Tryz.prog 56 #[.pointer (some ⟨g, 0, none⟩)] w fun x w' => x = .returned (.int .i64 (m.ns : Int)) ∧ w' = w := by
  subst hg
  exact rsecure_any w r m h
theorem rzero_g (w : World) (r : Rf) (m : MS) (h : RMem w r m) (g : Nat) (hg : r.g = g) (s : Bool) (p : Int) : Calls Tryz.prog 57 #[.pointer (some ⟨g, 0, none⟩), fr s p] w fun x w' => x = .returned (.int .i64 (m.perr s p)) ∧ ∃ r', RSt w w' r r' (m.zero s p) := by
  subst hg
  exact rzero_any w r m h s p
theorem own_form5 {w : World} {B : Nat} {v : Value} {n : Nat} {L : List Value} (h : w.ownsRow B 122 5 v n L) : ∃ ao c, v = .slice ao n c := by
  rcases h.2 with ⟨hv, h0⟩ | ⟨g, cap, cur, hv, r⟩
  · exact ⟨none, 0, by rw [hv, h0]⟩
  · exact ⟨_, cap, hv⟩
structure NewD (W w : World) (r : Rf) (p : Rp) (d : DS) : Prop where
  db : RDB w p d
  g : W.heap.size ≤ p.g
  ge : W.heap.size ≤ p.ge
  rg : p.r.g = r.g
  but : ButL r.all W w
  sub : ∀ k ∈ p.r.all, k ∈ r.all ∨ W.heap.size ≤ k
theorem rnewDB_any (W : World) (r : Rf) (m : MS) (h : RMem W r m) (h64 : m.ns ≤ 64) (h0 : 0 < m.ns) :
    Calls Tryz.prog 12 #[ptr r.g] W fun e W' => ∃ p, e = .returned (ptr p.g) ∧ NewD W W' r p (DS.fresh m) := by
  have HS0 : Hid (RN W (W.alloc (.cells #[.pointer (some ⟨r.g, 0, none⟩), .slice none 0 0, .int .i64 0] 70)) r W.heap.size (.slice none 0 0) r [] 0 m) := hid
    ⟨World.ownsRow_nil _ _ _ _, Cel.new W 70 [.pointer (some ⟨r.g, 0, none⟩), .slice none 0 0, .int .i64 0], Nat.le_refl _, h.on (below_one _ _), .of (below_one _ _), fun k hk => .inl hk⟩
  have HN : Hid (m.ns ≤ 64) := hid h64
  have HZ0 : Hid (0 < m.ns) := hid h0
  have HZN : Hid (∀ k, (m.zall k).ns = m.ns) := hid (fun k => m.zall_ns k)
  have HFr := hid (fun w (p : Int) => rframe_any w p)
  clear h h64 h0
  simp only [ptr] at *
  go_enter Tryz.func12, Tryz.ntmps12
  go_wp2_with fail
  generalize W.alloc _ = X at *
  have HG : Hid (W.heap.size = W.heap.size) := hid rfl
  generalize hg : W.heap.size = g at *
  have HGG := hid hg
  clear hg HG
  go_loopw [4] (fun i wr => ∃ (j : Nat) (v : Value) (r' : Rf), j ≤ m.ns ∧ i = .int .i64 (j : Int) ∧ Hid (RN W wr r g v r' (List.replicate j En.zero) 0 (m.zall j) ∧ r'.g = r.g)) (fun i _ => m.ns - (intOf i).toNat)
  case atStart => exact ⟨0, _, r, Nat.zero_le _, rfl, hid ⟨HS0.out, rfl⟩⟩
  case round =>
    obtain ⟨j, v, r', hj, rfl, HQ⟩ := hrel
    clear HS0
    have HSc := hid (rsecure_g _ _ _ HQ.out.1.mem r.g HQ.out.2)
    rw [HZN.out] at HSc
    by_cases hlt : j < m.ns
    · have q1 : (j : Int) < (m.ns : Int) := by omega
      have HJ := hid hlt
      have hn64 := HN.out
      have j64 : (j : Int) ≤ 64 := by omega
      have j1000 : (List.replicate j En.zero).length ≤ 1000 := by rw [List.length_replicate]; omega
      have HR : Hid (List.replicate j En.zero ++ [En.zero] = List.replicate (j + 1) En.zero) := hid (by rw [List.replicate_succ'])
      have HM : Hid ((m.zall j).zero true (j : Int) = m.zall (j + 1)) := hid rfl
      clear hn64 hlt hj
      obtain ⟨m2, hm2⟩ : ∃ m2, m2 = m.zall (j + 1) := ⟨_, rfl⟩
      obtain ⟨E2, hE2⟩ : ∃ E2, E2 = List.replicate (j + 1) En.zero := ⟨_, rfl⟩
      rw [← hm2] at HM
      rw [← hE2] at HR
      have HME := hid (And.intro hm2 hE2)
      clear hm2 hE2
      generalize m.zall j = m1 at *
      generalize List.replicate j En.zero = E1 at *
      go_upto_region 8 with (first | (go_at_call 56; refine HSc.out.mono ?_; rintro e w0 ⟨rfl, rfl⟩) | (go_at_call 58; refine (HFr.out _ _).mono ?_; rintro e w1 ⟨rfl, hb⟩; have HQ1 := hid (And.intro (HQ.out.1.on hb) HQ.out.2); clear hb) | (go_at_call 57; refine (rzero_g _ _ _ HQ1.out.1.mem r.g HQ1.out.2 true (j : Int)).mono ?_; rintro e w2 ⟨rfl, r2, hs⟩; have HQ2 := hid (And.intro (HQ1.out.1.st hs) (hs.g.trans HQ1.out.2)); clear hs))
      rw [HM.out] at HQ2
      have y0 := HQ2.out.1.cel.cell 1
      simp only [List.getElem?_cons_zero, List.getElem?_cons_succ] at y0
      have HQ3 := hid (HQ2.out.1.on (below_one w2 (.cells En.zero.cs.toArray 122)))
      have HGR := hid HQ2.out.2
      have hfm := own_form5 HQ2.out.1.own
      obtain ⟨ao, cc, rfl⟩ := hfm
      have HBB := hid HQ3.out.but.size
      clear HQ2
      go_wp2_with (first | (refine wpList_build_zR rfl rfl ?_) | (at_builtin; refine wpList_append_e (B := W.heap.size) rfl _ _ rfl (.slice ao E1.length cc) E1 rfl HQ3.out.own HBB.out ⟨w2.heap.size, 0, none⟩ 1 En.zero rfl (Cel.new w2 122 En.zero.cs).src j1000 ?_; intro v' w3 h3 hgr; rw [HR.out] at h3; obtain ⟨ao9, cc9, rfl⟩ := own_form5 h3; obtain ⟨hq4, y1, y2⟩ := HQ3.out.snoc h3 hgr; have HQ4 := hid hq4; clear hq4 h3 hgr))
      go_roundw
      case measure => have := HJ.out; simp [intOf] <;> omega
      case rel => exact ⟨j + 1, _, _, HJ.out, by simp, hid ⟨by rw [← HME.out.1, ← HME.out.2]; exact HQ4.out, HGR.out⟩⟩
    · have hjn : j = m.ns := by omega
      subst hjn
      go_wp2_with (go_at_call 56; refine HSc.out.mono ?_; rintro e w0 ⟨rfl, rfl⟩)
      go_ret
      obtain ⟨ge, cap, hdb, hge⟩ := HQ.out.1.done (by rw [HZN.out]; exact HZ0.out) (by rw [HZN.out, List.length_replicate]) (zed_ok m m.ns HN.out)
      exact ⟨⟨g, ge, cap, r'⟩, rfl, hdb, HQ.out.1.hg, hge, HQ.out.2, HQ.out.1.but, HQ.out.1.sub⟩
end Go.Proofs.YtgbpbfnpeeciaaaGreat
