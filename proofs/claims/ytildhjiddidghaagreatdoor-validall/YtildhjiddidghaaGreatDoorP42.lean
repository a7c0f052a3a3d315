import Derived.Test.YtildhjiddidghaaGreatDoorP33
import Derived.Test.YtildhjiddidghaaGreatDoorP40
import Derived.Test.YtildhjiddidghaaGreatDoorP41
import Derived.Test.YtildhjiddidghaaGreatDoorP37
namespace Go.Proofs.YtildhjiddidghaaGreatDoor
open Go.RowKit
set_option maxHeartbeats 4000000
set_option maxRecDepth 100000
theorem Hl.one (W : World) (x : Int) : Hl W (W.alloc (.cells #[.int .u32 x] 22)) (.slice (some ⟨W.heap.size, 0, none⟩) 1 1) [x] :=
  ⟨⟨rfl, .inr ⟨W.heap.size, 1, #[.int .u32 x], rfl, Nat.le_refl _, heap_alloc_new _ _, Nat.le_refl _, by unfold maxLen; decide, rfl, rfl⟩⟩, below_one _ _⟩
def dws (b : Int) (E : List En) (j : Nat) : List Int := b :: (E.take j).flatMap ew
theorem dws_succ (b : Int) (E : List En) (j : Nat) (h : j < E.length) : dws b E (j + 1) = dws b E j ++ [e0 (E.getD j En.zero), e1 (E.getD j En.zero)] := by
  have e : E.take (j + 1) = E.take j ++ [E.getD j En.zero] := by
    rw [List.take_add_one, List.getD_eq_getElem?_getD]
    simp [h]
  simp [dws, e, ew]
theorem dws_len (b : Int) (E : List En) (j : Nat) (h : j ≤ E.length) : (dws b E j).length = 1 + 2 * j := by
  rw [dws, List.length_cons, flat_len, List.length_take]
  omega
theorem dws_all (b : Int) (E : List En) : dws b E E.length = wdsOf b E := by simp [dws, wdsOf]
theorem new_src2 (w : World) (x y : Int) : ∀ j u, (u32s [x, y])[j]? = some u → (w.alloc (.cells #[.int .u32 x, .int .u32 y] 22)).cell? ((⟨w.heap.size, 0, none⟩ : Addr).add j) = some u := (Cel.new w 22 (u32s [x, y])).src
theorem rwords_any (W : World) (p : Rp) (d : DS) (h : RDB W p d) :
    Calls Tryz.prog 82 #[ptr p.g] W fun x W' => ∃ v, x = .returned v ∧ Hl W W' v d.ws := by
  have c1 := h.c2
  have HW := hid h
  have HN : Hid (d.m.ns ≤ 64) := hid h.ok.n64
  have HE : Hid (d.E.length = d.m.ns) := hid h.ok.len
  have HR := hid (fun w (hw : RDB w p d) k hk => And.intro hw.c1 (hw.rng k hk))
  have HC := hid (fun w (hw : RDB w p d) => hw.c1)
  have HK := hid (fun w k => rencode_any w (d.at k))
  have wb : d.b % 4294967296 = d.b := by have := h.ok.b0; have := h.ok.b1; omega
  have HS0 := hid (Hl.one W d.b)
  clear h
  generalize d.m.ns = n at *
  simp only [ptr, En.v, twoV, two] at *
  go_enter Tryz.func82, Tryz.ntmps82
  go_wp2_with fail
  generalize W.alloc _ = X at *
  have HL0 : Hid (Hl W X (.slice (some ⟨W.heap.size, 0, none⟩) 1 1) (dws d.b d.E 0)) := HS0
  clear HS0 c1
  go_loopw [3, 4] (fun l i wr => ∃ j : Nat, j ≤ n ∧ i = .int .i64 (j : Int) ∧ Hid (Hl W wr l (dws d.b d.E j))) (fun _ i _ => n - (intOf i).toNat)
  case atStart => exact ⟨0, Nat.zero_le _, rfl, HL0⟩
  case round =>
    obtain ⟨j, hj, rfl, HQ⟩ := hrel
    clear HL0
    by_cases hlt : j < n
    · have q1 : (j : Int) < (n : Int) := by omega
      have HRW := hid (HW.out.on HQ.out.below)
      have c1 := HC.out _ HRW.out
      have HRR := hid (HR.out _ HRW.out j hlt).2
      have HJ := hid hlt
      have hn64 := HN.out
      have j64 : (j : Int) ≤ 64 := by omega
      have HS := hid (dws_succ d.b d.E j (by rw [HE.out]; exact hlt))
      have hll := dws_len d.b d.E j (by rw [HE.out]; exact hj)
      have hby : ((dws d.b d.E j).length + 2) * 4 ≤ 140737488355328 := by omega
      have HK2 := hid (fun w => HK.out w j)
      have hat : d.E.getD j En.zero = d.at j := rfl
      rw [hat] at HS
      clear hat
      generalize d.at j = D at *
      obtain ⟨ao, cc, hvf, _⟩ := HQ.out.form
      subst hvf
      clear hll hn64 hlt hj
      generalize dws d.b d.E j = LL at *
      generalize e0 D = a0 at *
      generalize e1 D = a1 at *
      generalize chk D = ck at *
      go_upto_region 6 with (first | (refine wpList_load_mid rfl 121 _ rfl p.ge (j * 5) (by go_simp) _ _ HRR.out underR rfl (by rw [sizeR]; rfl) ?_) | (go_at_call 121; refine (HK2.out _).mono ?_; rintro e w1 ⟨rfl, hb⟩; have HB1 := hid hb; clear hb) | (refine wpList_store_st rfl 158 _ _ rfl w1.heap.size [.int .u32 a0, .int .u32 a1] rfl rfl (Cel.new w1 158 [.int .u32 0, .int .u32 0]) sizeA rfl rfl ?_; intro w2 hc hb hs; have HC5 := hid hc; have HB2 := hid (new_below HB1.out hb); clear hc hb hs))
      have k0 := HC5.out.cell 0
      have k1 := HC5.out.cell 1
      simp only [List.getElem?_cons_zero, List.getElem?_cons_succ] at k0 k1
      generalize w1.heap.size = g5 at *
      have HQ2 := hid (HQ.out.on HB2.out)
      have HQ3 := hid (HQ2.out.on (below_one w2 (.cells #[.int .u32 a0, .int .u32 a1] 22)))
      clear c1
      go_wp2_with (at_builtin; refine wpList_append_w (W := W) rfl _ _ rfl (.slice ao LL.length cc) LL rfl HQ3.out ⟨w2.heap.size, 0, none⟩ 2 2 [a0, a1] rfl rfl (new_src2 _ a0 a1) hby ?_; intro v' w3 H3 _; obtain ⟨ao2, cc2, e9, _⟩ := H3.form; subst e9; have HN2 := hid H3; clear H3)
      go_roundw
      case measure => have := HJ.out; simp [intOf] <;> omega
      case rel => exact ⟨j + 1, HJ.out, by simp, by rw [HS.out]; have h9 := HN2.out; rw [List.length_append] at h9; exact hid h9⟩
    · have hjn : j = n := by omega
      subst hjn
      have c1 := HC.out _ (HW.out.on HQ.out.below)
      go_wp2_with fail
      go_ret
      refine ⟨_, rfl, ?_⟩
      have h9 := HQ.out
      rw [← HE.out, dws_all] at h9
      exact h9
end Go.Proofs.YtildhjiddidghaaGreatDoor
namespace Go.Proofs.YtildhjiddidghaaGreatDoor
open Go.RowKit
set_option maxHeartbeats 4000000
set_option maxRecDepth 100000
theorem own_st {x : World} {B : Nat} {e : TypeId} {g n cap : Nat} {C : List Value} (h : x.ownsRow B e 1 (.slice (some ⟨g, 0, none⟩) n cap) n C) (j : Nat) (y : Value) :
    (x.setCell ⟨g, j, none⟩ y).ownsRow B e 1 (.slice (some ⟨g, 0, none⟩) n cap) n (C.set j y) := by
  obtain ⟨h1, h2⟩ := h
  refine ⟨by rw [List.length_set]; exact h1, ?_⟩
  rcases h2 with ⟨hn, _⟩ | ⟨g', cap', cur, hn, hb, h2, h3, h4, h5, h6⟩
  · cases hn
  · cases hn
    refine .inr ⟨g, cap, cur.setIfInBounds j y, rfl, hb, heap_setCell_same x g j _ e _ h2, h3, h4, ?_, ?_⟩
    · rw [Array.size_setIfInBounds]; exact h5
    · rw [← h6, Array.toList_setIfInBounds, List.take_set]
theorem own_but9 {x x' : World} {B : Nat} {e : TypeId} {g n cap : Nat} {C : List Value} {G : List Nat} (h : x.ownsRow B e 1 (.slice (some ⟨g, 0, none⟩) n cap) n C) (hb : ButL G x x') (hg : g ∉ G) : x'.ownsRow B e 1 (.slice (some ⟨g, 0, none⟩) n cap) n C :=
  ⟨h.1, h.2.imp id fun ⟨g', cap', cur, hv, hB, hh, r⟩ => ⟨g', cap', cur, hv, hB, by cases hv; exact (hb.block g (Array.getElem?_eq_some_iff.1 hh).1 hg).trans hh, r⟩⟩
theorem SS.but {W w w' : World} {g : Nat} {p : Dp} {r : Rp} {d e : DS} (h : SS W w g p r d e) {b : Nat} (hp : b ∉ p.all) (hr : b ∉ r.all) (hg : g ≠ b) (hB : W.heap.size ≤ b) (hb : ButL [b] w w') : SS W w' g p r d e :=
  ⟨h.own.frame hb (fun k hk hm => by rw [List.mem_singleton] at hm; exact hp (hm ▸ hk)), h.doc.frame hb (fun k hk hm => by rw [List.mem_singleton] at hm; exact hr (hm ▸ hk)), h.ap, h.cel.but hb (by rw [List.mem_singleton]; exact hg), h.ng, h.np, h.nr, h.bl.trans (hb.below (B := W.heap.size) (by simpa using hB) h.bl.size)⟩
structure L9 (W x : World) (g : Nat) (p : Dp) (r : Rp) (d : DS) (g3 : Nat) (cs : List Value) (gn go N co : Nat) (A B : List Int) : Prop where
  ss : SS W x g p r d d
  b3 : Cel x g3 42 cs
  cn : Cel x gn 22 (u32s A)
  ro : x.ownsRow W.heap.size 22 1 (.slice (some ⟨go, 0, none⟩) N co) N (u32s B)
  n1 : gn ∉ p.all
  n2 : gn ∉ r.all
  n3 : W.heap.size ≤ gn
  o1 : go ∉ p.all
  o2 : go ∉ r.all
  ne : gn ≠ go
theorem L9.on {W x x' : World} {g : Nat} {p : Dp} {r : Rp} {d : DS} {g3 : Nat} {cs : List Value} {gn go N co : Nat} {A B : List Int} (h : L9 W x g p r d g3 cs gn go N co A B) (hb : Below x.heap.size x x') : L9 W x' g p r d g3 cs gn go N co A B :=
  ⟨h.ss.on hb, h.b3.on hb, h.cn.on hb, own_but9 (G := []) h.ro (.of hb) (by simp), h.n1, h.n2, h.n3, h.o1, h.o2, h.ne⟩
theorem L9.co {W x : World} {g : Nat} {p : Dp} {r : Rp} {d : DS} {g3 : Nat} {cs : List Value} {gn go N co : Nat} {A B : List Int} (h : L9 W x g p r d g3 cs gn go N co A B) : ∃ cur, Cel x go 22 cur := by
  rcases h.ro.2 with ⟨hn, _⟩ | ⟨g', cap, cur, hn, _, hg, _⟩
  · cases hn
  · cases hn; exact ⟨cur.toList, by show x.heap[go]? = _; rw [hg]⟩
theorem L9.setN {W x : World} {g : Nat} {p : Dp} {r : Rp} {d : DS} {g3 : Nat} {cs : List Value} {gn go N co : Nat} {A B : List Int} (h : L9 W x g p r d g3 cs gn go N co A B) (j : Nat) (v : Int) : L9 W (x.setCell ⟨gn, j, none⟩ (.int .u32 v)) g p r d g3 cs gn go N co (A.set j v) B := by
  have hb : ButL [gn] x (x.setCell ⟨gn, j, none⟩ (.int .u32 v)) := .setCell x gn j _ (by simp)
  have e3 : g3 ≠ gn := fun e => by subst e; exact absurd (h.b3.ty h.cn) (by decide)
  have eg : g ≠ gn := fun e => by subst e; exact absurd (h.ss.cel.ty h.cn) (by decide)
  refine ⟨h.ss.but h.n1 h.n2 eg h.n3 hb, h.b3.but hb (by rw [List.mem_singleton]; exact e3), ?_, own_but9 h.ro hb (by rw [List.mem_singleton]; exact h.ne.symm), h.n1, h.n2, h.n3, h.o1, h.o2, h.ne⟩
  have := h.cn.setCell j (.int .u32 v)
  rw [u32s_set] at this
  exact this
theorem L9.setO {W x : World} {g : Nat} {p : Dp} {r : Rp} {d : DS} {g3 : Nat} {cs : List Value} {gn go N co : Nat} {A B : List Int} (h : L9 W x g p r d g3 cs gn go N co A B) (j : Nat) (v : Int) : L9 W (x.setCell ⟨go, j, none⟩ (.int .u32 v)) g p r d g3 cs gn go N co A (B.set j v) := by
  have hb : ButL [go] x (x.setCell ⟨go, j, none⟩ (.int .u32 v)) := .setCell x go j _ (by simp)
  obtain ⟨cur, hc⟩ := h.co
  have e3 : g3 ≠ go := fun e => by subst e; exact absurd (h.b3.ty hc) (by decide)
  have eg : g ≠ go := fun e => by subst e; exact absurd (h.ss.cel.ty hc) (by decide)
  refine ⟨h.ss.but h.o1 h.o2 eg (h.ro.lt go rfl).1 hb, h.b3.but hb (by rw [List.mem_singleton]; exact e3), h.cn.but hb (by rw [List.mem_singleton]; exact h.ne), ?_, h.n1, h.n2, h.n3, h.o1, h.o2, h.ne⟩
  have := own_st h.ro j (.int .u32 v)
  rw [u32s_set] at this
  exact this
theorem L9.wn {W x : World} {g : Nat} {p : Dp} {r : Rp} {d : DS} {g3 : Nat} {cs : List Value} {gn go N co : Nat} {A B : List Int} (h : L9 W x g p r d g3 cs gn go N co A B) (hl : A.length = N) (hr : ∀ y ∈ A, 0 ≤ y ∧ y < 4294967296) : WL x (some ⟨gn, 0, none⟩) N A :=
  ⟨hl, hr, fun _ => ⟨gn, 0, rfl, h.cn.range, h.cn.lt⟩⟩
theorem L9.wo {W x : World} {g : Nat} {p : Dp} {r : Rp} {d : DS} {g3 : Nat} {cs : List Value} {gn go N co : Nat} {A B : List Int} (h : L9 W x g p r d g3 cs gn go N co A B) (hl : B.length = N) (hr : ∀ y ∈ B, 0 ≤ y ∧ y < 4294967296) : WL x (some ⟨go, 0, none⟩) N B :=
  ⟨hl, hr, fun _ => ⟨go, 0, rfl, fun j u hu => by
    have := h.ro.cells (g := go) rfl j u hu
    rw [Addr.add_mid, Nat.zero_add] at this
    rw [Nat.zero_add]; exact this, (h.ro.lt go rfl).2⟩⟩
def ldK (a : Int) (N : Nat) : Nat := (a % (N : Int)).toNat
def DS.lds (d : DS) (a v : Int) : DS := if ldok d.m.ns (d.ws.set (ldK a (1 + 2 * d.m.ns)) v) = true then DS.load d.m (d.ws.set (ldK a (1 + 2 * d.m.ns)) v) else d
theorem lds_m (d : DS) (a v : Int) : (d.lds a v).m = d.m := by unfold DS.lds; split <;> rfl
theorem SS.turn2 {W w w' w2 : World} {g : Nat} {p : Dp} {r q : Rp} {d d' : DS} {g2 gw2 : Nat} (h : SS W w g p r d d) (hd : DB w' ⟨g2, gw2, p.f⟩ d') (hg : w.heap.size ≤ g2) (hgw : w.heap.size ≤ gw2) (hb1 : Below w.heap.size w w') (hq : q.r = r.r) (hR : RDB w2 q d') (hqg : w'.heap.size ≤ q.g) (hqe : w'.heap.size ≤ q.ge) (hb2 : Below w'.heap.size w' w2) :
    SS W ((w2.setCell ⟨g, 1, none⟩ (.pointer (some ⟨g2, 0, none⟩))).setCell ⟨g, 2, none⟩ (.pointer (some ⟨q.g, 0, none⟩))) g ⟨g2, gw2, p.f⟩ q d' d' := by
  have hs1 := hb1.size
  have hs2 := hb2.size
  have hsw := h.bl.size
  have hgl := h.cel.lt
  have hbt : ButL [g] w2 ((w2.setCell ⟨g, 1, none⟩ (.pointer (some ⟨g2, 0, none⟩))).setCell ⟨g, 2, none⟩ (.pointer (some ⟨q.g, 0, none⟩))) := (ButL.setCell w2 g 1 _ (by simp)).trans (ButL.setCell _ g 2 _ (by simp))
  have offp : ∀ k ∈ (⟨g2, gw2, p.f⟩ : Dp).all, k ≠ g := fun k hk => by
    simp only [Dp.all, List.mem_cons] at hk
    rcases hk with rfl | rfl | hk
    · omega
    · omega
    · exact fun e => h.offp (by subst e; simp [Dp.all, hk])
  have offq : ∀ k ∈ q.all, k ≠ g := fun k hk => by
    simp only [Rp.all, List.mem_cons] at hk
    rcases hk with rfl | rfl | hk
    · omega
    · omega
    · rw [hq] at hk
      exact fun e => h.offr (by subst e; simp [Rp.all, hk])
  have hc2 := ((h.cel.on hb1).on hb2)
  have c1 := hc2.setCell 1 (.pointer (some ⟨g2, 0, none⟩))
  have c2 := c1.setCell 2 (.pointer (some ⟨q.g, 0, none⟩))
  refine ⟨(hd.on hb2).frame hbt (fun k hk hm => by rw [List.mem_singleton] at hm; exact offp k hk hm), hR.frame hbt (fun k hk hm => by rw [List.mem_singleton] at hm; exact offq k hk hm), fun k hk hm => ?_, c2, h.ng, fun k hk => ?_, fun k hk => ?_, (below_on (below_on h.bl hb1) hb2).trans (hbt.below (B := W.heap.size) (by simpa using h.ng) (by omega))⟩
  · have l1 := hd.lt k hk
    simp only [Rp.all, List.mem_cons] at hm
    rcases hm with rfl | rfl | hm
    · omega
    · omega
    · rw [hq] at hm
      have l2 := h.doc.lt k (by simp [Rp.all, hm])
      simp only [Dp.all, List.mem_cons] at hk
      rcases hk with rfl | rfl | hk
      · omega
      · omega
      · exact h.ap k (by simp [Dp.all, hk]) (by simp [Rp.all, hm])
  · simp only [Dp.all, List.mem_cons] at hk
    rcases hk with rfl | rfl | hk
    · omega
    · omega
    · exact h.np k (by simp [Dp.all, hk])
  · simp only [Rp.all, List.mem_cons] at hk
    rcases hk with rfl | rfl | hk
    · omega
    · omega
    · rw [hq] at hk; exact h.nr k (by simp [Rp.all, hk])
theorem loads_l (W w : World) (g : Nat) (p : Dp) (r : Rp) (d : DS) (h : SS W w g p r d d) (h0 : 0 < d.m.ns) (k a b c v : Int) (v0 : 0 ≤ v) (v1 : v < 4294967296) (u : Value) :
    Calls Tryz.prog 44 #[.pointer (some ⟨g, 0, none⟩), .agg #[.int .i64 k, .int .i64 a, .int .i64 b, .int .i64 c, .int .u32 v, u]] w fun e w' => e = .returned (.bool true) ∧ ∃ p' q, SS W w' g p' q (d.lds a v) (d.lds a v) := by
  have hok := h.own.ok
  have HWd := hid (fun w (h : DB w p d) => words_any w p d h)
  have HRw := hid (fun w (h : RDB w r d) => rwords_any w r d h)
  have HLd := hid (fun w ao c L (hm : Mem w p.f d.m) (hl : WL w ao (1 + 2 * d.m.ns) L) => load_any w p.f d.m hm hok.n64 ao _ c L hl)
  have HRl := hid (fun w ao c L (hm : RMem w r.r d.m) (hl : WL w ao (1 + 2 * d.m.ns) L) => rload_any w r.r d.m hm hok.n64 h0 ao _ c L hl)
  have HNm := hid (fun w x => num_l w x)
  have X0 : Hid (SX W (w.alloc (.cells #[.int .i64 k, .int .i64 a, .int .i64 b, .int .i64 c, .int .u32 v, u] 42)) g p r d d w.heap.size [.int .i64 k, .int .i64 a, .int .i64 b, .int .i64 c, .int .u32 v, u]) := hid ⟨h.on (below_one _ _), Cel.new w 42 [.int .i64 k, .int .i64 a, .int .i64 b, .int .i64 c, .int .u32 v, u]⟩
  have HLs := hid (DS.ws_len hok)
  have HRg : Hid (∀ y ∈ d.ws.set (ldK a (1 + 2 * d.m.ns)) v, 0 ≤ y ∧ y < 4294967296) := hid (fun y hy => by
    rcases List.mem_or_eq_of_mem_set hy with hy | rfl
    · exact ws_range hok.b0 hok.b1 d.E y hy
    · exact ⟨v0, v1⟩)
  have n64 := hok.n64
  unfold DS.lds
  clear h v0 v1 hok
  generalize hN : 1 + 2 * d.m.ns = N at *
  have N1 : (3 : Int) ≤ (N : Int) := by omega
  have N2 : (N : Int) ≤ 1000 := by omega
  have hr1 := Int.emod_lt_of_pos a (show (0 : Int) < (N : Int) by omega)
  have hr0 := Int.emod_nonneg a (show (N : Int) ≠ 0 by omega)
  have t1 := Int.tmod_lt_of_pos a (show (0 : Int) < (N : Int) by omega)
  have t2 : -(N : Int) < a.tmod (N : Int) := by
    have := Int.lt_tmod_of_pos a (show (0 : Int) < (N : Int) by omega)
    omega
  have t3 : (a.tmod (N : Int) + (N : Int)).tmod (N : Int) = a % (N : Int) := by
    rw [Int.tmod_eq_emod_of_nonneg (by omega), Int.add_emod_right]
    rw [Int.emod_eq_emod_iff_emod_sub_eq_zero]
    have := Int.mul_tdiv_add_tmod a (N : Int)
    exact Int.emod_eq_zero_of_dvd ⟨-(a.tdiv (N : Int)), by rw [Int.mul_neg]; omega⟩
  have t4 : IntKind.wrap .i64 (a.tmod (N : Int) + (N : Int)) = a.tmod (N : Int) + (N : Int) := wr64 _ (by omega) (by omega)
  have HKK : Hid (a % (N : Int) = ((ldK a N : Nat) : Int) ∧ ldK a N < N) := hid (by unfold ldK; omega)
  rw [HKK.out.1] at t3 hr0 hr1
  generalize ldK a N = KK at *
  have HN := hid (And.intro hN (And.intro h0 n64))
  clear hN h0 n64 hr0
  simp only [ptr] at *
  generalize hx : a.tmod (N : Int) = x at *
  obtain ⟨D', hD'⟩ : ∃ D', (if ldok d.m.ns (d.ws.set KK v) = true then DS.load d.m (d.ws.set KK v) else d) = D' := ⟨_, rfl⟩
  rw [hD']
  have HD' := hid hD'
  clear hD'
  go_enter Tryz.func44, Tryz.ntmps44
  go_upto_region 1 with fail
  generalize World.alloc _ _ = X at *
  generalize w.heap.size = g3 at *
  obtain ⟨x0, x1, x2⟩ := X0.out.ss.c
  go_upto_region 2 with (go_at_call 46; refine (HWd.out _ X0.out.ss.own).mono ?_; rintro e w1 ⟨gn, rfl, hcn, hgn, hb1⟩; have X1 := hid (X0.out.on hb1); have CN := hid hcn; have GN := hid hgn; clear hcn hb1)
  clear x0 x1 x2
  obtain ⟨x0, x1, x2⟩ := X1.out.ss.c
  go_upto_region 3 with (go_at_call 82; refine (HRw.out _ X1.out.ss.doc).mono ?_; rintro e w2 ⟨v6, rfl, hl⟩; have X2 := hid (X1.out.on hl.below); have CN2 := hid (CN.out.on hl.below); have RO := hid hl; clear hl)
  obtain ⟨oo, co, hv6, hgo⟩ := RO.out.form
  rw [HLs.out] at hv6 hgo
  subst hv6
  obtain ⟨go, rfl, hgo1, hgo2, hgo3, _⟩ := hgo (by have := HN.out; omega)
  have hLW : Hid (L9 W w2 g p r d g3 [.int .i64 k, .int .i64 a, .int .i64 b, .int .i64 c, .int .u32 v, u] gn go N co d.ws d.ws) := hid (by
    have e1 := X0.out.ss.own.lt
    have e2 := X0.out.ss.doc.lt
    have e3 := X0.out.ss.bl.size
    have e4 := CN.out.lt
    have e5 := X1.out.ss.bl.size
    refine ⟨X2.out.ss, X2.out.bx, CN2.out, ?_, fun hm => ?_, fun hm => ?_, by have := GN.out; omega, fun hm => ?_, fun hm => ?_, by omega⟩
    · have := RO.out.own
      rw [HLs.out] at this
      exact ownsRow_low this (by omega)
    · have := e1 gn hm; have := GN.out; omega
    · have := e2 gn hm; have := GN.out; omega
    · have := X1.out.ss.own.lt go hm; omega
    · have := X1.out.ss.doc.lt go hm; omega)
  clear X0 X1 X2 CN CN2 GN RO hgo1 hgo2 hgo3 hgn x0 x1 x2
  clear hgo
  have y1 : w2.cell? ⟨g3, 1, none⟩ = some (.int .i64 a) := hLW.out.b3.cell 1
  have nz : ((N : Int) == 0) = false := by rw [beq_eq_false_iff_ne]; omega
  have nz2 : ¬ ((N : Int) = 0) := by omega
  go_upto_region 6 with fail
  clear y1
  have y4 : w2.cell? ⟨g3, 4, none⟩ = some (.int .u32 v) := hLW.out.b3.cell 4
  have HKl := hid (show KK < (u32s d.ws).length by rw [u32s_len, HLs.out]; exact HKK.out.2)
  have f1 : w2.frozen? ⟨gn, KK, none⟩ = false := frozen_of_row w2 gn KK _ 22 hLW.out.cn
  obtain ⟨z1, hz1⟩ : ∃ z, w2.cell? ⟨gn, KK, none⟩ = some z := ⟨_, by rw [hLW.out.cn.cell KK, List.getElem?_eq_getElem HKl.out]⟩
  have L2 := hid (hLW.out.setN KK v)
  go_upto_region 7 with fail
  clear y4 f1 hz1 hLW
  generalize w2.setCell _ _ = w3 at *
  have y4 : w3.cell? ⟨g3, 4, none⟩ = some (.int .u32 v) := L2.out.b3.cell 4
  obtain ⟨cur, hcur⟩ := L2.out.co
  have f1 : w3.frozen? ⟨go, KK, none⟩ = false := frozen_of_row w3 go KK _ 22 hcur
  obtain ⟨z2, hz2⟩ : ∃ z, w3.cell? ⟨go, KK, none⟩ = some z := by
    have := L2.out.ro.cells (g := go) rfl KK _ (List.getElem?_eq_getElem HKl.out)
    rw [Addr.add_mid, Nat.zero_add] at this
    exact ⟨_, this⟩
  have L3 := hid (L2.out.setO KK v)
  clear hcur
  go_upto_region 8 with fail
  clear y4 f1 hz2 L2
  generalize w3.setCell _ _ = w4 at *
  have HA : Hid ((d.ws.set KK v).length = N) := hid (by rw [List.length_set, HLs.out])
  generalize d.ws.set KK v = A at *
  obtain ⟨x0, x1, x2⟩ := L3.out.ss.c
  cases hok : ldok d.m.ns A with
  | true =>
    rw [hok, if_pos rfl] at HD'
    go_upto_region 9 with (go_at_call 83; refine (HLd.out _ _ _ A L3.out.ss.own.mem (L3.out.wn HA.out HRg.out)).mono ?_; rintro e w5 hh; rcases hh with ⟨hbad, _⟩ | ⟨_, g5, gw5, rfl, hdb, hg5, hgw5, hb5⟩; (rw [hbad] at hok; cases hok); have L4 := hid (L3.out.on hb5); have HDB := hid (And.intro hdb (And.intro hg5 (And.intro hgw5 hb5))); clear hdb hg5 hgw5 hb5)
    clear x0 x1 x2
    obtain ⟨x0, x1, x2⟩ := L4.out.ss.c
    have x3 := L4.out.ss.doc.c0
    go_upto_region 10 with (go_at_call 84; refine (HRl.out _ _ _ A L4.out.ss.doc.mem (L4.out.wo HA.out HRg.out)).mono ?_; rintro e w6 hh; rcases hh with ⟨hbad, _⟩ | ⟨_, q, rfl, hqr, hrdb, hqg, hqe, hb6⟩; (rw [hbad] at hok; cases hok); have L5 := hid (L4.out.on hb6); have SF := hid (L3.out.ss.turn2 HDB.out.1 HDB.out.2.1 HDB.out.2.2.1 HDB.out.2.2.2 hqr hrdb hqg hqe hb6); clear hqr hrdb hqg hqe hb6)
    clear x0 x1 x2 x3 HDB L3 L4 hok
    rw [HD'.out] at SF
    have f1 : w6.frozen? ⟨g, 1, none⟩ = false := frozen_of_row w6 g 1 _ 34 L5.out.ss.cel
    have c1 : w6.cell? ⟨g, 1, none⟩ = some (.pointer (some ⟨p.g, 0, none⟩)) := L5.out.ss.c.2.1
    have k1 := L5.out.ss.cel.setCell 1 (.pointer (some ⟨g5, 0, none⟩))
    have f2 : (w6.setCell ⟨g, 1, none⟩ (.pointer (some ⟨g5, 0, none⟩))).frozen? ⟨g, 2, none⟩ = false := frozen_of_row _ g 2 _ 34 k1
    have c2 : (w6.setCell ⟨g, 1, none⟩ (.pointer (some ⟨g5, 0, none⟩))).cell? ⟨g, 2, none⟩ = some (.pointer (some ⟨r.g, 0, none⟩)) := k1.cell 2
    clear k1
    go_wp2_with (go_at_call 25; refine (HNm.out _ _).mono ?_; rintro e wx ⟨rfl, hw⟩; subst wx)
    go_ret
    exact ⟨rfl, _, _, SF.out⟩
  | false =>
    rw [hok, if_neg (by decide)] at HD'
    go_upto_region 9 with (go_at_call 83; refine (HLd.out _ _ _ A L3.out.ss.own.mem (L3.out.wn HA.out HRg.out)).mono ?_; rintro e w5 hh; rcases hh with ⟨_, rfl, hb5⟩ | ⟨hbad, _⟩; rotate_left; (rw [hbad] at hok; cases hok); have L4 := hid (L3.out.on hb5); clear hb5 L3)
    clear x0 x1 x2
    obtain ⟨x0, x1, x2⟩ := L4.out.ss.c
    have x3 := L4.out.ss.doc.c0
    go_upto_region 10 with (go_at_call 84; refine (HRl.out _ _ _ A L4.out.ss.doc.mem (L4.out.wo HA.out HRg.out)).mono ?_; rintro e w6 hh; rcases hh with ⟨_, rfl, hb6⟩ | ⟨hbad, _⟩; rotate_left; (rw [hbad] at hok; cases hok); have L5 := hid (L4.out.on hb6); clear hb6 L4)
    clear x0 x1 x2 x3 hok
    go_wp2_with (go_at_call 25; refine (HNm.out _ _).mono ?_; rintro e wx ⟨rfl, hw⟩; subst wx)
    go_ret
    have hdd := HD'.out
    subst hdd
    exact ⟨rfl, _, _, L5.out.ss⟩
end Go.Proofs.YtildhjiddidghaaGreatDoor
namespace Go.Proofs.YtildhjiddidghaaGreatDoor
open Go.RowKit
set_option maxHeartbeats 4000000
set_option maxRecDepth 100000
theorem act_8 (W w : World) (hT : H.Tab W) (hR : H.TabR W) (h2 : 2 < W.heap.size) (g : Nat) (p : Dp) (r : Rp) (d : DS) (h : SS W w g p r d d) (a b c v : Int) (v0 : 0 ≤ v) (v1 : v < 4294967296) (uo : Option Addr) (un uc : Nat) :
    Calls Tryz.prog 11 #[.pointer (some ⟨g, 0, none⟩), .agg #[.int .i64 8, .int .i64 a, .int .i64 b, .int .i64 c, .int .u32 v, .slice uo un uc]] w fun e w' => e = .returned (.bool true) ∧ ∃ q, SS W w' g p q (d.dgs a (min v.toNat 40)) (d.dgs a (min v.toNat 40)) := by
  have X0 : Hid (SX W (w.alloc (.cells #[.int .i64 8, .int .i64 a, .int .i64 b, .int .i64 c, .int .u32 v, .slice uo un uc] 42)) g p r d d w.heap.size [.int .i64 8, .int .i64 a, .int .i64 b, .int .i64 c, .int .u32 v, .slice uo un uc]) := hid ⟨h.on (below_one _ _), Cel.new w 42 [.int .i64 8, .int .i64 a, .int .i64 b, .int .i64 c, .int .u32 v, .slice uo un uc]⟩
  have HW := hid (fun w (h : SS W w g p r d d) => digests_l W w hT hR h2 g p r d h 8 a b c v v0 v1 (.slice uo un uc))
  clear h v0 v1
  generalize hd2 : d.dgs a (min v.toNat 40) = d2 at *
  clear hd2
  go_enter Tryz.func11, Tryz.ntmps11
  go_upto_region 1 with fail
  generalize World.alloc _ _ = X at *
  generalize w.heap.size = g3 at *
  have y0 : X.cell? ⟨g3, 0, none⟩ = some (.int .i64 8) := X0.out.bx.cell 0
  have y1 : X.cell? ⟨g3, 1, none⟩ = some (.int .i64 a) := X0.out.bx.cell 1
  have y2 : X.cell? ⟨g3, 2, none⟩ = some (.int .i64 b) := X0.out.bx.cell 2
  have y3 : X.cell? ⟨g3, 3, none⟩ = some (.int .i64 c) := X0.out.bx.cell 3
  have y4 : X.cell? ⟨g3, 4, none⟩ = some (.int .u32 v) := X0.out.bx.cell 4
  have y5 : X.cell? ⟨g3, 5, none⟩ = some (.slice uo un uc) := X0.out.bx.cell 5
  go_wp2_with (go_at_call 43; refine (HW.out _ X0.out.ss).mono ?_; rintro e w1 ⟨rfl, hs⟩; have S1 := hid hs; clear hs)
  go_ret
  exact ⟨rfl, S1.out⟩
theorem act_9 (W w : World) (g : Nat) (p : Dp) (r : Rp) (d : DS) (h : SS W w g p r d d) (h0 : 0 < d.m.ns) (a b c v : Int) (v0 : 0 ≤ v) (v1 : v < 4294967296) (uo : Option Addr) (un uc : Nat) :
    Calls Tryz.prog 11 #[.pointer (some ⟨g, 0, none⟩), .agg #[.int .i64 9, .int .i64 a, .int .i64 b, .int .i64 c, .int .u32 v, .slice uo un uc]] w fun e w' => e = .returned (.bool true) ∧ ∃ p' q, SS W w' g p' q (d.lds a v) (d.lds a v) := by
  have X0 : Hid (SX W (w.alloc (.cells #[.int .i64 9, .int .i64 a, .int .i64 b, .int .i64 c, .int .u32 v, .slice uo un uc] 42)) g p r d d w.heap.size [.int .i64 9, .int .i64 a, .int .i64 b, .int .i64 c, .int .u32 v, .slice uo un uc]) := hid ⟨h.on (below_one _ _), Cel.new w 42 [.int .i64 9, .int .i64 a, .int .i64 b, .int .i64 c, .int .u32 v, .slice uo un uc]⟩
  have HW := hid (fun w (h : SS W w g p r d d) => loads_l W w g p r d h h0 9 a b c v v0 v1 (.slice uo un uc))
  clear h v0 v1
  generalize hd2 : d.lds a v = d2 at *
  clear hd2
  go_enter Tryz.func11, Tryz.ntmps11
  go_upto_region 1 with fail
  generalize World.alloc _ _ = X at *
  generalize w.heap.size = g3 at *
  have y0 : X.cell? ⟨g3, 0, none⟩ = some (.int .i64 9) := X0.out.bx.cell 0
  have y1 : X.cell? ⟨g3, 1, none⟩ = some (.int .i64 a) := X0.out.bx.cell 1
  have y2 : X.cell? ⟨g3, 2, none⟩ = some (.int .i64 b) := X0.out.bx.cell 2
  have y3 : X.cell? ⟨g3, 3, none⟩ = some (.int .i64 c) := X0.out.bx.cell 3
  have y4 : X.cell? ⟨g3, 4, none⟩ = some (.int .u32 v) := X0.out.bx.cell 4
  have y5 : X.cell? ⟨g3, 5, none⟩ = some (.slice uo un uc) := X0.out.bx.cell 5
  go_wp2_with (go_at_call 44; refine (HW.out _ X0.out.ss).mono ?_; rintro e w1 ⟨rfl, hs⟩; have S1 := hid hs; clear hs)
  go_ret
  exact ⟨rfl, S1.out⟩
theorem w26_ns (m : MS) (a : Int) (L : List Int) : ∀ k, (m.w26 a L k).ns = m.ns
  | 0 => rfl
  | k + 1 => by rw [MS.w26, MS.write_ns, w26_ns m a L k]
theorem w26_U {m : MS} (h : m.U) (a : Int) (L : List Int) (hL : ∀ i, 0 ≤ L.getD i 0 ∧ L.getD i 0 < 4294967296) : ∀ k, (m.w26 a L k).U
  | 0 => h
  | k + 1 => by rw [MS.w26]; exact (w26_U h a L hL k).write true a _ _ (hL k).1 (hL k).2
structure St (d d' : DS) : Prop where
  ns : d'.m.ns = d.m.ns
  u : d'.m.U
theorem St.same {d d' : DS} (hu : d.m.U) (hm : d'.m = d.m) : St d d' := ⟨by rw [hm], by rw [hm]; exact hu⟩
theorem there_rg {d : DS} {q : Int} (h : d.there q = true) : 0 ≤ q ∧ q < (d.m.ns : Int) := by unfold DS.there at h; simpa using h
theorem St.space {d : DS} (hu : d.m.U) (hk : d.Ok) (s f : Int) : St d (d.takeSpace s f) := by
  unfold DS.takeSpace
  split
  · rename_i h
    obtain ⟨_, hf, _, _, _, _⟩ := bear_zero h
    have hr := there_rg hf
    have n64 := hk.n64
    have b0 := hk.b0
    have b1 := hk.b1
    refine ⟨by simp only [DS.space, MS.born, MS.write_ns], ?_⟩
    show (d.m.born s f d.b).U
    unfold MS.born
    exact ((hu.write true s 0 f hr.1 (by omega)).write true s 1 d.b b0 (by omega)).write true s 2 0 (by decide) (by decide)
  · exact .same hu rfl
theorem St.take {d : DS} (hu : d.m.U) (q t s : Int) : St d (d.take q t s) := by
  refine .same hu ?_
  unfold DS.take
  split <;> rfl
theorem St.turn {d : DS} (hu : d.m.U) (q t : Int) : St d (d.turn q t) := by
  unfold DS.turn
  split
  · exact ⟨by simp only [DS.turned, DS.wipe, MS.zero_ns]; rfl, hu.zero true q⟩
  · exact .same hu rfl
theorem given_m (d : DS) (q : Int) : (d.given q).m = d.m.zero true q := by
  unfold DS.given
  split <;> rfl
theorem St.give {d : DS} (hu : d.m.U) (q : Int) : St d (d.give q) := by
  unfold DS.give
  split
  · exact ⟨by rw [given_m, MS.zero_ns], by rw [given_m]; exact hu.zero true q⟩
  · exact .same hu rfl
theorem St.state {d : DS} (hu : d.m.U) (q s : Int) : St d (d.state q s) := by
  refine .same hu ?_
  unfold DS.state
  split <;> rfl
theorem St.entered {d : DS} (hu : d.m.U) (q : Int) (on : Bool) : St d (d.entered q on) := by
  refine .same hu ?_
  unfold DS.entered
  split <;> rfl
theorem act_any (W w : World) (hT : H.Tab W) (hR : H.TabR W) (h2 : 2 < W.heap.size) (g : Nat) (p : Dp) (r : Rp) (d : DS) (h : SS W w g p r d d) (h0 : 0 < d.m.ns) (hu : d.m.U) (k a b c v : Int) (v0 : 0 ≤ v) (v1 : v < 4294967296) (uo : Option Addr) (un uc : Nat) :
    Calls Tryz.prog 11 #[.pointer (some ⟨g, 0, none⟩), .agg #[.int .i64 k, .int .i64 a, .int .i64 b, .int .i64 c, .int .u32 v, .slice uo un uc]] w fun e w' => e = .returned (.bool true) ∧ ∃ p' q d', SS W w' g p' q d' d' ∧ St d d' := by
  have hk := h.own.ok
  by_cases k1 : k = 1
  · subst k1; exact (act_1 W w g p r d h a b c v _).mono fun e w' ⟨he, q, hs⟩ => ⟨he, _, q, _, hs, .space hu hk a b⟩
  by_cases k2 : k = 2
  · subst k2; exact (act_2 W w g p r d h a b c v _).mono fun e w' ⟨he, q, hs⟩ => ⟨he, _, q, _, hs, .take hu a b c⟩
  by_cases k3 : k = 3
  · subst k3; exact (act_3 W w g p r d h a b c v _).mono fun e w' ⟨he, q, hs⟩ => ⟨he, _, q, _, hs, .turn hu a b⟩
  by_cases k4 : k = 4
  · subst k4; exact (act_4 W w g p r d h a b c v _).mono fun e w' ⟨he, q, hs⟩ => ⟨he, _, q, _, hs, .give hu a⟩
  by_cases k5 : k = 5
  · subst k5; exact (act_5 W w g p r d h a b c v _).mono fun e w' ⟨he, q, hs⟩ => ⟨he, _, q, _, hs, .state hu a b⟩
  by_cases k6 : k = 6
  · subst k6; exact (act_6 W w g p r d h a b c v _).mono fun e w' ⟨he, q, hs⟩ => ⟨he, _, q, _, hs, .entered hu a _⟩
  by_cases k7 : k = 7
  · subst k7; exact (act_7 W w g p r d h a b c v _).mono fun e w' ⟨he, q, hs⟩ => ⟨he, _, q, _, hs, MS.write_ns _ _ _ _ _, hu.write true a b v v0 v1⟩
  by_cases k8 : k = 8
  · subst k8; exact (act_8 W w hT hR h2 g p r d h a b c v v0 v1 uo un uc).mono fun e w' ⟨he, q, hs⟩ => ⟨he, _, q, _, hs, w26_ns _ _ _ _, w26_U hu a _ (sv_rg _ (by omega)) _⟩
  by_cases k9 : k = 9
  · subst k9; exact (act_9 W w g p r d h h0 a b c v v0 v1 uo un uc).mono fun e w' ⟨he, p', q, hs⟩ => ⟨he, p', q, _, hs, .same hu (lds_m d a v)⟩
  exact (act_0 W w g p r d h k a b c v _ (by omega)).mono fun e w' ⟨he, q, hs⟩ => ⟨he, _, q, _, hs, .same hu rfl⟩
end Go.Proofs.YtildhjiddidghaaGreatDoor
