/- The law's loaded 35. -/
import Derived.Test.YtajkhkaidjjioaaT8T9
import Derived.Test.YtajkhkaidjjioaaQaQbQcQdQe
import Derived.Laws.Closers25b
namespace Go.Proofs.Ytajkhkaidjjioaa
open Go.RowKit
set_option maxHeartbeats 4000000
set_option maxRecDepth 100000
theorem Hl.celx {W w : World} {v : Value} {L : List Int} (h : Hl W w v L) (h0 : 0 < L.length) : ∃ g c rest, v = .slice (some ⟨g, 0, none⟩) L.length c ∧ Cel w g 27 (u32s L ++ rest) ∧ W.heap.size ≤ g ∧ L.length ≤ c := by
  rcases h.own.2 with ⟨_, h1⟩ | ⟨g, cap, cur, hv, hB, hg, hle, hm, hsz, ht⟩
  · omega
  · refine ⟨g, cap, cur.toList.drop (L.length * 1), hv, ?_, hB, hle⟩
    show w.heap[g]? = _
    rw [hg]
    show some (Obj.cells cur 27 (0, 0)) = some (.cells (u32s L ++ cur.toList.drop (L.length * 1)).toArray 27 (0, 0))
    rw [← ht, List.take_append_drop]
/-- What stands around: the two databases, the pair, the answer's box. -/
structure LQ (W w : World) (p : Dp) (r : Rp) (d : DS) (g3 g6 : Nat) : Prop where
  own : DB w p d
  doc : RDB w r d
  bl : Below W.heap.size W w
  b3 : Cel w g3 68 [.pointer (some ⟨p.g, 0, none⟩), .pointer (some ⟨r.g, 0, none⟩)]
  b6 : Cel w g6 68 [.pointer none, .pointer none]
  n6 : W.heap.size ≤ g6
theorem LQ.on {W w w' : World} {p : Dp} {r : Rp} {d : DS} {g3 g6 : Nat} (h : LQ W w p r d g3 g6) (hb : Below w.heap.size w w') : LQ W w' p r d g3 g6 := ⟨h.own.on hb, h.doc.on hb, below_on h.bl hb, h.b3.on hb, h.b6.on hb, h.n6⟩
theorem LQ.pair {W w : World} {p : Dp} {r : Rp} {d : DS} {g3 g6 : Nat} (h : LQ W w p r d g3 g6) : w.cell? ⟨g3, 0, none⟩ = some (.pointer (some ⟨p.g, 0, none⟩)) ∧ w.cell? ⟨g3, 1, none⟩ = some (.pointer (some ⟨r.g, 0, none⟩)) := ⟨h.b3.cell 0, h.b3.cell 1⟩
theorem LQ.start {W : World} {p : Dp} {r : Rp} {d : DS} (h : DB W p d) (h' : RDB W r d) : LQ W ((W.alloc (.cells #[.pointer (some ⟨p.g, 0, none⟩), .pointer (some ⟨r.g, 0, none⟩)] 68)).alloc (.cells #[.pointer none, .pointer none] 68)) p r d W.heap.size (W.heap.size + 1) := by
  have e : (W.alloc (.cells #[.pointer (some ⟨p.g, 0, none⟩), .pointer (some ⟨r.g, 0, none⟩)] 68)).heap.size = W.heap.size + 1 := Array.size_push ..
  have b1 := below_one W (.cells #[.pointer (some ⟨p.g, 0, none⟩), .pointer (some ⟨r.g, 0, none⟩)] 68)
  have b2 := below_one (W.alloc (.cells #[.pointer (some ⟨p.g, 0, none⟩), .pointer (some ⟨r.g, 0, none⟩)] 68)) (.cells #[.pointer none, .pointer none] 68)
  refine ⟨(h.on b1).on b2, (h'.on b1).on b2, below_on b1 b2, (Cel.new W 68 [.pointer (some ⟨p.g, 0, none⟩), .pointer (some ⟨r.g, 0, none⟩)]).on b2, ?_, by omega⟩
  rw [← e]
  exact Cel.new _ 68 [.pointer none, .pointer none]
theorem LQ.set {W X w : World} {p : Dp} {r : Rp} {d : DS} {g3 g6 gb : Nat} (h0 : LQ W X p r d g3 g6) (h : LQ W w p r d g3 g6) (hg : X.heap.size ≤ gb) (j : Nat) (y : Value) : LQ W (w.setCell ⟨gb, j, none⟩ y) p r d g3 g6 := by
  have hb : ButL [gb] w (w.setCell ⟨gb, j, none⟩ y) := .setCell _ _ _ _ (by simp)
  have hs := h0.bl.size
  refine ⟨h.own.frame hb (fun k hk hm => ?_), h.doc.frame hb (fun k hk hm => ?_), h.bl.trans (hb.below (B := W.heap.size) (fun k hk => ?_) h.bl.size), h.b3.but hb (fun hm => ?_), h.b6.but hb (fun hm => ?_), h.n6⟩
  · rw [List.mem_singleton] at hm; have := h0.own.lt k hk; omega
  · rw [List.mem_singleton] at hm; have := h0.doc.lt k hk; omega
  · rw [List.mem_singleton] at hk; omega
  · rw [List.mem_singleton] at hm; have := h0.b3.lt; omega
  · rw [List.mem_singleton] at hm; have := h0.b6.lt; omega
theorem pair_loaded {w3 w4 w5 w6 w7 : World} {f : Fp} {r' : Rf} {g gw : Nat} {r2 : Rp} {m : MS} {d : DS} (h1 : NewMem w3 w4 f m) (hd : DB w5 ⟨g, gw, f⟩ d) (hg : w4.heap.size ≤ g) (hgw : w4.heap.size ≤ gw) (hb : Below w4.heap.size w4 w5) (h2 : NewR w5 w6 r' m) (hR : RDB w7 r2 d) (hr : r2.r = r') (hg2 : w6.heap.size ≤ r2.g) (hge : w6.heap.size ≤ r2.ge) (hb2 : Below w6.heap.size w6 w7) : NewP w3 w7 ⟨g, gw, f⟩ r2 d := by
  have s1 := h1.below.size
  have s2 := hb.size
  have s3 := h2.below.size
  have hp : ∀ k ∈ (Dp.mk g gw f).all, w3.heap.size ≤ k := fun k hk => by
    simp only [Dp.all, List.mem_cons] at hk
    rcases hk with rfl | rfl | hk
    · omega
    · omega
    · exact h1.new k hk
  have hq : ∀ k ∈ r2.all, w5.heap.size ≤ k := fun k hk => by
    simp only [Rp.all, List.mem_cons] at hk
    rcases hk with rfl | rfl | hk
    · omega
    · omega
    · rw [hr] at hk; exact h2.new k hk
  exact ⟨hd.on (below_on h2.below hb2), hR, below_on (below_on (below_on h1.below hb) h2.below) hb2, hp, fun k hk => by have := hq k hk; omega, fun k hk hm => by have := hd.lt k hk; have := hq k hm; omega⟩
theorem NewP.put {W X w w' : World} {p : Dp} {r : Rp} {d : DS} {g : Nat} (h : NewP X w p r d) (hW : Below W.heap.size W X) (hg : g < X.heap.size) (hWg : W.heap.size ≤ g) (hb : ButL [g] w w') : NewP W w' p r d :=
  ⟨h.own.frame hb (fun k hk hm => by rw [List.mem_singleton] at hm; have := h.pn k hk; omega), h.doc.frame hb (fun k hk hm => by rw [List.mem_singleton] at hm; have := h.rn k hk; omega), (below_on hW h.bl).trans (hb.below (B := W.heap.size) (fun k hk => by rw [List.mem_singleton] at hk; omega) (below_on hW h.bl).size), fun k hk => Nat.le_trans hW.size (h.pn k hk), fun k hk => Nat.le_trans hW.size (h.rn k hk), h.ap⟩
theorem xor_rg (a b : Int) : 0 ≤ bits .xor .u32 a b ∧ bits .xor .u32 a b < 4294967296 := by
  have h := bits_within .xor .u32 a b
  have h1 : IntKind.u32.min = 0 := by decide
  have h2 : IntKind.u32.max = 4294967295 := by decide
  omega
theorem set_pre (L : List Int) (rest : List Value) (k : Nat) (x : Int) (hk : k < L.length) : (u32s L ++ rest).set k (.int .u32 x) = u32s (L.set k x) ++ rest := by
  rw [List.set_append_left _ _ (by rw [u32s_len]; exact hk), u32s, u32s, List.map_set]
theorem pre_src (L : List Int) (rest : List Value) : ∀ (j : Nat) (u : Value), (u32s L)[j]? = some u → (u32s L ++ rest)[j]? = some u := fun j u hu => by
  have hl : j < (u32s L).length := by
    rcases Nat.lt_or_ge j (u32s L).length with h | h
    · exact h
    · rw [List.getElem?_eq_none h] at hu; cases hu
  rw [List.getElem?_append_left hl]; exact hu
theorem loaded_any (W : World) (p : Dp) (r : Rp) (d : DS) (h : DB W p d) (h' : RDB W r d) (h0 : 0 < d.m.ns) (a v : Int) (a0 : -9223372036854775808 ≤ a) (a1 : a ≤ 9223372036854775807) :
    Calls Try.prog 35 #[.agg #[ptr p.g, ptr r.g], .int .i64 a, .int .u32 v] W fun x W' => (x = .returned (.tuple #[.agg #[.pointer none, .pointer none], .bool true]) ∧ Below W.heap.size W W') ∨ ∃ p2 r2 d2, x = .returned (.tuple #[.agg #[ptr p2.g, ptr r2.g], .bool true]) ∧ NewP W W' p2 r2 d2 ∧ d2.m = d.m := by
  have T0 := hid (LQ.start h h')
  have HN64 : Hid (d.m.ns ≤ 64 ∧ 0 < d.m.ns) := hid ⟨h.ok.n64, h0⟩
  have HWs : Hid (d.ws.length = 1 + 2 * d.m.ns) := hid (d.ws_len h.ok)
  have HRg := hid (DS.ws_rg h.ok)
  have HR := hid (fun w (hw : RDB w r d) => rwords_any w r d hw)
  have HWi := hid (fun w (hi : Int) h1 h2 => within_any w a 0 hi (by decide) h1 h2 a0 a1)
  have HM := hid (fun w (hw : DB w p d) => memory_any w p d hw)
  have HMg := hid (fun w (g gw : Nat) (f : Fp) (e : DS) (hw : DB w ⟨g, gw, f⟩ e) => memory_any w ⟨g, gw, f⟩ e hw)
  have HCl := hid (fun w (hw : DB w p d) => clone_any w p.f d.m hw.mem)
  have HP0 : Hid (0 < d.m.P.length) := hid (by have := h'.mem.ns0; omega)
  have HRC := hid (fun w (hw : RDB w r d) => rclone_any w r.r d.m hw.mem HP0.out)
  have HLd := hid (fun w f (hm : Mem w f d.m) ao n c L (hL : WL w ao n L) => load_any w f d.m hm h.ok.n64 ao n c L hL)
  have HRL := hid (fun w r (hm : RMem w r d.m) ao n c L (hL : WL w ao n L) => rload_any w r d.m hm h.ok.n64 h0 ao n c L hL)
  have HSm : Hid (∀ w ao bo c c' n L, WL w ao n L → WL w bo n L → n ≤ 1000000 → Calls Try.prog 15 #[.slice ao n c, .slice bo n c'] w fun e W' => e = .returned (.bool true) ∧ Below w.heap.size w W') := hid (fun w ao bo c c' n L hA hB hn => by
    have := sameWords_any w ao bo n n c c' L L hA hB hn
    rw [decide_eq_true rfl] at this
    exact this)
  have HWr := hid (fun (n : Int) (hn : 0 < n) => wi_range a 0 n hn)
  clear h h' h0 a0 a1
  simp only [ptr] at *
  go_enter Try.func35, Try.ntmps35
  go_upto_region 1 with fail
  generalize World.alloc _ _ = X at *
  generalize W.heap.size = g3 at T0 ⊢
  generalize g3 + 1 = g6 at *
  obtain ⟨x0, x1⟩ := T0.out.pair
  go_upto_region 2 with (go_at_call 65; refine (HR.out _ T0.out.doc).mono ?_; rintro e w1 ⟨v8, rfl, ho⟩; obtain ⟨gb, cb, rest, rfl, hc, hgb, hcb⟩ := ho.celx (by rw [HWs.out]; omega); rw [HWs.out] at hcb ⊢; have C1 := hid (And.intro hc (And.intro (Nat.le_trans T0.out.bl.size hgb) hcb)); have T1 := hid (T0.out.on ho.below); have HX1 := hid hgb; clear hc hgb ho x0 x1 hcb)
  have n64 := HN64.out.1
  have n1 := HN64.out.2
  have HW2 := hid (HWi.out · ((1 + 2 * d.m.ns : Nat) : Int) (by omega) (by omega))
  have hr := HWr.out (((1 + 2 * d.m.ns : Nat) : Int) - 0 + 1) (by omega)
  generalize wi a 0 (((1 + 2 * d.m.ns : Nat) : Int) - 0 + 1) = k at *
  obtain ⟨k0, k1⟩ := hr
  clear HWr HWi
  generalize hN : 1 + 2 * d.m.ns = N at *
  by_cases hk : k = (N : Int)
  · have hkk : (k == (N : Int)) = true := by simpa using hk
    subst hk
    have hN1 : ((N : Int) - 1).toNat = N - 1 := by omega
    have k1' : 0 ≤ (N : Int) - 1 := by omega
    have k2' : (N : Int) - 1 ≤ (N : Int) := by omega
    have kc := C1.out.2.2
    have hwN : IntKind.wrap .i64 ((N : Int) - 1) = (N : Int) - 1 := wr64 _ (by omega) (by omega)
    have kc' : (N : Int) - 1 ≤ (cb : Int) := by omega
    have C2 : Hid (Cel w1 gb 27 (u32s (d.ws.take (N - 1)) ++ (u32s (d.ws.drop (N - 1)) ++ rest))) := hid (by
      have h1 : u32s (d.ws.take (N - 1)) ++ (u32s (d.ws.drop (N - 1)) ++ rest) = u32s d.ws ++ rest := by
        rw [← List.append_assoc, u32s, u32s, u32s, ← List.map_append, List.take_append_drop]
      rw [h1]; exact C1.out.1)
    have HLn : Hid ((d.ws.take (N - 1)).length = N - 1) := hid (by rw [List.length_take, HWs.out]; omega)
    have HL : Hid (∀ x ∈ d.ws.take (N - 1), 0 ≤ x ∧ x < 4294967296) := hid (fun x hx => HRg.out x (List.mem_of_mem_take hx))
    have hok : ldok d.m.ns (d.ws.take (N - 1)) = false := by
      cases hh : ldok d.m.ns (d.ws.take (N - 1))
      · rfl
      · have := ((ldok_iff _ _).1 hh).1
        rw [HLn.out] at this
        omega
    have T2 := hid T1.out
    go_upto_region 6 with (go_at_call 21; refine (HW2.out _).mono ?_; rintro e wx ⟨rfl, hw⟩; subst wx)

    generalize u32s (d.ws.drop (N - 1)) ++ rest = rest at *
    generalize d.ws.take (N - 1) = L at *
    clear C1 T0 T1 hkk k0 k1 HW2 kc kc' k1' k2' hwN HX1
    generalize w1 = w2 at *
    have hN2 : N - 1 ≤ 1000 := by omega
    have hN3 : ((N - 1 : Nat) : Int) = (N : Int) - 1 := by omega
    clear hN1 hN3
    generalize hM : N - 1 = M at *
    · have HLd2 : Hid (∀ w f (hm : Mem w f d.m) ao c (hL : WL w ao M L), Calls Try.prog 11 #[.pointer (some ⟨f.gm, 0, none⟩), .slice ao M c] w fun e W' => e = .returned (.tuple #[.pointer none, .int .i64 110]) ∧ Below w.heap.size w W') := hid (fun w f hm ao c hL => (HLd.out w f hm ao _ c L hL).mono (fun e W' h => by
        rcases h with ⟨h1, h2⟩ | ⟨h1, h2⟩
        · exact h2
        · rw [hok] at h1; cases h1))
      have HRL2 : Hid (∀ w r (hm : RMem w r d.m) ao c (hL : WL w ao M L), Calls Try.prog 66 #[.pointer (some ⟨r.g, 0, none⟩), .slice ao M c] w fun e W' => e = .returned (.tuple #[.pointer none, .int .i64 110]) ∧ Below w.heap.size w W') := hid (fun w r hm ao c hL => (HRL.out w r hm ao _ c L hL).mono (fun e W' h => by
        rcases h with ⟨h1, h2⟩ | ⟨h1, h2⟩
        · exact h2
        · rw [hok] at h1; cases h1))
      clear HLd HRL hok
      go_upto_region 8 with (refine wpList_append_w (W := w2) rfl _ _ rfl (.slice none 0 0) [] rfl (Hl.start w2) ⟨gb, 0, none⟩ (M) cb L rfl HLn.out (fun j u hu => by rw [Addr.add_mid, Nat.zero_add, C2.out.cell]; exact pre_src L rest j u hu) (by simp; omega) ?_; intro v3 w3 h3 hgr; rw [List.nil_append] at h3; obtain ⟨ao, co, rfl, hw3⟩ := h3.wl HL.out; rw [HLn.out] at hw3 ⊢; have A3 := hid hw3; have B3 := hid ((WL.cel C2.out (pre_src L rest) HLn.out HL.out).on h3.below); have T3 := hid (T2.out.on h3.below); clear h3 hgr hw3 T2 C2)
      obtain ⟨x0, x1⟩ := T3.out.pair
      go_upto_region 9 with (first | (go_at_call 13; refine (HM.out _ T3.out.own).mono ?_; rintro e wx ⟨rfl, hw⟩; subst wx) | (go_at_call 12; refine (HCl.out _ T3.out.own).mono ?_; rintro e w4 ⟨f, rfl, hn⟩; have N4 := hid hn; have T4 := hid (T3.out.on hn.below); have A4 := hid (A3.out.on hn.below); have B4 := hid (B3.out.on hn.below); clear hn A3 B3 x0 x1))
      go_upto_region 10 with (go_at_call 11; refine (HLd2.out _ _ N4.out.mem _ _ A4.out).mono ?_; rintro e w5 ⟨rfl, hb⟩; have T5 := hid (T4.out.on hb); have A5 := hid (A4.out.on hb); have B5 := hid (B4.out.on hb); clear hb A4 B4 T4)
      obtain ⟨x0, x1⟩ := T5.out.pair
      have x2 := T5.out.doc.c0
      go_upto_region 11 with (first | (go_at_call 64; refine (HRC.out _ T5.out.doc).mono ?_; rintro e w6 ⟨r6, rfl, hn⟩; have N6 := hid hn; have T6 := hid (T5.out.on hn.below); have A6 := hid (A5.out.on hn.below); have B6 := hid (B5.out.on hn.below); clear hn A5 B5 T5 x0 x1 x2) | (go_at_call 66; refine (HRL2.out _ _ N6.out.mem _ _ B6.out).mono ?_; rintro e w7 ⟨rfl, hb⟩; have T7 := hid (T6.out.on hb); have A7 := hid (A6.out.on hb); have B7 := hid (B6.out.on hb); clear hb T6 A6 B6))
      go_wp2_with (first | (go_at_call 15; refine (HSm.out _ _ _ _ _ _ L A7.out B7.out (by omega)).mono ?_; rintro e w8 ⟨rfl, hb⟩; have T8 := hid (T7.out.on hb); clear hb T7 A7 B7) | (refine wpList_store_st rfl 68 _ _ rfl g6 [.pointer none, .pointer none] rfl rfl T8.out.b6 size68 rfl rfl ?_; intro w9 hc hb hs; have C9 := hid (And.intro hc (T8.out.bl.trans (hb.below (B := W.heap.size) (fun k hk => by rw [List.mem_singleton] at hk; have := T8.out.n6; omega) T8.out.bl.size))); clear hc hb hs T8))
      exact ret_st2 rfl rfl g6 _ rfl C9.out.1 under68 rfl size68 (.inl ⟨rfl, C9.out.2⟩)
  · have hkk : (k == (N : Int)) = false := by simpa using hk
    have k2 : k < (N : Int) := by omega
    have hl : k.toNat < d.ws.length := by rw [HWs.out]; omega
    have hat : (u32s d.ws ++ rest)[k.toNat]? = some (.int .u32 (wd d.ws k.toNat)) := by
      rw [List.getElem?_append_left (by rw [u32s_len]; exact hl), u32s, List.getElem?_map, wd_at hl]
      rfl
    have z0 : w1.cell? ⟨gb, k.toNat, none⟩ = some (.int .u32 (wd d.ws k.toNat)) := by rw [C1.out.1.cell]; exact hat
    have z1 : w1.frozen? ⟨gb, k.toNat, none⟩ = false := C1.out.1.free _
    have T2 := hid (T0.out.set T1.out HX1.out k.toNat (.int .u32 (bits .xor .u32 (wd d.ws k.toNat) v)))
    have C2 : Hid (Cel (w1.setCell ⟨gb, k.toNat, none⟩ (.int .u32 (bits .xor .u32 (wd d.ws k.toNat) v))) gb 27 (u32s (d.ws.set k.toNat (bits .xor .u32 (wd d.ws k.toNat) v)) ++ rest)) := hid (by
      have := C1.out.1.setCell k.toNat (.int .u32 (bits .xor .u32 (wd d.ws k.toNat) v))
      rw [set_pre _ _ _ _ hl] at this
      exact this)
    have HLn : Hid ((d.ws.set k.toNat (bits .xor .u32 (wd d.ws k.toNat) v)).length = N) := hid (by rw [List.length_set]; exact HWs.out)
    have HL : Hid (∀ x ∈ d.ws.set k.toNat (bits .xor .u32 (wd d.ws k.toNat) v), 0 ≤ x ∧ x < 4294967296) := hid (fun x hx => by
      rcases List.mem_or_eq_of_mem_set hx with hx | rfl
      · exact HRg.out x hx
      · exact xor_rg _ _)
    go_upto_region 6 with (go_at_call 21; refine (HW2.out _).mono ?_; rintro e wx ⟨rfl, hw⟩; subst wx)
    generalize World.setCell _ _ _ = w2 at *
    generalize d.ws.set k.toNat (bits .xor .u32 (wd d.ws k.toNat) v) = L at *
    clear z0 z1 hat hl C1 T0 T1 hkk k0 k1 k2 hk HW2
    cases hok : ldok d.m.ns L
    · have HLd2 : Hid (∀ w f (hm : Mem w f d.m) ao c (hL : WL w ao N L), Calls Try.prog 11 #[.pointer (some ⟨f.gm, 0, none⟩), .slice ao N c] w fun e W' => e = .returned (.tuple #[.pointer none, .int .i64 110]) ∧ Below w.heap.size w W') := hid (fun w f hm ao c hL => (HLd.out w f hm ao _ c L hL).mono (fun e W' h => by
        rcases h with ⟨h1, h2⟩ | ⟨h1, h2⟩
        · exact h2
        · rw [hok] at h1; cases h1))
      have HRL2 : Hid (∀ w r (hm : RMem w r d.m) ao c (hL : WL w ao N L), Calls Try.prog 66 #[.pointer (some ⟨r.g, 0, none⟩), .slice ao N c] w fun e W' => e = .returned (.tuple #[.pointer none, .int .i64 110]) ∧ Below w.heap.size w W') := hid (fun w r hm ao c hL => (HRL.out w r hm ao _ c L hL).mono (fun e W' h => by
        rcases h with ⟨h1, h2⟩ | ⟨h1, h2⟩
        · exact h2
        · rw [hok] at h1; cases h1))
      clear HLd HRL hok
      go_upto_region 8 with (refine wpList_append_w (W := w2) rfl _ _ rfl (.slice none 0 0) [] rfl (Hl.start w2) ⟨gb, 0, none⟩ (N) cb L rfl HLn.out (fun j u hu => by rw [Addr.add_mid, Nat.zero_add, C2.out.cell]; exact pre_src L rest j u hu) (by simp; omega) ?_; intro v3 w3 h3 hgr; rw [List.nil_append] at h3; obtain ⟨ao, co, rfl, hw3⟩ := h3.wl HL.out; rw [HLn.out] at hw3 ⊢; have A3 := hid hw3; have B3 := hid ((WL.cel C2.out (pre_src L rest) HLn.out HL.out).on h3.below); have T3 := hid (T2.out.on h3.below); clear h3 hgr hw3 T2 C2)
      obtain ⟨x0, x1⟩ := T3.out.pair
      go_upto_region 9 with (first | (go_at_call 13; refine (HM.out _ T3.out.own).mono ?_; rintro e wx ⟨rfl, hw⟩; subst wx) | (go_at_call 12; refine (HCl.out _ T3.out.own).mono ?_; rintro e w4 ⟨f, rfl, hn⟩; have N4 := hid hn; have T4 := hid (T3.out.on hn.below); have A4 := hid (A3.out.on hn.below); have B4 := hid (B3.out.on hn.below); clear hn A3 B3 x0 x1))
      go_upto_region 10 with (go_at_call 11; refine (HLd2.out _ _ N4.out.mem _ _ A4.out).mono ?_; rintro e w5 ⟨rfl, hb⟩; have T5 := hid (T4.out.on hb); have A5 := hid (A4.out.on hb); have B5 := hid (B4.out.on hb); clear hb A4 B4 T4)
      obtain ⟨x0, x1⟩ := T5.out.pair
      have x2 := T5.out.doc.c0
      go_upto_region 11 with (first | (go_at_call 64; refine (HRC.out _ T5.out.doc).mono ?_; rintro e w6 ⟨r6, rfl, hn⟩; have N6 := hid hn; have T6 := hid (T5.out.on hn.below); have A6 := hid (A5.out.on hn.below); have B6 := hid (B5.out.on hn.below); clear hn A5 B5 T5 x0 x1 x2) | (go_at_call 66; refine (HRL2.out _ _ N6.out.mem _ _ B6.out).mono ?_; rintro e w7 ⟨rfl, hb⟩; have T7 := hid (T6.out.on hb); have A7 := hid (A6.out.on hb); have B7 := hid (B6.out.on hb); clear hb T6 A6 B6))
      go_wp2_with (first | (go_at_call 15; refine (HSm.out _ _ _ _ _ _ L A7.out B7.out (by omega)).mono ?_; rintro e w8 ⟨rfl, hb⟩; have T8 := hid (T7.out.on hb); clear hb T7 A7 B7) | (refine wpList_store_st rfl 68 _ _ rfl g6 [.pointer none, .pointer none] rfl rfl T8.out.b6 size68 rfl rfl ?_; intro w9 hc hb hs; have C9 := hid (And.intro hc (T8.out.bl.trans (hb.below (B := W.heap.size) (fun k hk => by rw [List.mem_singleton] at hk; have := T8.out.n6; omega) T8.out.bl.size))); clear hc hb hs T8))
      exact ret_st2 rfl rfl g6 _ rfl C9.out.1 under68 rfl size68 (.inl ⟨rfl, C9.out.2⟩)
    · have HLd2 : Hid (∀ w f (hm : Mem w f d.m) ao c (hL : WL w ao N L), Calls Try.prog 11 #[.pointer (some ⟨f.gm, 0, none⟩), .slice ao N c] w fun e W' => ∃ g gw, e = .returned (.tuple #[.pointer (some ⟨g, 0, none⟩), .int .i64 0]) ∧ DB W' ⟨g, gw, f⟩ (DS.load d.m L) ∧ w.heap.size ≤ g ∧ w.heap.size ≤ gw ∧ Below w.heap.size w W') := hid (fun w f hm ao c hL => (HLd.out w f hm ao _ c L hL).mono (fun e W' h => by
        rcases h with ⟨h1, h2⟩ | ⟨h1, h2⟩
        · rw [hok] at h1; cases h1
        · exact h2))
      have HRL2 : Hid (∀ w r (hm : RMem w r d.m) ao c (hL : WL w ao N L), Calls Try.prog 66 #[.pointer (some ⟨r.g, 0, none⟩), .slice ao N c] w fun e W' => ∃ p : Rp, e = .returned (.tuple #[.pointer (some ⟨p.g, 0, none⟩), .int .i64 0]) ∧ p.r = r ∧ RDB W' p (DS.load d.m L) ∧ w.heap.size ≤ p.g ∧ w.heap.size ≤ p.ge ∧ Below w.heap.size w W') := hid (fun w r hm ao c hL => (HRL.out w r hm ao _ c L hL).mono (fun e W' h => by
        rcases h with ⟨h1, h2⟩ | ⟨h1, h2⟩
        · rw [hok] at h1; cases h1
        · exact h2))
      clear HLd HRL hok
      have HDm : Hid ((DS.load d.m L).m = d.m) := hid rfl
      generalize DS.load d.m L = D at *
      go_upto_region 8 with (refine wpList_append_w (W := w2) rfl _ _ rfl (.slice none 0 0) [] rfl (Hl.start w2) ⟨gb, 0, none⟩ (N) cb L rfl HLn.out (fun j u hu => by rw [Addr.add_mid, Nat.zero_add, C2.out.cell]; exact pre_src L rest j u hu) (by simp; omega) ?_; intro v3 w3 h3 hgr; rw [List.nil_append] at h3; obtain ⟨ao, co, rfl, hw3⟩ := h3.wl HL.out; rw [HLn.out] at hw3 ⊢; have A3 := hid hw3; have B3 := hid ((WL.cel C2.out (pre_src L rest) HLn.out HL.out).on h3.below); have T3 := hid (T2.out.on h3.below); clear h3 hgr hw3 T2 C2)
      obtain ⟨x0, x1⟩ := T3.out.pair
      go_upto_region 9 with (first | (go_at_call 13; refine (HM.out _ T3.out.own).mono ?_; rintro e wx ⟨rfl, hw⟩; subst wx) | (go_at_call 12; refine (HCl.out _ T3.out.own).mono ?_; rintro e w4 ⟨f, rfl, hn⟩; have N4 := hid hn; have T4 := hid (T3.out.on hn.below); have A4 := hid (A3.out.on hn.below); have B4 := hid (B3.out.on hn.below); clear hn A3 B3 x0 x1))
      go_upto_region 10 with (go_at_call 11; refine (HLd2.out _ _ N4.out.mem _ _ A4.out).mono ?_; rintro e w5 ⟨g, gw, rfl, hd, hg, hgw, hb⟩; have D5 := hid (And.intro hd (And.intro hg (And.intro hgw hb))); have T5 := hid (T4.out.on hb); have A5 := hid (A4.out.on hb); have B5 := hid (B4.out.on hb); clear hd hg hgw hb A4 B4 T4)
      obtain ⟨x0, x1⟩ := T5.out.pair
      have x2 := T5.out.doc.c0
      go_upto_region 11 with (first | (go_at_call 64; refine (HRC.out _ T5.out.doc).mono ?_; rintro e w6 ⟨r6, rfl, hn⟩; have N6 := hid hn; have T6 := hid (T5.out.on hn.below); have A6 := hid (A5.out.on hn.below); have B6 := hid (B5.out.on hn.below); clear hn A5 B5 T5 x0 x1 x2) | (go_at_call 66; refine (HRL2.out _ _ N6.out.mem _ _ B6.out).mono ?_; rintro e w7 ⟨q, rfl, hq, hR, hg, hge, hb⟩; have P7 := hid (pair_loaded N4.out D5.out.1 D5.out.2.1 D5.out.2.2.1 D5.out.2.2.2 N6.out hR hq hg hge hb); have T7 := hid (T6.out.on hb); have A7 := hid (A6.out.on hb); have B7 := hid (B6.out.on hb); clear hq hR hg hge hb T6 A6 B6))
      go_upto_region 15 with (go_at_call 15; refine (HSm.out _ _ _ _ _ _ L A7.out B7.out (by omega)).mono ?_; rintro e w8 ⟨rfl, hb⟩; have P8 := hid (P7.out.on hb); have T8 := hid (T7.out.on hb); clear hb T7 A7 B7 P7)
      have hpe := ptr_eq_self ⟨f.gm, 0, none⟩
      go_wp2_with (first | (go_at_call 13; refine (HMg.out _ _ _ _ _ P8.out.own).mono ?_; rintro e wx ⟨rfl, hw⟩; subst wx) | (refine wpList_store_st rfl 68 _ _ rfl g6 [.pointer (some ⟨g, 0, none⟩), .pointer (some ⟨q.g, 0, none⟩)] rfl rfl T8.out.b6 size68 rfl rfl ?_; intro w9 hc hb hs; have P9 := hid (P8.out.put T3.out.bl T3.out.b6.lt T3.out.n6 hb); have C9 := hid hc; clear hc hb hs P8 T8))
      exact ret_st2 rfl rfl g6 _ rfl C9.out under68 rfl size68 (.inr ⟨⟨g, gw, f⟩, q, D, rfl, P9.out, HDm.out⟩)
end Go.Proofs.Ytajkhkaidjjioaa
