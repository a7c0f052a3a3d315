import Derived.Test.YtgbpbfnpeeciaaaP19
import Derived.Test.YtgbpbfnpeeciaaaP01
namespace Go.Proofs.Ytgbpbfnpeeciaaa
open Go.RowKit
set_option maxHeartbeats 8000000
set_option maxRecDepth 100000
theorem wr64 (x : Int) (h0 : -9223372036854775808 ≤ x) (h1 : x ≤ 9223372036854775807) : IntKind.wrap .i64 x = x := by rw [IntKind.wrap_i64]; omega
theorem DV.but {G : List Nat} {w w' : World} {g gm gw off n c : Nat} {L : List Int} (h : DV w g gm gw off n c L) (hb : ButL G w w') (h1 : g ∉ G) (h2 : gw ∉ G) : DV w' g gm gw off n c L :=
  ⟨h.cel.but hb h1, fun j v hv => by
    have := h.rng j v hv
    unfold World.cell? at this ⊢
    rw [hb.block gw h.lt h2]
    exact this, h.len, by have := hb.size; have := h.lt; omega⟩
theorem DV.sl {w : World} {g gm gw off n c : Nat} {L : List Int} (h : DV w g gm gw off n c L) : w.cell? ⟨g, 1, none⟩ = some (.slice (some ⟨gw, off, none⟩) n c) := h.cel.cell 1
theorem DV.mp {w : World} {g gm gw off n c : Nat} {L : List Int} (h : DV w g gm gw off n c L) : w.cell? ⟨g, 0, none⟩ = some (ptr gm) := h.cel.cell 0
theorem pair_any (W : World) {g gm gw off n c : Nat} {L : List Int} (h : DV W g gm gw off n c L) (k : Nat) (hk : 2 * k + 2 < n) (hk1 : k ≤ 1000) (a b : Int) (ha : L[1 + 2 * k]? = some a) (hb : L[2 + 2 * k]? = some b) :
    Calls Try.prog 104 #[ptr g, .int .i64 (k : Int)] W fun x W' => x = .returned (twoV a b) ∧ Below W.heap.size W W' := by
  have q0 : 0 ≤ (k : Int) := by omega
  have q1 : (k : Int) ≤ 1000 := by omega
  have HP := hid (fun W => place_any W (k : Int) q0 q1)
  have HX := hid (h.on (below_one W (.cells #[.int .u32 0, .int .u32 0] 173)))
  have HC := hid (Cel.new W 173 [.int .u32 0, .int .u32 0])
  have HB := hid (below_one W (.cells #[.int .u32 0, .int .u32 0] 173))
  have HL : Hid (g < W.heap.size ∧ gw < W.heap.size) := hid ⟨h.cel.lt, h.lt⟩
  have HA : Hid (∀ w, DV w g gm gw off n c L → w.cell? ⟨gw, off + (1 + 2 * (k : Int)).toNat, none⟩ = some (.int .u32 a) ∧ w.cell? ⟨gw, off + (1 + 2 * (k : Int) + 1).toNat, none⟩ = some (.int .u32 b)) := hid (fun w hw => by
    rw [show (1 + 2 * (k : Int)).toNat = 1 + 2 * k by omega, show (1 + 2 * (k : Int) + 1).toNat = 2 + 2 * k by omega]
    exact ⟨hw.at _ _ ha, hw.at _ _ hb⟩)
  have i0 : 0 ≤ 1 + 2 * (k : Int) := by omega
  have i1 : 1 + 2 * (k : Int) < (n : Int) := by omega
  have i2 : 0 ≤ 1 + 2 * (k : Int) + 1 := by omega
  have i3 : 1 + 2 * (k : Int) + 1 < (n : Int) := by omega
  have iw : IntKind.wrap .i64 (1 + 2 * (k : Int) + 1) = 1 + 2 * (k : Int) + 1 := wr64 _ (by omega) (by omega)
  clear h ha hb hk hk1 q0 q1
  simp only [ptr, twoV, two] at *
  go_enter Try.func104, Try.ntmps104
  go_upto_region 2 with (go_at_call 93; refine (HP.out _).mono ?_; rintro x w1 ⟨rfl, rfl⟩)
  clear HP
  generalize 1 + 2 * (k : Int) = i at *
  generalize W.alloc _ = X at *
  generalize hg : W.heap.size = g4 at HC HL ⊢
  have HG := hid hg
  clear hg
  have HX0 := hid (HX.out.on (Below.refl _ _).drew)
  have HC0 := hid (HC.out.on (Below.refl _ _).drew)
  have HB0 := hid (below_on HB.out (Below.refl _ _).drew)
  clear HX HC HB
  refine wp_region_held_drew (S := fun w => DV w g gm gw off n c L) (by kernel_rfl) HX0.out (fun hHeld => ?_)
  refine tk 0 ⟨some 8, .move (.tmp 0), 34, "words.go:16", #[], none⟩ (.pointer (some ⟨g, 0, none⟩)) ?_
  simp only [Act.put, List.setIfInBounds_toArray, List.set_cons_zero, List.set_cons_succ]
  refine tk 1 ⟨some 9, .nilCheck (.tmp 8), 0, "words.go:16", #[⟨0, .data⟩], none⟩ (.pointer (some ⟨g, 0, none⟩)) ?_
  simp only [Act.put, List.setIfInBounds_toArray, List.set_cons_zero, List.set_cons_succ]
  refine tk 2 ⟨some 10, .fieldAddr 115 (.tmp 9) 1, 0, "words.go:16", #[⟨1, .data⟩], none⟩ (.pointer (some ⟨g, 1, none⟩)) ?_
  simp only [Act.put, List.setIfInBounds_toArray, List.set_cons_zero, List.set_cons_succ]
  refine tk 3 ⟨some 11, .load 113 (.tmp 10), 113, "words.go:16", #[⟨2, .data⟩], none⟩ (.slice (some ⟨gw, off, none⟩) n c) ?_ (hy := Or.inl ⟨by rfl, by intro w hSw; have hc := hSw.sl; go_simp⟩)
  simp only [Act.put, List.setIfInBounds_toArray, List.set_cons_zero, List.set_cons_succ]
  refine tk 4 ⟨some 12, .move (.tmp 5), 3, "words.go:16", #[], none⟩ (.int .i64 i) ?_
  simp only [Act.put, List.setIfInBounds_toArray, List.set_cons_zero, List.set_cons_succ]
  refine tk 5 ⟨some 13, .indexAddr 113 (.tmp 11) (.tmp 12), 0, "words.go:16", #[⟨3, .data⟩, ⟨4, .data⟩], none⟩ (.pointer (some ⟨gw, off + i.toNat, none⟩)) ?_
  simp only [Act.put, List.setIfInBounds_toArray, List.set_cons_zero, List.set_cons_succ]
  refine tk 6 ⟨some 14, .load 22 (.tmp 13), 22, "words.go:16", #[⟨5, .data⟩], none⟩ (.int .u32 a) ?_ (hy := Or.inl ⟨by rfl, by intro w hSw; have hc := (HA.out w hSw).1; go_simp⟩)
  simp only [Act.put, List.setIfInBounds_toArray, List.set_cons_zero, List.set_cons_succ]
  refine tk 7 ⟨some 15, .move (.tmp 0), 34, "words.go:16", #[], none⟩ (.pointer (some ⟨g, 0, none⟩)) ?_
  simp only [Act.put, List.setIfInBounds_toArray, List.set_cons_zero, List.set_cons_succ]
  refine tk 8 ⟨some 16, .nilCheck (.tmp 15), 0, "words.go:16", #[⟨7, .data⟩], none⟩ (.pointer (some ⟨g, 0, none⟩)) ?_
  simp only [Act.put, List.setIfInBounds_toArray, List.set_cons_zero, List.set_cons_succ]
  refine tk 9 ⟨some 17, .fieldAddr 115 (.tmp 16) 1, 0, "words.go:16", #[⟨8, .data⟩], none⟩ (.pointer (some ⟨g, 1, none⟩)) ?_
  simp only [Act.put, List.setIfInBounds_toArray, List.set_cons_zero, List.set_cons_succ]
  refine tk 10 ⟨some 18, .load 113 (.tmp 17), 113, "words.go:16", #[⟨9, .data⟩], none⟩ (.slice (some ⟨gw, off, none⟩) n c) ?_ (hy := Or.inl ⟨by rfl, by intro w hSw; have hc := hSw.sl; go_simp⟩)
  simp only [Act.put, List.setIfInBounds_toArray, List.set_cons_zero, List.set_cons_succ]
  refine tk 11 ⟨some 19, .move (.tmp 5), 3, "words.go:16", #[], none⟩ (.int .i64 i) ?_
  simp only [Act.put, List.setIfInBounds_toArray, List.set_cons_zero, List.set_cons_succ]
  refine tk 12 ⟨some 20, .binOp .add 3 (.tmp 19) (.const (.int .i64 1)) 3, 3, "words.go:16", #[⟨11, .data⟩], none⟩ (.int .i64 (i + 1)) ?_
  simp only [Act.put, List.setIfInBounds_toArray, List.set_cons_zero, List.set_cons_succ]
  refine tk 13 ⟨some 21, .indexAddr 113 (.tmp 18) (.tmp 20), 0, "words.go:16", #[⟨10, .data⟩, ⟨12, .data⟩], none⟩ (.pointer (some ⟨gw, off + (i + 1).toNat, none⟩)) ?_
  simp only [Act.put, List.setIfInBounds_toArray, List.set_cons_zero, List.set_cons_succ]
  refine tk 14 ⟨some 22, .load 22 (.tmp 21), 22, "words.go:16", #[⟨13, .data⟩], none⟩ (.int .u32 b) ?_ (hy := Or.inl ⟨by rfl, by intro w hSw; have hc := (HA.out w hSw).2; go_simp⟩)
  simp only [Act.put, List.setIfInBounds_toArray, List.set_cons_zero, List.set_cons_succ]
  refine tk 15 ⟨some 23, .build 173 #[(0, .tmp 14), (1, .tmp 22)], 173, "words.go:16", #[⟨6, .data⟩, ⟨14, .data⟩], none⟩ (.agg #[.int .u32 a, .int .u32 b]) ?_
  simp only [Act.put, List.setIfInBounds_toArray, List.set_cons_zero, List.set_cons_succ]
  refine wpAnyH_ready (rs := [16]) (by kernel_rfl) (by simp) (AllReadyH.cons (o := ⟨none, .store 173 (.tmp 4) (.tmp 23), 0, "words.go:16", #[⟨15, .data⟩, ⟨0, .phase⟩, ⟨1, .phase⟩, ⟨2, .phase⟩, ⟨3, .phase⟩, ⟨4, .phase⟩, ⟨5, .phase⟩, ⟨6, .phase⟩, ⟨7, .phase⟩, ⟨8, .phase⟩, ⟨9, .phase⟩, ⟨10, .phase⟩, ⟨11, .phase⟩, ⟨12, .phase⟩, ⟨13, .phase⟩, ⟨14, .phase⟩, ⟨15, .phase⟩], none⟩) rfl (fun KQ hK => ?_) AllReadyH.nil)
  rw [if_pos (by rfl)]
  refine wp_store_st 173 _ _ rfl g4 (two a b) rfl rfl HC0.out sizeA rfl rfl ?_
  intro w2 hc hb hs
  have HX1 := hid (HX0.out.but hb (by have := HL.out.1; simp; omega) (by have := HL.out.2; simp; omega))
  have HE := hid (And.intro hc (HB0.out.trans (hb.below (by have := HG.out; simp; omega) HB0.out.size)))
  clear hc hb hs
  refine hK.out _ _ HX1.out (fun hHeld => ?_)
  clear hK KQ
  try simp only [Act.put]
  refine wpAnyH_done (by kernel_rfl) ?_ _
  go_wp2_with fail
  exact ret_st rfl rfl g4 _ rfl HE.out.1 underA rfl (by rw [sizeA]; rfl) ⟨rfl, HE.out.2⟩
theorem bag_one (W : World) (t : TypeId) (cs : List Value) : Bag W (W.alloc (.cells cs.toArray t)) [(W.heap.size, t, cs)] :=
  ⟨fun p hp => by rw [List.mem_singleton] at hp; subst hp; exact Cel.new W t cs, below_one _ _⟩
theorem Bag.put {W w w2 : World} {L : List (Nat × TypeId × List Value)} (h : Bag W w L) (k : Nat) {g : Nat} {t : TypeId} {cs es : List Value} (_hk : L[k]? = some (g, t, cs)) (hg : W.heap.size ≤ g) (hne : ∀ j q, L[j]? = some q → j ≠ k → q.1 ≠ g) (hc : Cel w2 g t es) (hb : ButL [g] w w2) : Bag W w2 (L.set k (g, t, es)) :=
  ⟨fun q hq => by
    obtain ⟨j, hj⟩ := List.mem_iff_getElem?.1 hq
    rw [List.getElem?_set] at hj
    by_cases e : k = j
    · subst e
      rw [if_pos rfl] at hj
      split at hj
      · injection hj with hj; subst hj; exact hc
      · cases hj
    · rw [if_neg e] at hj
      exact (h.all q (List.mem_of_getElem? hj)).but hb (by rw [List.mem_singleton]; exact hne j q hj (fun h => e h.symm)), h.below.trans (hb.below (by simpa using hg) h.below.size)⟩
theorem at_dv (W : World) {g gm gw off n c : Nat} {L : List Int} (h : DV W g gm gw off n c L) (k : Nat) (hk : 2 * k + 2 < n) (hk1 : k ≤ 1000) (a b : Int) (ha : L[1 + 2 * k]? = some a) (hb : L[2 + 2 * k]? = some b) (a0 : 0 ≤ a) (a1 : a < 4294967296) (b0 : 0 ≤ b) (b1 : b < 4294967296) :
    Calls Try.prog 97 #[ptr g, .int .i64 (k : Int)] W fun x W' => x = .returned (dec a b).v ∧ Below W.heap.size W W' := by
  have HX := hid (h.on (below_one W (.cells En.zero.cs.toArray 136)))
  have B0 := hid (bag_one W 136 En.zero.cs)
  have HP := hid (fun w (hw : DV w g gm gw off n c L) => pair_any w hw k hk hk1 a b ha hb)
  have HD := hid (fun W => decode_any W a b a0 a1 b0 b1)
  clear h ha hb a0 a1 b0 b1 hk hk1
  generalize dec a b = D at *
  generalize decE a b = DE at *
  simp only [ptr, En.v, En.zero, En.cs] at HX B0 HP HD ⊢
  go_enter Try.func97, Try.ntmps97
  go_upto_region 1 with fail
  generalize W.alloc _ = X at *
  generalize hg : W.heap.size = g4 at B0 ⊢
  have HG := hid hg
  clear hg
  go_upto_region 2 with (first | (go_at_call 104; refine (HP.out _ HX.out).mono ?_; rintro x w1 ⟨rfl, hb⟩; have B1 := hid (B0.out.on hb); clear hb) | (go_at_call 103; refine (HD.out _).mono ?_; rintro x w2 ⟨rfl, hb⟩; have B2 := hid (B1.out.on hb); clear hb) | (refine wpList_store_st rfl 136 _ _ rfl w2.heap.size D.cs rfl rfl (Cel.new w2 136 En.zero.cs) sizeE rfl rfl ?_; intro w3 hc hb hs; have B3 := hid (B2.out.add hc hb); clear hc hb hs))
  clear B0 B1
  have HL : Hid (w2.heap.size ≠ g4) := hid (by have := (B2.out.get 0 rfl).lt; omega)
  generalize w2.heap.size = g5 at *
  go_wp2_with (first | (refine wpList_load_mid rfl 136 _ rfl g5 0 rfl _ _ ((B3.out.get 0 rfl).range) underE rfl (by rw [sizeE]; rfl) ?_) | (refine wpList_store_st rfl 136 _ _ rfl g4 D.cs rfl rfl (B3.out.get 1 rfl) sizeE rfl rfl ?_; intro w4 hc hb hs; have HE := hid (And.intro hc (B3.out.below.trans (hb.below (by have := HG.out; simp; omega) B3.out.below.size))); clear hc hb hs))
  exact ret_st rfl rfl g4 _ rfl HE.out.1 underE rfl (by rw [sizeE]; rfl) ⟨rfl, HE.out.2⟩
theorem dat_any (W : World) (p : Dp) (d : DS) (h : DB W p d) (k : Nat) (hk : k < d.m.ns) :
    Calls Try.prog 97 #[ptr p.g, .int .i64 (k : Int)] W fun x W' => x = .returned (d.at k).v ∧ Below W.heap.size W W' := by
  have h1 := wdsOf_at d.b d.E k (by rw [h.ok.len]; exact hk)
  have h2 := h.ok.n64
  have h3 := (dec_w (h.ok.ok k hk)).1
  have := at_dv W h.dv k (by omega) (by omega) (e0 (d.at k)) (e1 (d.at k)) h1.1 h1.2 (e0_range _).1 (e0_range _).2 (e1_range _).1 (e1_range _).2
  rwa [h3] at this
def DS.there (d : DS) (p : Int) : Bool := decide (0 ≤ p ∧ p < (d.m.ns : Int))
def DS.ent (d : DS) (p : Int) : En := if d.there p = true then d.at p.toNat else En.zero
def DS.entE (d : DS) (p : Int) : Int := if d.there p = true then 0 else 5
theorem built_zE : Try.prog.built 136 [] = some En.zero.cs.toArray := by kernel_rfl
theorem wpList_build_zE {ops : Array Oper} {rest : List Oper} {o : Oper} {a : Act} {w : World} {Q : Exit → Act → World → Prop} (hgd : o.guard = none) (ho : o.op = .build 136 #[])
    (h : wpList Try.prog ops Q rest (a.put o.dst (.agg En.zero.cs.toArray)) w) : wpList Try.prog ops Q (o :: rest) a w :=
  wpList_build_f hgd 136 _ ho #[] (by simp) _ built_zE h
theorem entry_any (W : World) (p : Dp) (d : DS) (h : DB W p d) (q : Int) :
    Calls Try.prog 69 #[ptr p.g, .int .i64 q] W fun x W' => x = .returned (.tuple #[(d.ent q).v, .int .i64 (d.entE q)]) ∧ Below W.heap.size W W' := by
  have B0 := hid (bag_one W 136 En.zero.cs)
  have HX := hid (h.on (below_one W (.cells En.zero.cs.toArray 136)))
  have HP := hid (fun w (hw : DB w p d) => pages_any w p d hw)
  by_cases hq : 0 ≤ q ∧ q < (d.m.ns : Int)
  · have ht : d.there q = true := decide_eq_true hq
    obtain ⟨q0, q1⟩ := hq
    have HA := hid (fun w (hw : DB w p d) => dat_any w p d hw q.toNat (by omega))
    rw [Int.toNat_of_nonneg q0] at HA
    have e1 : d.ent q = d.at q.toNat := by simp [DS.ent, ht]
    have e2 : d.entE q = 0 := by simp [DS.entE, ht]
    rw [e1, e2]
    clear e1 e2 ht h
    generalize d.at q.toNat = D at *
    generalize (d.m.ns : Int) = n at *
    simp only [ptr, En.v, En.zero, En.cs] at HX B0 HP HA ⊢
    go_enter Try.func69, Try.ntmps69
    go_upto_region 1 with fail
    generalize W.alloc _ = X at *
    generalize hg : W.heap.size = g4 at B0 ⊢
    have HG := hid hg
    clear hg
    go_wp2_with (first | (go_at_call 28; refine (HP.out _ HX.out).mono ?_; rintro x w1 ⟨rfl, rfl⟩; clear HP) | (go_at_call 97; refine (HA.out _ HX.out).mono ?_; rintro x w2 ⟨rfl, hb⟩; have B1 := hid (B0.out.on hb); clear hb) | (revert B1; intro B1; refine wpList_store_st rfl 136 _ _ rfl g4 D.cs rfl rfl (B1.out.get 0 rfl) sizeE rfl rfl ?_; intro w4 hc hb hs; have HE := hid (And.intro hc (B1.out.below.trans (hb.below (by have := HG.out; simp; omega) B1.out.below.size))); clear hc hb hs))
    exact ret_st2 rfl rfl g4 _ rfl HE.out.1 underE rfl sizeE ⟨rfl, HE.out.2⟩
  · have ht : d.there q = false := decide_eq_false hq
    have e1 : d.ent q = En.zero := by simp [DS.ent, ht]
    have e2 : d.entE q = 5 := by simp [DS.entE, ht]
    rw [e1, e2]
    have hq' : q < 0 ∨ (0 ≤ q ∧ (d.m.ns : Int) ≤ q) := by omega
    clear e1 e2 ht h hq
    generalize (d.m.ns : Int) = n at *
    simp only [ptr, En.v, En.zero, En.cs] at HX B0 HP ⊢
    rcases hq' with hq | ⟨hq0, hq⟩
    · go_enter Try.func69, Try.ntmps69
      go_upto_region 1 with fail
      generalize W.alloc _ = X at *
      generalize hg : W.heap.size = g4 at B0 ⊢
      have HG := hid hg
      clear hg
      go_wp2_with (first | (refine wpList_build_zE rfl rfl ?_) | (refine wpList_store_st rfl 136 _ _ rfl g4 En.zero.cs rfl rfl (B0.out.get 0 rfl) sizeE rfl rfl ?_; intro w4 hc hb hs; have HE := hid (And.intro hc (B0.out.below.trans (hb.below (by have := HG.out; simp; omega) B0.out.below.size))); clear hc hb hs))
      exact ret_st2 rfl rfl g4 _ rfl HE.out.1 underE rfl sizeE ⟨rfl, HE.out.2⟩
    · go_enter Try.func69, Try.ntmps69
      go_upto_region 1 with fail
      generalize W.alloc _ = X at *
      generalize hg : W.heap.size = g4 at B0 ⊢
      have HG := hid hg
      clear hg
      go_wp2_with (first | (go_at_call 28; refine (HP.out _ HX.out).mono ?_; rintro x w1 ⟨rfl, rfl⟩; clear HP) | (refine wpList_build_zE rfl rfl ?_) | (refine wpList_store_st rfl 136 _ _ rfl g4 En.zero.cs rfl rfl (B0.out.get 0 rfl) sizeE rfl rfl ?_; intro w4 hc hb hs; have HE := hid (And.intro hc (B0.out.below.trans (hb.below (by have := HG.out; simp; omega) B0.out.below.size))); clear hc hb hs))
      exact ret_st2 rfl rfl g4 _ rfl HE.out.1 underE rfl sizeE ⟨rfl, HE.out.2⟩
end Go.Proofs.Ytgbpbfnpeeciaaa
