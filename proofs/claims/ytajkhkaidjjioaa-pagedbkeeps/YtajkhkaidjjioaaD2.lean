/- pair 91, at 87, Entry 55. -/
import Derived.Test.YtajkhkaidjjioaaD1
namespace Go.Proofs.Ytajkhkaidjjioaa
open Go.RowKit
set_option maxHeartbeats 8000000
set_option maxRecDepth 100000
theorem wr64 (x : Int) (h0 : -9223372036854775808 ≤ x) (h1 : x ≤ 9223372036854775807) : IntKind.wrap .i64 x = x := by rw [IntKind.wrap_i64]; omega
theorem DV.but {G : List Nat} {w w' : World} {g gm gw off n c : Nat} {L : List Int} (h : DV w g gm gw off n c L) (hb : ButL G w w') (h1 : g ∉ G) (h2 : gw ∉ G) : DV w' g gm gw off n c L :=
  ⟨h.cel.but hb h1, fun j v hv => by
    have := h.rng j v hv
    unfold World.cell? at this ⊢
    rw [hb.block gw h.lt h2]
    exact this, h.len, by have := hb.size; have := h.lt; omega⟩
theorem DV.sl {w : World} {g gm gw off n c : Nat} {L : List Int} (h : DV w g gm gw off n c L) : w.cell? ⟨g, 1, none⟩ = some (.slice (some ⟨gw, off, none⟩) n c) := h.cel.cell 1
theorem DV.mp {w : World} {g gm gw off n c : Nat} {L : List Int} (h : DV w g gm gw off n c L) : w.cell? ⟨g, 0, none⟩ = some (ptr gm) := h.cel.cell 0
theorem pair_any (W : World) {g gm gw off n c : Nat} {L : List Int} (h : DV W g gm gw off n c L) (k : Nat) (hk : 2 * k + 2 < n) (hk1 : k ≤ 1000) (a b : Int) (ha : L[1 + 2 * k]? = some a) (hb : L[2 + 2 * k]? = some b) :
    Calls Try.prog 91 #[ptr g, .int .i64 (k : Int)] W fun x W' => x = .returned (twoV a b) ∧ Below W.heap.size W W' := by
  have q0 : 0 ≤ (k : Int) := by omega
  have q1 : (k : Int) ≤ 1000 := by omega
  have HP := hid (fun W => place_any W (k : Int) q0 q1)
  have HX := hid (h.on (below_one W (.cells #[.int .u32 0, .int .u32 0] 137)))
  have HC := hid (Cel.new W 137 [.int .u32 0, .int .u32 0])
  have HB := hid (below_one W (.cells #[.int .u32 0, .int .u32 0] 137))
  have HL : Hid (g < W.heap.size ∧ gw < W.heap.size) := hid ⟨h.cel.lt, h.lt⟩
  have HA : Hid (∀ w, DV w g gm gw off n c L → w.cell? ⟨gw, off + (1 + 2 * (k : Int)).toNat, none⟩ = some (.int .u32 a) ∧ w.cell? ⟨gw, off + (1 + 2 * (k : Int) + 1).toNat, none⟩ = some (.int .u32 b)) := hid (fun w hw => by
    rw [show (1 + 2 * (k : Int)).toNat = 1 + 2 * k by omega, show (1 + 2 * (k : Int) + 1).toNat = 2 + 2 * k by omega]
    exact ⟨hw.at _ _ ha, hw.at _ _ hb⟩)
  have i0 : 0 ≤ 1 + 2 * (k : Int) := by omega
  have i1 : 1 + 2 * (k : Int) < (n : Int) := by omega
  have i2 : 0 ≤ 1 + 2 * (k : Int) + 1 := by omega
  have i3 : 1 + 2 * (k : Int) + 1 < (n : Int) := by omega
  have iw : IntKind.wrap .i64 (1 + 2 * (k : Int) + 1) = 1 + 2 * (k : Int) + 1 := wr64 _ (by omega) (by omega)
  clear h ha hb hk hk1 q0 q1
  simp only [ptr, twoV, two] at *
  go_enter Try.func91, Try.ntmps91
  go_upto_region 2 with (go_at_call 89; refine (HP.out _).mono ?_; rintro x w1 ⟨rfl, rfl⟩)
  clear HP
  generalize 1 + 2 * (k : Int) = i at *
  generalize W.alloc _ = X at *
  generalize hg : W.heap.size = g4 at HC HL ⊢
  have HG := hid hg
  clear hg
  have HX0 := hid (HX.out.on (Below.refl _ _).drew)
  have HC0 := hid (HC.out.on (Below.refl _ _).drew)
  have HB0 := hid (below_on HB.out (Below.refl _ _).drew)
  clear HX HC HB
  refine wp_region_held_drew (S := fun w => DV w g gm gw off n c L) (by kernel_rfl) HX0.out (fun hHeld => ?_)
  refine wpAnyH_take (i := 0) (oi := { dst := some 8, op := Op.move (Operand.tmp 0), type := 23, pos := "words.go:16", after := #[], guard := none }) (v := .pointer (some ⟨g, 0, none⟩)) rfl (by kernel_rfl) (by kernel_rfl) (by kernel_rfl) (fun _ _ _ h => h) (Or.inl ⟨by rfl, by intro w hSw; go_simp⟩) (by assumption) ?_
  simp only [Act.put, List.setIfInBounds_toArray, List.set_cons_zero, List.set_cons_succ]
  refine wpAnyH_take (i := 1) (oi := { dst := some 9, op := Op.nilCheck (Operand.tmp 8), type := 0, pos := "words.go:16", after := #[{ on := 0, ground := Ground.data }], guard := none }) (v := .pointer (some ⟨g, 0, none⟩)) rfl (by kernel_rfl) (by kernel_rfl) (by kernel_rfl) (fun _ _ _ h => h) (Or.inl ⟨by rfl, by intro w hSw; go_simp⟩) (by assumption) ?_
  simp only [Act.put, List.setIfInBounds_toArray, List.set_cons_zero, List.set_cons_succ]
  refine wpAnyH_take (i := 2) (oi := { dst := some 10, op := Op.fieldAddr 92 (Operand.tmp 9) 1, type := 0, pos := "words.go:16", after := #[{ on := 1, ground := Ground.data }], guard := none }) (v := .pointer (some ⟨g, 1, none⟩)) rfl (by kernel_rfl) (by kernel_rfl) (by kernel_rfl) (fun _ _ _ h => h) (Or.inl ⟨by rfl, by intro w hSw; go_simp⟩) (by assumption) ?_
  simp only [Act.put, List.setIfInBounds_toArray, List.set_cons_zero, List.set_cons_succ]
  refine wpAnyH_take (i := 3) (oi := { dst := some 11, op := Op.load 32 (Operand.tmp 10), type := 32, pos := "words.go:16", after := #[{ on := 2, ground := Ground.data }], guard := none }) (v := .slice (some ⟨gw, off, none⟩) n c) rfl (by kernel_rfl) (by kernel_rfl) (by kernel_rfl) (fun _ _ _ h => h) (Or.inl ⟨by rfl, by intro w hSw; have hc := hSw.sl; go_simp⟩) (by assumption) ?_
  simp only [Act.put, List.setIfInBounds_toArray, List.set_cons_zero, List.set_cons_succ]
  refine wpAnyH_take (i := 4) (oi := { dst := some 12, op := Op.move (Operand.tmp 5), type := 3, pos := "words.go:16", after := #[], guard := none }) (v := .int .i64 i) rfl (by kernel_rfl) (by kernel_rfl) (by kernel_rfl) (fun _ _ _ h => h) (Or.inl ⟨by rfl, by intro w hSw; go_simp⟩) (by assumption) ?_
  simp only [Act.put, List.setIfInBounds_toArray, List.set_cons_zero, List.set_cons_succ]
  refine wpAnyH_take (i := 5) (oi := { dst := some 13, op := Op.indexAddr 32 (Operand.tmp 11) (Operand.tmp 12), type := 0, pos := "words.go:16", after := #[{ on := 3, ground := Ground.data }, { on := 4, ground := Ground.data }], guard := none }) (v := .pointer (some ⟨gw, off + i.toNat, none⟩)) rfl (by kernel_rfl) (by kernel_rfl) (by kernel_rfl) (fun _ _ _ h => h) (Or.inl ⟨by rfl, by intro w hSw; go_simp⟩) (by assumption) ?_
  simp only [Act.put, List.setIfInBounds_toArray, List.set_cons_zero, List.set_cons_succ]
  refine wpAnyH_take (i := 6) (oi := { dst := some 14, op := Op.load 27 (Operand.tmp 13), type := 27, pos := "words.go:16", after := #[{ on := 5, ground := Ground.data }], guard := none }) (v := .int .u32 a) rfl (by kernel_rfl) (by kernel_rfl) (by kernel_rfl) (fun _ _ _ h => h) (Or.inl ⟨by rfl, by intro w hSw; have hc := (HA.out w hSw).1; go_simp⟩) (by assumption) ?_
  simp only [Act.put, List.setIfInBounds_toArray, List.set_cons_zero, List.set_cons_succ]
  refine wpAnyH_take (i := 7) (oi := { dst := some 15, op := Op.move (Operand.tmp 0), type := 23, pos := "words.go:16", after := #[], guard := none }) (v := .pointer (some ⟨g, 0, none⟩)) rfl (by kernel_rfl) (by kernel_rfl) (by kernel_rfl) (fun _ _ _ h => h) (Or.inl ⟨by rfl, by intro w hSw; go_simp⟩) (by assumption) ?_
  simp only [Act.put, List.setIfInBounds_toArray, List.set_cons_zero, List.set_cons_succ]
  refine wpAnyH_take (i := 8) (oi := { dst := some 16, op := Op.nilCheck (Operand.tmp 15), type := 0, pos := "words.go:16", after := #[{ on := 7, ground := Ground.data }], guard := none }) (v := .pointer (some ⟨g, 0, none⟩)) rfl (by kernel_rfl) (by kernel_rfl) (by kernel_rfl) (fun _ _ _ h => h) (Or.inl ⟨by rfl, by intro w hSw; go_simp⟩) (by assumption) ?_
  simp only [Act.put, List.setIfInBounds_toArray, List.set_cons_zero, List.set_cons_succ]
  refine wpAnyH_take (i := 9) (oi := { dst := some 17, op := Op.fieldAddr 92 (Operand.tmp 16) 1, type := 0, pos := "words.go:16", after := #[{ on := 8, ground := Ground.data }], guard := none }) (v := .pointer (some ⟨g, 1, none⟩)) rfl (by kernel_rfl) (by kernel_rfl) (by kernel_rfl) (fun _ _ _ h => h) (Or.inl ⟨by rfl, by intro w hSw; go_simp⟩) (by assumption) ?_
  simp only [Act.put, List.setIfInBounds_toArray, List.set_cons_zero, List.set_cons_succ]
  refine wpAnyH_take (i := 10) (oi := { dst := some 18, op := Op.load 32 (Operand.tmp 17), type := 32, pos := "words.go:16", after := #[{ on := 9, ground := Ground.data }], guard := none }) (v := .slice (some ⟨gw, off, none⟩) n c) rfl (by kernel_rfl) (by kernel_rfl) (by kernel_rfl) (fun _ _ _ h => h) (Or.inl ⟨by rfl, by intro w hSw; have hc := hSw.sl; go_simp⟩) (by assumption) ?_
  simp only [Act.put, List.setIfInBounds_toArray, List.set_cons_zero, List.set_cons_succ]
  refine wpAnyH_take (i := 11) (oi := { dst := some 19, op := Op.move (Operand.tmp 5), type := 3, pos := "words.go:16", after := #[], guard := none }) (v := .int .i64 i) rfl (by kernel_rfl) (by kernel_rfl) (by kernel_rfl) (fun _ _ _ h => h) (Or.inl ⟨by rfl, by intro w hSw; go_simp⟩) (by assumption) ?_
  simp only [Act.put, List.setIfInBounds_toArray, List.set_cons_zero, List.set_cons_succ]
  refine wpAnyH_take (i := 12) (oi := { dst := some 20, op := Op.binOp BinOp.add 3 (Operand.tmp 19) (Operand.const (Value.int IntKind.i64 1)) 3, type := 3, pos := "words.go:16", after := #[{ on := 11, ground := Ground.data }], guard := none }) (v := .int .i64 (i + 1)) rfl (by kernel_rfl) (by kernel_rfl) (by kernel_rfl) (fun _ _ _ h => h) (Or.inl ⟨by rfl, by intro w hSw; go_simp⟩) (by assumption) ?_
  simp only [Act.put, List.setIfInBounds_toArray, List.set_cons_zero, List.set_cons_succ]
  refine wpAnyH_take (i := 13) (oi := { dst := some 21, op := Op.indexAddr 32 (Operand.tmp 18) (Operand.tmp 20), type := 0, pos := "words.go:16", after := #[{ on := 10, ground := Ground.data }, { on := 12, ground := Ground.data }], guard := none }) (v := .pointer (some ⟨gw, off + (i + 1).toNat, none⟩)) rfl (by kernel_rfl) (by kernel_rfl) (by kernel_rfl) (fun _ _ _ h => h) (Or.inl ⟨by rfl, by intro w hSw; go_simp⟩) (by assumption) ?_
  simp only [Act.put, List.setIfInBounds_toArray, List.set_cons_zero, List.set_cons_succ]
  refine wpAnyH_take (i := 14) (oi := { dst := some 22, op := Op.load 27 (Operand.tmp 21), type := 27, pos := "words.go:16", after := #[{ on := 13, ground := Ground.data }], guard := none }) (v := .int .u32 b) rfl (by kernel_rfl) (by kernel_rfl) (by kernel_rfl) (fun _ _ _ h => h) (Or.inl ⟨by rfl, by intro w hSw; have hc := (HA.out w hSw).2; go_simp⟩) (by assumption) ?_
  simp only [Act.put, List.setIfInBounds_toArray, List.set_cons_zero, List.set_cons_succ]
  refine wpAnyH_take (i := 15) (oi := { dst := some 23, op := Op.build 137 #[(0, Operand.tmp 14), (1, Operand.tmp 22)], type := 137, pos := "words.go:16", after := #[{ on := 6, ground := Ground.data }, { on := 14, ground := Ground.data }], guard := none }) (v := .agg #[.int .u32 a, .int .u32 b]) rfl (by kernel_rfl) (by kernel_rfl) (by kernel_rfl) (fun _ _ _ h => h) (Or.inl ⟨by rfl, by intro w hSw; go_simp⟩) (by assumption) ?_
  simp only [Act.put, List.setIfInBounds_toArray, List.set_cons_zero, List.set_cons_succ]
  refine wpAnyH_ready (rs := [16]) (by kernel_rfl) (by simp) (AllReadyH.cons (o := { dst := none, op := Op.store 137 (Operand.tmp 4) (Operand.tmp 23), type := 0, pos := "words.go:16", after := #[{ on := 15, ground := Ground.data }, { on := 0, ground := Ground.phase }, { on := 1, ground := Ground.phase }, { on := 2, ground := Ground.phase }, { on := 3, ground := Ground.phase }, { on := 4, ground := Ground.phase }, { on := 5, ground := Ground.phase }, { on := 6, ground := Ground.phase }, { on := 7, ground := Ground.phase }, { on := 8, ground := Ground.phase }, { on := 9, ground := Ground.phase }, { on := 10, ground := Ground.phase }, { on := 11, ground := Ground.phase }, { on := 12, ground := Ground.phase }, { on := 13, ground := Ground.phase }, { on := 14, ground := Ground.phase }, { on := 15, ground := Ground.phase }], guard := none }) rfl (fun KQ hK => ?_) AllReadyH.nil)
  rw [if_pos (by rfl)]
  refine wp_store_st 137 _ _ rfl g4 (two a b) rfl rfl HC0.out sizeA rfl rfl ?_
  intro w2 hc hb hs
  have HX1 := hid (HX0.out.but hb (by have := HL.out.1; simp; omega) (by have := HL.out.2; simp; omega))
  have HE := hid (And.intro hc (HB0.out.trans (hb.below (by have := HG.out; simp; omega) HB0.out.size)))
  clear hc hb hs
  refine hK.out _ _ HX1.out (fun hHeld => ?_)
  clear hK KQ
  try simp only [Act.put]
  refine wpAnyH_done (by kernel_rfl) ?_ _
  go_wp2_with fail
  exact ret_st rfl rfl g4 _ rfl HE.out.1 underA rfl (by rw [sizeA]; rfl) ⟨rfl, HE.out.2⟩
theorem bag_one (W : World) (t : TypeId) (cs : List Value) : Bag W (W.alloc (.cells cs.toArray t)) [(W.heap.size, t, cs)] :=
  ⟨fun p hp => by rw [List.mem_singleton] at hp; subst hp; exact Cel.new W t cs, below_one _ _⟩
theorem Bag.put {W w w2 : World} {L : List (Nat × TypeId × List Value)} (h : Bag W w L) (k : Nat) {g : Nat} {t : TypeId} {cs es : List Value} (_hk : L[k]? = some (g, t, cs)) (hg : W.heap.size ≤ g) (hne : ∀ j q, L[j]? = some q → j ≠ k → q.1 ≠ g) (hc : Cel w2 g t es) (hb : ButL [g] w w2) : Bag W w2 (L.set k (g, t, es)) :=
  ⟨fun q hq => by
    obtain ⟨j, hj⟩ := List.mem_iff_getElem?.1 hq
    rw [List.getElem?_set] at hj
    by_cases e : k = j
    · subst e
      rw [if_pos rfl] at hj
      split at hj
      · injection hj with hj; subst hj; exact hc
      · cases hj
    · rw [if_neg e] at hj
      exact (h.all q (List.mem_of_getElem? hj)).but hb (by rw [List.mem_singleton]; exact hne j q hj (fun h => e h.symm)), h.below.trans (hb.below (by simpa using hg) h.below.size)⟩
theorem at_dv (W : World) {g gm gw off n c : Nat} {L : List Int} (h : DV W g gm gw off n c L) (k : Nat) (hk : 2 * k + 2 < n) (hk1 : k ≤ 1000) (a b : Int) (ha : L[1 + 2 * k]? = some a) (hb : L[2 + 2 * k]? = some b) (a0 : 0 ≤ a) (a1 : a < 4294967296) (b0 : 0 ≤ b) (b1 : b < 4294967296) :
    Calls Try.prog 87 #[ptr g, .int .i64 (k : Int)] W fun x W' => x = .returned (dec a b).v ∧ Below W.heap.size W W' := by
  have HX := hid (h.on (below_one W (.cells En.zero.cs.toArray 62)))
  have B0 := hid (bag_one W 62 En.zero.cs)
  have HP := hid (fun w (hw : DV w g gm gw off n c L) => pair_any w hw k hk hk1 a b ha hb)
  have HD := hid (fun W => decode_any W a b a0 a1 b0 b1)
  clear h ha hb a0 a1 b0 b1 hk hk1
  generalize dec a b = D at *
  generalize decE a b = DE at *
  simp only [ptr, En.v, En.zero, En.cs] at HX B0 HP HD ⊢
  go_enter Try.func87, Try.ntmps87
  go_upto_region 1 with fail
  generalize W.alloc _ = X at *
  generalize hg : W.heap.size = g4 at B0 ⊢
  have HG := hid hg
  clear hg
  go_upto_region 2 with (first | (go_at_call 91; refine (HP.out _ HX.out).mono ?_; rintro x w1 ⟨rfl, hb⟩; have B1 := hid (B0.out.on hb); clear hb) | (go_at_call 90; refine (HD.out _).mono ?_; rintro x w2 ⟨rfl, hb⟩; have B2 := hid (B1.out.on hb); clear hb) | (refine wpList_store_st rfl 62 _ _ rfl w2.heap.size D.cs rfl rfl (Cel.new w2 62 En.zero.cs) sizeE rfl rfl ?_; intro w3 hc hb hs; have B3 := hid (B2.out.add hc hb); clear hc hb hs))
  clear B0 B1
  have HL : Hid (w2.heap.size ≠ g4) := hid (by have := (B2.out.get 0 rfl).lt; omega)
  generalize w2.heap.size = g5 at *
  go_wp2_with (first | (refine wpList_load_mid rfl 62 _ rfl g5 0 rfl _ _ ((B3.out.get 0 rfl).range) underE rfl (by rw [sizeE]; rfl) ?_) | (refine wpList_store_st rfl 62 _ _ rfl g4 D.cs rfl rfl (B3.out.get 1 rfl) sizeE rfl rfl ?_; intro w4 hc hb hs; have HE := hid (And.intro hc (B3.out.below.trans (hb.below (by have := HG.out; simp; omega) B3.out.below.size))); clear hc hb hs))
  exact ret_st rfl rfl g4 _ rfl HE.out.1 underE rfl (by rw [sizeE]; rfl) ⟨rfl, HE.out.2⟩
theorem dat_any (W : World) (p : Dp) (d : DS) (h : DB W p d) (k : Nat) (hk : k < d.m.ns) :
    Calls Try.prog 87 #[ptr p.g, .int .i64 (k : Int)] W fun x W' => x = .returned (d.at k).v ∧ Below W.heap.size W W' := by
  have h1 := wdsOf_at d.b d.E k (by rw [h.ok.len]; exact hk)
  have h2 := h.ok.n64
  have h3 := (dec_w (h.ok.ok k hk)).1
  have := at_dv W h.dv k (by omega) (by omega) (e0 (d.at k)) (e1 (d.at k)) h1.1 h1.2 (e0_range _).1 (e0_range _).2 (e1_range _).1 (e1_range _).2
  rwa [h3] at this
/-- What Entry answers. -/
def DS.there (d : DS) (p : Int) : Bool := decide (0 ≤ p ∧ p < (d.m.ns : Int))
def DS.ent (d : DS) (p : Int) : En := if d.there p = true then d.at p.toNat else En.zero
def DS.entE (d : DS) (p : Int) : Int := if d.there p = true then 0 else 5
theorem built_zE : Try.prog.built 62 [] = some En.zero.cs.toArray := by kernel_rfl
theorem wpList_build_zE {ops : Array Oper} {rest : List Oper} {o : Oper} {a : Act} {w : World} {Q : Exit → Act → World → Prop} (hgd : o.guard = none) (ho : o.op = .build 62 #[])
    (h : wpList Try.prog ops Q rest (a.put o.dst (.agg En.zero.cs.toArray)) w) : wpList Try.prog ops Q (o :: rest) a w :=
  wpList_build_f hgd 62 _ ho #[] (by simp) _ built_zE h
theorem entry_any (W : World) (p : Dp) (d : DS) (h : DB W p d) (q : Int) :
    Calls Try.prog 55 #[ptr p.g, .int .i64 q] W fun x W' => x = .returned (.tuple #[(d.ent q).v, .int .i64 (d.entE q)]) ∧ Below W.heap.size W W' := by
  have B0 := hid (bag_one W 62 En.zero.cs)
  have HX := hid (h.on (below_one W (.cells En.zero.cs.toArray 62)))
  have HP := hid (fun w (hw : DB w p d) => pages_any w p d hw)
  by_cases hq : 0 ≤ q ∧ q < (d.m.ns : Int)
  · have ht : d.there q = true := decide_eq_true hq
    obtain ⟨q0, q1⟩ := hq
    have HA := hid (fun w (hw : DB w p d) => dat_any w p d hw q.toNat (by omega))
    rw [Int.toNat_of_nonneg q0] at HA
    have e1 : d.ent q = d.at q.toNat := by simp [DS.ent, ht]
    have e2 : d.entE q = 0 := by simp [DS.entE, ht]
    rw [e1, e2]
    clear e1 e2 ht h
    generalize d.at q.toNat = D at *
    generalize (d.m.ns : Int) = n at *
    simp only [ptr, En.v, En.zero, En.cs] at HX B0 HP HA ⊢
    go_enter Try.func55, Try.ntmps55
    go_upto_region 1 with fail
    generalize W.alloc _ = X at *
    generalize hg : W.heap.size = g4 at B0 ⊢
    have HG := hid hg
    clear hg
    go_wp2_with (first | (go_at_call 46; refine (HP.out _ HX.out).mono ?_; rintro x w1 ⟨rfl, rfl⟩; clear HP) | (go_at_call 87; refine (HA.out _ HX.out).mono ?_; rintro x w2 ⟨rfl, hb⟩; have B1 := hid (B0.out.on hb); clear hb) | (revert B1; intro B1; refine wpList_store_st rfl 62 _ _ rfl g4 D.cs rfl rfl (B1.out.get 0 rfl) sizeE rfl rfl ?_; intro w4 hc hb hs; have HE := hid (And.intro hc (B1.out.below.trans (hb.below (by have := HG.out; simp; omega) B1.out.below.size))); clear hc hb hs))
    exact ret_st2 rfl rfl g4 _ rfl HE.out.1 underE rfl sizeE ⟨rfl, HE.out.2⟩
  · have ht : d.there q = false := decide_eq_false hq
    have e1 : d.ent q = En.zero := by simp [DS.ent, ht]
    have e2 : d.entE q = 5 := by simp [DS.entE, ht]
    rw [e1, e2]
    have hq' : q < 0 ∨ (0 ≤ q ∧ (d.m.ns : Int) ≤ q) := by omega
    clear e1 e2 ht h hq
    generalize (d.m.ns : Int) = n at *
    simp only [ptr, En.v, En.zero, En.cs] at HX B0 HP ⊢
    rcases hq' with hq | ⟨hq0, hq⟩
    · go_enter Try.func55, Try.ntmps55
      go_upto_region 1 with fail
      generalize W.alloc _ = X at *
      generalize hg : W.heap.size = g4 at B0 ⊢
      have HG := hid hg
      clear hg
      go_wp2_with (first | (refine wpList_build_zE rfl rfl ?_) | (refine wpList_store_st rfl 62 _ _ rfl g4 En.zero.cs rfl rfl (B0.out.get 0 rfl) sizeE rfl rfl ?_; intro w4 hc hb hs; have HE := hid (And.intro hc (B0.out.below.trans (hb.below (by have := HG.out; simp; omega) B0.out.below.size))); clear hc hb hs))
      exact ret_st2 rfl rfl g4 _ rfl HE.out.1 underE rfl sizeE ⟨rfl, HE.out.2⟩
    · go_enter Try.func55, Try.ntmps55
      go_upto_region 1 with fail
      generalize W.alloc _ = X at *
      generalize hg : W.heap.size = g4 at B0 ⊢
      have HG := hid hg
      clear hg
      go_wp2_with (first | (go_at_call 46; refine (HP.out _ HX.out).mono ?_; rintro x w1 ⟨rfl, rfl⟩; clear HP) | (refine wpList_build_zE rfl rfl ?_) | (refine wpList_store_st rfl 62 _ _ rfl g4 En.zero.cs rfl rfl (B0.out.get 0 rfl) sizeE rfl rfl ?_; intro w4 hc hb hs; have HE := hid (And.intro hc (B0.out.below.trans (hb.below (by have := HG.out; simp; omega) B0.out.below.size))); clear hc hb hs))
      exact ret_st2 rfl rfl g4 _ rfl HE.out.1 underE rfl sizeE ⟨rfl, HE.out.2⟩
end Go.Proofs.Ytajkhkaidjjioaa
