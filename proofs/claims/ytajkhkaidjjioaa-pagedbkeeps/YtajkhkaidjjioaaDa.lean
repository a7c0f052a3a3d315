/- sound 47, Load 11. -/
import Derived.Test.YtajkhkaidjjioaaD9
namespace Go.Proofs.Ytajkhkaidjjioaa
open Go.RowKit
set_option maxHeartbeats 2000000
set_option maxRecDepth 100000
def ldE (L : List Int) (k : Nat) : En := dec (wd L (1 + 2 * k)) (wd L (2 + 2 * k))
def ldS (n : Nat) (L : List Int) (k : Nat) : Bool := dok (wd L (1 + 2 * k)) (wd L (2 + 2 * k)) && decide ((ldE L k).o < (n : Int))
def ldok (n : Nat) (L : List Int) : Bool := decide (L.length = 1 + 2 * n) && (decide (wd L 0 ≤ 64) && (List.range n).all (ldS n L))
def DS.load (m : MS) (L : List Int) : DS := ⟨m, wd L 0, (List.range m.ns).map (ldE L)⟩
theorem wd_at {L : List Int} {k : Nat} (h : k < L.length) : L[k]? = some (wd L k) := by
  rw [List.getElem?_eq_getElem h, wd, List.getD_eq_getElem?_getD, List.getElem?_eq_getElem h]; rfl
theorem wd_mem {L : List Int} {k : Nat} (h : k < L.length) : wd L k ∈ L := List.mem_of_getElem? (wd_at h)
theorem ld_at (L : List Int) (n k : Nat) (h : k < n) : ((List.range n).map (ldE L)).getD k En.zero = ldE L k := by
  rw [List.getD_eq_getElem?_getD, List.getElem?_map, List.getElem?_range h]; rfl
theorem ldok_iff (n : Nat) (L : List Int) : ldok n L = true ↔ L.length = 1 + 2 * n ∧ wd L 0 ≤ 64 ∧ ∀ k, k < n → ldS n L k = true := by
  simp [ldok, List.all_eq_true]
theorem ldS_yes {n : Nat} {L : List Int} {k : Nat} (h : ldS n L k = true) : e0 (ldE L k) = wd L (1 + 2 * k) ∧ e1 (ldE L k) = wd L (2 + 2 * k) ∧ (ldE L k).ok = true ∧ (ldE L k).o < (n : Int) := by
  simp only [ldS, Bool.and_eq_true, decide_eq_true_eq] at h
  have h1 := dok_ok h.1
  have h2 : ldE L k = fld (wd L (1 + 2 * k)) (wd L (2 + 2 * k)) := by unfold ldE dec; rw [if_pos h.1]
  rw [h2] at h ⊢
  exact ⟨h1.2.1, h1.2.2, h1.1, h.2⟩
theorem load_ws {m : MS} {L : List Int} (h : ldok m.ns L = true) : (DS.load m L).ws = L := by
  obtain ⟨h1, h2, h3⟩ := (ldok_iff _ _).1 h
  apply List.ext_getElem?
  intro j
  have hl : (DS.load m L).ws.length = 1 + 2 * m.ns := by rw [DS.ws, wdsOf_len]; simp [DS.load]
  by_cases hj : j < 1 + 2 * m.ns
  · rw [wd_at (L := L) (by omega)]
    cases j with
    | zero => rfl
    | succ i =>
      have hk : i / 2 < m.ns := by omega
      have ha := wdsOf_at (wd L 0) ((List.range m.ns).map (ldE L)) (i / 2) (by simpa using hk)
      rw [ld_at L m.ns _ hk] at ha
      have hs := ldS_yes (h3 _ hk)
      rcases Nat.mod_two_eq_zero_or_one i with e | e
      · have : i + 1 = 1 + 2 * (i / 2) := by omega
        rw [this]
        exact ha.1.trans (by rw [hs.1])
      · have : i + 1 = 2 + 2 * (i / 2) := by omega
        rw [this]
        exact ha.2.trans (by rw [hs.2.1])
  · rw [List.getElem?_eq_none (by omega), List.getElem?_eq_none (by omega)]
theorem load_ok {m : MS} {L : List Int} (h : ldok m.ns L = true) (h64 : m.ns ≤ 64) (hr : ∀ x ∈ L, 0 ≤ x ∧ x < 4294967296) : (DS.load m L).Ok := by
  obtain ⟨h1, h2, h3⟩ := (ldok_iff _ _).1 h
  refine ⟨by simp [DS.load], h64, fun k hk => ?_, fun k hk => ?_, (hr _ (wd_mem (by omega))).1, h2⟩
  · rw [DS.at, DS.load, ld_at L m.ns k hk]; exact (ldS_yes (h3 k hk)).2.2.1
  · rw [DS.at, DS.load, ld_at L m.ns k hk]; exact (ldS_yes (h3 k hk)).2.2.2
theorem sound_any (W : World) (f : Fp) (m : MS) {g gw off n c : Nat} {L : List Int} (hm : Mem W f m) (h : DV W g f.gm gw off n c L) (hr : ∀ x ∈ L, 0 ≤ x ∧ x < 4294967296) (k : Nat) (hk : 2 * k + 2 < n) (hk1 : k ≤ 1000) :
    Calls Try.prog 47 #[ptr g, .int .i64 (k : Int)] W fun e W' => e = .returned (.bool (ldS m.ns L k)) ∧ Below W.heap.size W W' := by
  have hl := h.len
  have HP := hid (pair_any W h k hk hk1 _ _ (wd_at (by omega)) (wd_at (by omega)))
  have ra := hr _ (wd_mem (k := 1 + 2 * k) (by omega))
  have rb := hr _ (wd_mem (k := 2 + 2 * k) (by omega))
  have HD := hid (fun W => decode_any W _ _ ra.1 ra.2 rb.1 rb.2)
  have HPg := hid (fun w (hw : Mem w f m ∧ DV w g f.gm gw off n c L) => pages_dv hw.1 hw.2)
  have B0 : Hid (Bag W W []) := hid ⟨by simp, Below.refl _ _⟩
  have HX : Hid (Mem W f m ∧ DV W g f.gm gw off n c L) := hid ⟨hm, h⟩
  have HS : Hid (ldS m.ns L k = (dok (wd L (1 + 2 * k)) (wd L (2 + 2 * k)) && decide ((dec (wd L (1 + 2 * k)) (wd L (2 + 2 * k))).o < (m.ns : Int)))) := hid rfl
  have hdk : decE (wd L (1 + 2 * k)) (wd L (2 + 2 * k)) = if dok (wd L (1 + 2 * k)) (wd L (2 + 2 * k)) = true then 0 else 110 := rfl
  generalize ldS m.ns L k = R at *
  clear ra rb hl hm h hr hk hk1
  generalize wd L (1 + 2 * k) = a at *
  generalize wd L (2 + 2 * k) = b at *
  generalize dec a b = D at *
  generalize decE a b = DE at *
  generalize dok a b = dk at *
  obtain ⟨xt, xo, xr, xs, xx⟩ := D
  simp only at HS
  simp only [ptr, En.v, En.cs, twoV] at HP HD HPg ⊢
  cases dk
  · simp only [Bool.false_eq_true, if_false] at hdk
    subst hdk
    have hR : R = false := by rw [HS.out]; rfl
    subst hR
    clear HS
    go_enter Try.func47, Try.ntmps47
    go_upto_region 2 with (first | (go_at_call 91; refine HP.out.mono ?_; rintro e w1 ⟨rfl, hb⟩; have B1 := hid (B0.out.on hb); have HX1 : Hid (Mem w1 f m ∧ DV w1 g f.gm gw off n c L) := hid ⟨HX.out.1.on hb, HX.out.2.on hb⟩; clear hb) | (go_at_call 90; refine (HD.out _).mono ?_; rintro e w2 ⟨rfl, hb⟩; have B2 := hid (B1.out.on hb); have HX2 : Hid (Mem w2 f m ∧ DV w2 g f.gm gw off n c L) := hid ⟨HX1.out.1.on hb, HX1.out.2.on hb⟩; clear hb) | (refine wpList_store_st rfl 62 _ _ rfl w2.heap.size [.int .i64 xt, .int .i64 xo, .int .i64 xr, .int .i64 xs, .bool xx] rfl rfl (Cel.new w2 62 En.zero.cs) sizeE rfl rfl ?_; intro w3 hc hb hs; have B3 := hid (B2.out.add hc hb); clear hc hb hs))
    generalize w2.heap.size = g5 at *
    have B4 := hid (B3.out.on (Below.refl _ _).drew)
    refine wp_region_held_drew (S := fun w => Cel w g5 62 [.int .i64 xt, .int .i64 xo, .int .i64 xr, .int .i64 xs, .bool xx]) (by kernel_rfl) (B4.out.get 0 rfl) (fun hHeld => ?_)
    refine wpAnyH_take (i := 0) (oi := { dst := some 14, op := Op.move (Operand.tmp 6), type := 30, pos := "words.go:41", after := #[], guard := none }) (v := .int .i64 110) rfl (by kernel_rfl) (by kernel_rfl) (by kernel_rfl) (fun _ _ _ h => h) (Or.inl ⟨by rfl, by intro w hSw; go_simp⟩) (by assumption) ?_
    simp only [Act.put, List.setIfInBounds_toArray, List.set_cons_zero, List.set_cons_succ]
    refine wpAnyH_take (i := 1) (oi := { dst := some 15, op := Op.binOp BinOp.eql 30 (Operand.tmp 14) (Operand.const (Value.int IntKind.i64 0)) 30, type := 4, pos := "words.go:41", after := #[{ on := 0, ground := Ground.data }], guard := none }) (v := .bool false) rfl (by kernel_rfl) (by kernel_rfl) (by kernel_rfl) (fun _ _ _ h => h) (Or.inl ⟨by rfl, by intro w hSw; go_simp⟩) (by assumption) ?_
    simp only [Act.put, List.setIfInBounds_toArray, List.set_cons_zero, List.set_cons_succ]
    refine wpAnyH_take (i := 2) (oi := { dst := some 16, op := Op.move (Operand.tmp 15), type := 4, pos := "words.go:41", after := #[{ on := 1, ground := Ground.data }], guard := none }) (v := .bool false) rfl (by kernel_rfl) (by kernel_rfl) (by kernel_rfl) (fun _ _ _ h => h) (Or.inl ⟨by rfl, by intro w hSw; go_simp⟩) (by assumption) ?_
    simp only [Act.put, List.setIfInBounds_toArray, List.set_cons_zero, List.set_cons_succ]
    refine wpAnyH_take (i := 3) (oi := { dst := some 17, op := Op.fieldAddr 62 (Operand.tmp 5) 1, type := 0, pos := "words.go:41", after := #[{ on := 2, ground := Ground.guard }], guard := some (2, true) }) (v := undef) rfl (by kernel_rfl) (by kernel_rfl) (by kernel_rfl) (fun _ _ _ h => h) (Or.inr ⟨by rfl, rfl⟩) (by assumption) ?_
    simp only [Act.put, List.setIfInBounds_toArray, List.set_cons_zero, List.set_cons_succ]
    refine wpAnyH_take (i := 4) (oi := { dst := some 18, op := Op.load 3 (Operand.tmp 17), type := 3, pos := "words.go:41", after := #[{ on := 3, ground := Ground.data }, { on := 2, ground := Ground.guard }], guard := some (2, true) }) (v := undef) rfl (by kernel_rfl) (by kernel_rfl) (by kernel_rfl) (fun _ _ _ h => h) (Or.inr ⟨by rfl, rfl⟩) (by assumption) ?_
    simp only [Act.put, List.setIfInBounds_toArray, List.set_cons_zero, List.set_cons_succ]
    refine wpAnyH_take (i := 5) (oi := { dst := some 19, op := Op.move (Operand.tmp 0), type := 23, pos := "words.go:41", after := #[{ on := 2, ground := Ground.guard }], guard := some (2, true) }) (v := undef) rfl (by kernel_rfl) (by kernel_rfl) (by kernel_rfl) (fun _ _ _ h => h) (Or.inr ⟨by rfl, rfl⟩) (by assumption) ?_
    simp only [Act.put, List.setIfInBounds_toArray, List.set_cons_zero, List.set_cons_succ]
    refine wpAnyH_take (i := 6) (oi := { dst := some 20, op := Op.call { callee := Callee.value (Operand.func 46), args := #[Operand.tmp 19], argTypes := #[23] }, type := 3, pos := "words.go:41", after := #[{ on := 5, ground := Ground.data }, { on := 2, ground := Ground.chain }, { on := 2, ground := Ground.guard }], guard := some (2, true) }) (v := undef) rfl (by kernel_rfl) (by kernel_rfl) (by kernel_rfl) (fun _ _ _ h => h) (Or.inr ⟨by rfl, rfl⟩) (by assumption) ?_
    simp only [Act.put, List.setIfInBounds_toArray, List.set_cons_zero, List.set_cons_succ]
    refine wpAnyH_take (i := 7) (oi := { dst := some 21, op := Op.binOp BinOp.lss 3 (Operand.tmp 18) (Operand.tmp 20) 3, type := 4, pos := "words.go:41", after := #[{ on := 4, ground := Ground.data }, { on := 6, ground := Ground.data }, { on := 2, ground := Ground.guard }], guard := some (2, true) }) (v := undef) rfl (by kernel_rfl) (by kernel_rfl) (by kernel_rfl) (fun _ _ _ h => h) (Or.inr ⟨by rfl, rfl⟩) (by assumption) ?_
    simp only [Act.put, List.setIfInBounds_toArray, List.set_cons_zero, List.set_cons_succ]
    refine wpAnyH_take (i := 8) (oi := { dst := some 22, op := Op.pick (Operand.tmp 16) (Operand.tmp 21) (Operand.const (Value.bool false)), type := 4, pos := "words.go:41", after := #[{ on := 2, ground := Ground.data }, { on := 7, ground := Ground.data }], guard := none }) (v := .bool false) rfl (by kernel_rfl) (by kernel_rfl) (by kernel_rfl) (fun _ _ _ h => h) (Or.inl ⟨by rfl, by intro w hSw; go_simp⟩) (by assumption) ?_
    simp only [Act.put, List.setIfInBounds_toArray, List.set_cons_zero, List.set_cons_succ]
    refine wpAnyH_ready (rs := [9]) (by kernel_rfl) (by simp) (AllReadyH.cons (o := { dst := some 4, op := Op.assign (Operand.tmp 22), type := 4, pos := "words.go:41", after := #[{ on := 8, ground := Ground.data }, { on := 6, ground := Ground.chain }, { on := 0, ground := Ground.phase }, { on := 1, ground := Ground.phase }, { on := 2, ground := Ground.phase }, { on := 3, ground := Ground.phase }, { on := 4, ground := Ground.phase }, { on := 5, ground := Ground.phase }, { on := 6, ground := Ground.phase }, { on := 7, ground := Ground.phase }, { on := 8, ground := Ground.phase }], guard := none }) rfl (fun KQ hK => ?_) AllReadyH.nil)
    go_simp
    refine hK.out _ _ (B4.out.get 0 rfl) (fun hHeld => ?_)
    clear hK KQ
    try simp only [Act.put, List.setIfInBounds_toArray, List.set_cons_zero, List.set_cons_succ]
    refine wpAnyH_done (by kernel_rfl) ?_ _
    go_wp2_with fail
    go_ret
    exact ⟨rfl, B4.out.below⟩
  · simp only [if_true] at hdk
    subst hdk
    have hR : R = decide (xo < (m.ns : Int)) := by rw [HS.out, Bool.true_and]
    subst hR
    clear HS
    generalize (m.ns : Int) = N at *
    go_enter Try.func47, Try.ntmps47
    go_upto_region 2 with (first | (go_at_call 91; refine HP.out.mono ?_; rintro e w1 ⟨rfl, hb⟩; have B1 := hid (B0.out.on hb); have HX1 : Hid (Mem w1 f m ∧ DV w1 g f.gm gw off n c L) := hid ⟨HX.out.1.on hb, HX.out.2.on hb⟩; clear hb) | (go_at_call 90; refine (HD.out _).mono ?_; rintro e w2 ⟨rfl, hb⟩; have B2 := hid (B1.out.on hb); have HX2 : Hid (Mem w2 f m ∧ DV w2 g f.gm gw off n c L) := hid ⟨HX1.out.1.on hb, HX1.out.2.on hb⟩; clear hb) | (refine wpList_store_st rfl 62 _ _ rfl w2.heap.size [.int .i64 xt, .int .i64 xo, .int .i64 xr, .int .i64 xs, .bool xx] rfl rfl (Cel.new w2 62 En.zero.cs) sizeE rfl rfl ?_; intro w3 hc hb hs; have B3 := hid (B2.out.add hc hb); have HX3 : Hid (Mem w3 f m ∧ DV w3 g f.gm gw off n c L) := hid ⟨(HX2.out.1.on (below_one w2 (.cells En.zero.cs.toArray 62))).frame hb (fun q hq hm => by rw [List.mem_singleton] at hm; have := HX2.out.1.lt q hq; omega), (HX2.out.2.on (below_one w2 (.cells En.zero.cs.toArray 62))).but hb (by have := HX2.out.2.cel.lt; simp; omega) (by have := HX2.out.2.lt; simp; omega)⟩; clear hc hb hs))
    generalize w2.heap.size = g5 at *
    have B4 := hid (B3.out.on (Below.refl _ _).drew)
    have HX4 : Hid (Mem w3.drew f m ∧ DV w3.drew g f.gm gw off n c L) := hid ⟨HX3.out.1.on (Below.refl _ _).drew, HX3.out.2.on (Below.refl _ _).drew⟩
    refine wp_region_held_drew (S := fun w => Cel w g5 62 [.int .i64 xt, .int .i64 xo, .int .i64 xr, .int .i64 xs, .bool xx]) (by kernel_rfl) (B4.out.get 0 rfl) (fun hHeld => ?_)
    refine wpAnyH_take (i := 0) (oi := { dst := some 14, op := Op.move (Operand.tmp 6), type := 30, pos := "words.go:41", after := #[], guard := none }) (v := .int .i64 0) rfl (by kernel_rfl) (by kernel_rfl) (by kernel_rfl) (fun _ _ _ h => h) (Or.inl ⟨by rfl, by intro w hSw; go_simp⟩) (by assumption) ?_
    simp only [Act.put, List.setIfInBounds_toArray, List.set_cons_zero, List.set_cons_succ]
    refine wpAnyH_take (i := 1) (oi := { dst := some 15, op := Op.binOp BinOp.eql 30 (Operand.tmp 14) (Operand.const (Value.int IntKind.i64 0)) 30, type := 4, pos := "words.go:41", after := #[{ on := 0, ground := Ground.data }], guard := none }) (v := .bool true) rfl (by kernel_rfl) (by kernel_rfl) (by kernel_rfl) (fun _ _ _ h => h) (Or.inl ⟨by rfl, by intro w hSw; go_simp⟩) (by assumption) ?_
    simp only [Act.put, List.setIfInBounds_toArray, List.set_cons_zero, List.set_cons_succ]
    refine wpAnyH_take (i := 2) (oi := { dst := some 16, op := Op.move (Operand.tmp 15), type := 4, pos := "words.go:41", after := #[{ on := 1, ground := Ground.data }], guard := none }) (v := .bool true) rfl (by kernel_rfl) (by kernel_rfl) (by kernel_rfl) (fun _ _ _ h => h) (Or.inl ⟨by rfl, by intro w hSw; go_simp⟩) (by assumption) ?_
    simp only [Act.put, List.setIfInBounds_toArray, List.set_cons_zero, List.set_cons_succ]
    refine wpAnyH_take (i := 3) (oi := { dst := some 17, op := Op.fieldAddr 62 (Operand.tmp 5) 1, type := 0, pos := "words.go:41", after := #[{ on := 2, ground := Ground.guard }], guard := some (2, true) }) (v := .pointer (some ⟨g5, 1, none⟩)) rfl (by kernel_rfl) (by kernel_rfl) (by kernel_rfl) (fun _ _ _ h => h) (Or.inl ⟨by rfl, by intro w hSw; go_simp⟩) (by assumption) ?_
    simp only [Act.put, List.setIfInBounds_toArray, List.set_cons_zero, List.set_cons_succ]
    refine wpAnyH_take (i := 4) (oi := { dst := some 18, op := Op.load 3 (Operand.tmp 17), type := 3, pos := "words.go:41", after := #[{ on := 3, ground := Ground.data }, { on := 2, ground := Ground.guard }], guard := some (2, true) }) (v := .int .i64 xo) rfl (by kernel_rfl) (by kernel_rfl) (by kernel_rfl) (fun _ _ _ h => h) (Or.inl ⟨by rfl, by intro w hSw; have hc := hSw.cell 1; simp only [List.getElem?_cons_zero, List.getElem?_cons_succ] at hc; go_simp⟩) (by assumption) ?_
    simp only [Act.put, List.setIfInBounds_toArray, List.set_cons_zero, List.set_cons_succ]
    refine wpAnyH_take (i := 5) (oi := { dst := some 19, op := Op.move (Operand.tmp 0), type := 23, pos := "words.go:41", after := #[{ on := 2, ground := Ground.guard }], guard := some (2, true) }) (v := .pointer (some ⟨g, 0, none⟩)) rfl (by kernel_rfl) (by kernel_rfl) (by kernel_rfl) (fun _ _ _ h => h) (Or.inl ⟨by rfl, by intro w hSw; go_simp⟩) (by assumption) ?_
    simp only [Act.put, List.setIfInBounds_toArray, List.set_cons_zero, List.set_cons_succ]
    refine wpAnyH_ready (rs := [6]) (by kernel_rfl) (by simp) (AllReadyH.cons (o := { dst := some 20, op := Op.call { callee := Callee.value (Operand.func 46), args := #[Operand.tmp 19], argTypes := #[23] }, type := 3, pos := "words.go:41", after := #[{ on := 5, ground := Ground.data }, { on := 2, ground := Ground.chain }, { on := 2, ground := Ground.guard }], guard := some (2, true) }) rfl (fun KQ hK => ?_) AllReadyH.nil)
    go_simp
    refine (HPg.out _ HX4.out).mono ?_
    rintro e w5 ⟨rfl, hw5⟩
    subst hw5
    go_wp2_with fail
    refine hK.out _ _ (B4.out.get 0 rfl) (fun hHeld => ?_)
    clear hK KQ
    try simp only [Act.put, List.setIfInBounds_toArray, List.set_cons_zero, List.set_cons_succ]
    refine wpAnyH_take (i := 7) (oi := { dst := some 21, op := Op.binOp BinOp.lss 3 (Operand.tmp 18) (Operand.tmp 20) 3, type := 4, pos := "words.go:41", after := #[{ on := 4, ground := Ground.data }, { on := 6, ground := Ground.data }, { on := 2, ground := Ground.guard }], guard := some (2, true) }) (v := .bool (decide (xo < N))) rfl (by kernel_rfl) (by kernel_rfl) (by kernel_rfl) (fun _ _ _ h => h) (Or.inl ⟨by rfl, by intro w hSw; go_simp⟩) (by assumption) ?_
    simp only [Act.put, List.setIfInBounds_toArray, List.set_cons_zero, List.set_cons_succ]
    refine wpAnyH_take (i := 8) (oi := { dst := some 22, op := Op.pick (Operand.tmp 16) (Operand.tmp 21) (Operand.const (Value.bool false)), type := 4, pos := "words.go:41", after := #[{ on := 2, ground := Ground.data }, { on := 7, ground := Ground.data }], guard := none }) (v := .bool (decide (xo < N))) rfl (by kernel_rfl) (by kernel_rfl) (by kernel_rfl) (fun _ _ _ h => h) (Or.inl ⟨by rfl, by intro w hSw; go_simp⟩) (by assumption) ?_
    simp only [Act.put, List.setIfInBounds_toArray, List.set_cons_zero, List.set_cons_succ]
    refine wpAnyH_ready (rs := [9]) (by kernel_rfl) (by simp) (AllReadyH.cons (o := { dst := some 4, op := Op.assign (Operand.tmp 22), type := 4, pos := "words.go:41", after := #[{ on := 8, ground := Ground.data }, { on := 6, ground := Ground.chain }, { on := 0, ground := Ground.phase }, { on := 1, ground := Ground.phase }, { on := 2, ground := Ground.phase }, { on := 3, ground := Ground.phase }, { on := 4, ground := Ground.phase }, { on := 5, ground := Ground.phase }, { on := 6, ground := Ground.phase }, { on := 7, ground := Ground.phase }, { on := 8, ground := Ground.phase }], guard := none }) rfl (fun KQ hK => ?_) AllReadyH.nil)
    go_simp
    refine hK.out _ _ (B4.out.get 0 rfl) (fun hHeld => ?_)
    clear hK KQ
    try simp only [Act.put, List.setIfInBounds_toArray, List.set_cons_zero, List.set_cons_succ]
    refine wpAnyH_done (by kernel_rfl) ?_ _
    go_wp2_with fail
    go_ret
    exact ⟨rfl, B4.out.below⟩
end Go.Proofs.Ytajkhkaidjjioaa
