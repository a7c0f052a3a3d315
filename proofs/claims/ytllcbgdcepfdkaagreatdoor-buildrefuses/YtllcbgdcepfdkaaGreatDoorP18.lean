import Derived.Test.YtllcbgdcepfdkaaGreatDoorP08
import Derived.Test.YtllcbgdcepfdkaaGreatDoorP17
namespace Go.Proofs.YtllcbgdcepfdkaaGreatDoor
open Go.RowKit
set_option maxHeartbeats 2000000
set_option maxRecDepth 100000
def ldE (L : List Int) (k : Nat) : En := dec (wd L (1 + 2 * k)) (wd L (2 + 2 * k))
def ldS (n : Nat) (L : List Int) (k : Nat) : Bool := dok (wd L (1 + 2 * k)) (wd L (2 + 2 * k)) && decide ((ldE L k).o < (n : Int))
def ldok (n : Nat) (L : List Int) : Bool := decide (L.length = 1 + 2 * n) && (decide (wd L 0 ≤ 64) && (List.range n).all (ldS n L))
def DS.load (m : MS) (L : List Int) : DS := ⟨m, wd L 0, (List.range m.ns).map (ldE L)⟩
theorem wd_at {L : List Int} {k : Nat} (h : k < L.length) : L[k]? = some (wd L k) := by
  rw [List.getElem?_eq_getElem h, wd, List.getD_eq_getElem?_getD, List.getElem?_eq_getElem h]; rfl
theorem wd_mem {L : List Int} {k : Nat} (h : k < L.length) : wd L k ∈ L := List.mem_of_getElem? (wd_at h)
theorem ld_at (L : List Int) (n k : Nat) (h : k < n) : ((List.range n).map (ldE L)).getD k En.zero = ldE L k := by
  rw [List.getD_eq_getElem?_getD, List.getElem?_map, List.getElem?_range h]; rfl
theorem ldok_iff (n : Nat) (L : List Int) : ldok n L = true ↔ L.length = 1 + 2 * n ∧ wd L 0 ≤ 64 ∧ ∀ k, k < n → ldS n L k = true := by
  simp [ldok, List.all_eq_true]
theorem ldS_yes {n : Nat} {L : List Int} {k : Nat} (h : ldS n L k = true) : e0 (ldE L k) = wd L (1 + 2 * k) ∧ e1 (ldE L k) = wd L (2 + 2 * k) ∧ (ldE L k).ok = true ∧ (ldE L k).o < (n : Int) := by
  simp only [ldS, Bool.and_eq_true, decide_eq_true_eq] at h
  have h1 := dok_ok h.1
  have h2 : ldE L k = fld (wd L (1 + 2 * k)) (wd L (2 + 2 * k)) := by unfold ldE dec; rw [if_pos h.1]
  rw [h2] at h ⊢
  exact ⟨h1.2.1, h1.2.2, h1.1, h.2⟩
theorem load_ws {m : MS} {L : List Int} (h : ldok m.ns L = true) : (DS.load m L).ws = L := by
  obtain ⟨h1, h2, h3⟩ := (ldok_iff _ _).1 h
  apply List.ext_getElem?
  intro j
  have hl : (DS.load m L).ws.length = 1 + 2 * m.ns := by rw [DS.ws, wdsOf_len]; simp [DS.load]
  by_cases hj : j < 1 + 2 * m.ns
  · rw [wd_at (L := L) (by omega)]
    cases j with
    | zero => rfl
    | succ i =>
      have hk : i / 2 < m.ns := by omega
      have ha := wdsOf_at (wd L 0) ((List.range m.ns).map (ldE L)) (i / 2) (by simpa using hk)
      rw [ld_at L m.ns _ hk] at ha
      have hs := ldS_yes (h3 _ hk)
      rcases Nat.mod_two_eq_zero_or_one i with e | e
      · have : i + 1 = 1 + 2 * (i / 2) := by omega
        rw [this]
        exact ha.1.trans (by rw [hs.1])
      · have : i + 1 = 2 + 2 * (i / 2) := by omega
        rw [this]
        exact ha.2.trans (by rw [hs.2.1])
  · rw [List.getElem?_eq_none (by omega), List.getElem?_eq_none (by omega)]
theorem load_ok {m : MS} {L : List Int} (h : ldok m.ns L = true) (h64 : m.ns ≤ 64) (hr : ∀ x ∈ L, 0 ≤ x ∧ x < 4294967296) : (DS.load m L).Ok := by
  obtain ⟨h1, h2, h3⟩ := (ldok_iff _ _).1 h
  refine ⟨by simp [DS.load], h64, fun k hk => ?_, fun k hk => ?_, (hr _ (wd_mem (by omega))).1, h2⟩
  · rw [DS.at, DS.load, ld_at L m.ns k hk]; exact (ldS_yes (h3 k hk)).2.2.1
  · rw [DS.at, DS.load, ld_at L m.ns k hk]; exact (ldS_yes (h3 k hk)).2.2.2
theorem sound_any (W : World) (f : Fp) (m : MS) {g gw off n c : Nat} {L : List Int} (hm : Mem W f m) (h : DV W g f.gm gw off n c L) (hr : ∀ x ∈ L, 0 ≤ x ∧ x < 4294967296) (k : Nat) (hk : 2 * k + 2 < n) (hk1 : k ≤ 1000) :
    Calls Tryz.prog 88 #[ptr g, .int .i64 (k : Int)] W fun e W' => e = .returned (.bool (ldS m.ns L k)) ∧ Below W.heap.size W W' := by
  have hl := h.len
  have HP := hid (pair_any W h k hk hk1 _ _ (wd_at (by omega)) (wd_at (by omega)))
  have ra := hr _ (wd_mem (k := 1 + 2 * k) (by omega))
  have rb := hr _ (wd_mem (k := 2 + 2 * k) (by omega))
  have HD := hid (fun W => decode_any W _ _ ra.1 ra.2 rb.1 rb.2)
  have HPg := hid (fun w (hw : Mem w f m ∧ DV w g f.gm gw off n c L) => pages_dv hw.1 hw.2)
  have B0 : Hid (Bag W W []) := hid ⟨by simp, Below.refl _ _⟩
  have HX : Hid (Mem W f m ∧ DV W g f.gm gw off n c L) := hid ⟨hm, h⟩
  have HS : Hid (ldS m.ns L k = (dok (wd L (1 + 2 * k)) (wd L (2 + 2 * k)) && decide ((dec (wd L (1 + 2 * k)) (wd L (2 + 2 * k))).o < (m.ns : Int)))) := hid rfl
  have hdk : decE (wd L (1 + 2 * k)) (wd L (2 + 2 * k)) = if dok (wd L (1 + 2 * k)) (wd L (2 + 2 * k)) = true then 0 else 110 := rfl
  generalize ldS m.ns L k = R at *
  clear ra rb hl hm h hr hk hk1
  generalize wd L (1 + 2 * k) = a at *
  generalize wd L (2 + 2 * k) = b at *
  generalize dec a b = D at *
  generalize decE a b = DE at *
  generalize dok a b = dk at *
  obtain ⟨xt, xo, xr, xs, xx⟩ := D
  simp only at HS
  simp only [ptr, En.v, En.cs, twoV] at HP HD HPg ⊢
  cases dk
  · simp only [Bool.false_eq_true, if_false] at hdk
    subst hdk
    have hR : R = false := by rw [HS.out]; rfl
    subst hR
    clear HS
    go_enter Tryz.func88, Tryz.ntmps88
    go_upto_region 2 with (first | (go_at_call 91; refine HP.out.mono ?_; rintro e w1 ⟨rfl, hb⟩; have B1 := hid (B0.out.on hb); have HX1 : Hid (Mem w1 f m ∧ DV w1 g f.gm gw off n c L) := hid ⟨HX.out.1.on hb, HX.out.2.on hb⟩; clear hb) | (go_at_call 90; refine (HD.out _).mono ?_; rintro e w2 ⟨rfl, hb⟩; have B2 := hid (B1.out.on hb); have HX2 : Hid (Mem w2 f m ∧ DV w2 g f.gm gw off n c L) := hid ⟨HX1.out.1.on hb, HX1.out.2.on hb⟩; clear hb) | (refine wpList_store_st rfl 38 _ _ rfl w2.heap.size [.int .i64 xt, .int .i64 xo, .int .i64 xr, .int .i64 xs, .bool xx] rfl rfl (Cel.new w2 38 En.zero.cs) sizeE rfl rfl ?_; intro w3 hc hb hs; have B3 := hid (B2.out.add hc hb); clear hc hb hs))
    generalize w2.heap.size = g5 at *
    have B4 := hid (B3.out.on (Below.refl _ _).drew)
    refine wp_region_held_drew (S := fun w => Cel w g5 38 [.int .i64 xt, .int .i64 xo, .int .i64 xr, .int .i64 xs, .bool xx]) (by kernel_rfl) (B4.out.get 0 rfl) (fun hHeld => ?_)
    refine wpAnyH_take (i := 0) (oi := { dst := some 14, op := Op.move (Operand.tmp 6), type := 39, pos := "words.go:41", after := #[], guard := none }) (v := .int .i64 110) rfl (by kernel_rfl) (by kernel_rfl) (by kernel_rfl) (fun _ _ _ h => h) (Or.inl ⟨by rfl, by intro w hSw; go_simp⟩) (by assumption) ?_
    simp only [Act.put, List.setIfInBounds_toArray, List.set_cons_zero, List.set_cons_succ]
    refine wpAnyH_take (i := 1) (oi := { dst := some 15, op := Op.binOp BinOp.eql 39 (Operand.tmp 14) (Operand.const (Value.int IntKind.i64 0)) 39, type := 4, pos := "words.go:41", after := #[{ on := 0, ground := Ground.data }], guard := none }) (v := .bool false) rfl (by kernel_rfl) (by kernel_rfl) (by kernel_rfl) (fun _ _ _ h => h) (Or.inl ⟨by rfl, by intro w hSw; go_simp⟩) (by assumption) ?_
    simp only [Act.put, List.setIfInBounds_toArray, List.set_cons_zero, List.set_cons_succ]
    refine wpAnyH_take (i := 2) (oi := { dst := some 16, op := Op.move (Operand.tmp 15), type := 4, pos := "words.go:41", after := #[{ on := 1, ground := Ground.data }], guard := none }) (v := .bool false) rfl (by kernel_rfl) (by kernel_rfl) (by kernel_rfl) (fun _ _ _ h => h) (Or.inl ⟨by rfl, by intro w hSw; go_simp⟩) (by assumption) ?_
    simp only [Act.put, List.setIfInBounds_toArray, List.set_cons_zero, List.set_cons_succ]
    refine wpAnyH_take (i := 3) (oi := { dst := some 17, op := Op.fieldAddr 38 (Operand.tmp 5) 1, type := 0, pos := "words.go:41", after := #[{ on := 2, ground := Ground.guard }], guard := some (2, true) }) (v := undef) rfl (by kernel_rfl) (by kernel_rfl) (by kernel_rfl) (fun _ _ _ h => h) (Or.inr ⟨by rfl, rfl⟩) (by assumption) ?_
    simp only [Act.put, List.setIfInBounds_toArray, List.set_cons_zero, List.set_cons_succ]
    refine wpAnyH_take (i := 4) (oi := { dst := some 18, op := Op.load 3 (Operand.tmp 17), type := 3, pos := "words.go:41", after := #[{ on := 3, ground := Ground.data }, { on := 2, ground := Ground.guard }], guard := some (2, true) }) (v := undef) rfl (by kernel_rfl) (by kernel_rfl) (by kernel_rfl) (fun _ _ _ h => h) (Or.inr ⟨by rfl, rfl⟩) (by assumption) ?_
    simp only [Act.put, List.setIfInBounds_toArray, List.set_cons_zero, List.set_cons_succ]
    refine wpAnyH_take (i := 5) (oi := { dst := some 19, op := Op.move (Operand.tmp 0), type := 25, pos := "words.go:41", after := #[{ on := 2, ground := Ground.guard }], guard := some (2, true) }) (v := undef) rfl (by kernel_rfl) (by kernel_rfl) (by kernel_rfl) (fun _ _ _ h => h) (Or.inr ⟨by rfl, rfl⟩) (by assumption) ?_
    simp only [Act.put, List.setIfInBounds_toArray, List.set_cons_zero, List.set_cons_succ]
    refine wpAnyH_take (i := 6) (oi := { dst := some 20, op := Op.call { callee := Callee.value (Operand.func 39), args := #[Operand.tmp 19], argTypes := #[25] }, type := 3, pos := "words.go:41", after := #[{ on := 5, ground := Ground.data }, { on := 2, ground := Ground.chain }, { on := 2, ground := Ground.guard }], guard := some (2, true) }) (v := undef) rfl (by kernel_rfl) (by kernel_rfl) (by kernel_rfl) (fun _ _ _ h => h) (Or.inr ⟨by rfl, rfl⟩) (by assumption) ?_
    simp only [Act.put, List.setIfInBounds_toArray, List.set_cons_zero, List.set_cons_succ]
    refine wpAnyH_take (i := 7) (oi := { dst := some 21, op := Op.binOp BinOp.lss 3 (Operand.tmp 18) (Operand.tmp 20) 3, type := 4, pos := "words.go:41", after := #[{ on := 4, ground := Ground.data }, { on := 6, ground := Ground.data }, { on := 2, ground := Ground.guard }], guard := some (2, true) }) (v := undef) rfl (by kernel_rfl) (by kernel_rfl) (by kernel_rfl) (fun _ _ _ h => h) (Or.inr ⟨by rfl, rfl⟩) (by assumption) ?_
    simp only [Act.put, List.setIfInBounds_toArray, List.set_cons_zero, List.set_cons_succ]
    refine wpAnyH_take (i := 8) (oi := { dst := some 22, op := Op.pick (Operand.tmp 16) (Operand.tmp 21) (Operand.const (Value.bool false)), type := 4, pos := "words.go:41", after := #[{ on := 2, ground := Ground.data }, { on := 7, ground := Ground.data }], guard := none }) (v := .bool false) rfl (by kernel_rfl) (by kernel_rfl) (by kernel_rfl) (fun _ _ _ h => h) (Or.inl ⟨by rfl, by intro w hSw; go_simp⟩) (by assumption) ?_
    simp only [Act.put, List.setIfInBounds_toArray, List.set_cons_zero, List.set_cons_succ]
    refine wpAnyH_ready (rs := [9]) (by kernel_rfl) (by simp) (AllReadyH.cons (o := { dst := some 4, op := Op.assign (Operand.tmp 22), type := 4, pos := "words.go:41", after := #[{ on := 8, ground := Ground.data }, { on := 6, ground := Ground.chain }, { on := 0, ground := Ground.phase }, { on := 1, ground := Ground.phase }, { on := 2, ground := Ground.phase }, { on := 3, ground := Ground.phase }, { on := 4, ground := Ground.phase }, { on := 5, ground := Ground.phase }, { on := 6, ground := Ground.phase }, { on := 7, ground := Ground.phase }, { on := 8, ground := Ground.phase }], guard := none }) rfl (fun KQ hK => ?_) AllReadyH.nil)
    go_simp
    refine hK.out _ _ (B4.out.get 0 rfl) (fun hHeld => ?_)
    clear hK KQ
    try simp only [Act.put, List.setIfInBounds_toArray, List.set_cons_zero, List.set_cons_succ]
    refine wpAnyH_done (by kernel_rfl) ?_ _
    go_wp2_with fail
    go_ret
    exact ⟨rfl, B4.out.below⟩
  · simp only [if_true] at hdk
    subst hdk
    have hR : R = decide (xo < (m.ns : Int)) := by rw [HS.out, Bool.true_and]
    subst hR
    clear HS
    generalize (m.ns : Int) = N at *
    go_enter Tryz.func88, Tryz.ntmps88
    go_upto_region 2 with (first | (go_at_call 91; refine HP.out.mono ?_; rintro e w1 ⟨rfl, hb⟩; have B1 := hid (B0.out.on hb); have HX1 : Hid (Mem w1 f m ∧ DV w1 g f.gm gw off n c L) := hid ⟨HX.out.1.on hb, HX.out.2.on hb⟩; clear hb) | (go_at_call 90; refine (HD.out _).mono ?_; rintro e w2 ⟨rfl, hb⟩; have B2 := hid (B1.out.on hb); have HX2 : Hid (Mem w2 f m ∧ DV w2 g f.gm gw off n c L) := hid ⟨HX1.out.1.on hb, HX1.out.2.on hb⟩; clear hb) | (refine wpList_store_st rfl 38 _ _ rfl w2.heap.size [.int .i64 xt, .int .i64 xo, .int .i64 xr, .int .i64 xs, .bool xx] rfl rfl (Cel.new w2 38 En.zero.cs) sizeE rfl rfl ?_; intro w3 hc hb hs; have B3 := hid (B2.out.add hc hb); have HX3 : Hid (Mem w3 f m ∧ DV w3 g f.gm gw off n c L) := hid ⟨(HX2.out.1.on (below_one w2 (.cells En.zero.cs.toArray 38))).frame hb (fun q hq hm => by rw [List.mem_singleton] at hm; have := HX2.out.1.lt q hq; omega), (HX2.out.2.on (below_one w2 (.cells En.zero.cs.toArray 38))).but hb (by have := HX2.out.2.cel.lt; simp; omega) (by have := HX2.out.2.lt; simp; omega)⟩; clear hc hb hs))
    generalize w2.heap.size = g5 at *
    have B4 := hid (B3.out.on (Below.refl _ _).drew)
    have HX4 : Hid (Mem w3.drew f m ∧ DV w3.drew g f.gm gw off n c L) := hid ⟨HX3.out.1.on (Below.refl _ _).drew, HX3.out.2.on (Below.refl _ _).drew⟩
    refine wp_region_held_drew (S := fun w => Cel w g5 38 [.int .i64 xt, .int .i64 xo, .int .i64 xr, .int .i64 xs, .bool xx]) (by kernel_rfl) (B4.out.get 0 rfl) (fun hHeld => ?_)
    refine wpAnyH_take (i := 0) (oi := { dst := some 14, op := Op.move (Operand.tmp 6), type := 39, pos := "words.go:41", after := #[], guard := none }) (v := .int .i64 0) rfl (by kernel_rfl) (by kernel_rfl) (by kernel_rfl) (fun _ _ _ h => h) (Or.inl ⟨by rfl, by intro w hSw; go_simp⟩) (by assumption) ?_
    simp only [Act.put, List.setIfInBounds_toArray, List.set_cons_zero, List.set_cons_succ]
    refine wpAnyH_take (i := 1) (oi := { dst := some 15, op := Op.binOp BinOp.eql 39 (Operand.tmp 14) (Operand.const (Value.int IntKind.i64 0)) 39, type := 4, pos := "words.go:41", after := #[{ on := 0, ground := Ground.data }], guard := none }) (v := .bool true) rfl (by kernel_rfl) (by kernel_rfl) (by kernel_rfl) (fun _ _ _ h => h) (Or.inl ⟨by rfl, by intro w hSw; go_simp⟩) (by assumption) ?_
    simp only [Act.put, List.setIfInBounds_toArray, List.set_cons_zero, List.set_cons_succ]
    refine wpAnyH_take (i := 2) (oi := { dst := some 16, op := Op.move (Operand.tmp 15), type := 4, pos := "words.go:41", after := #[{ on := 1, ground := Ground.data }], guard := none }) (v := .bool true) rfl (by kernel_rfl) (by kernel_rfl) (by kernel_rfl) (fun _ _ _ h => h) (Or.inl ⟨by rfl, by intro w hSw; go_simp⟩) (by assumption) ?_
    simp only [Act.put, List.setIfInBounds_toArray, List.set_cons_zero, List.set_cons_succ]
    refine wpAnyH_take (i := 3) (oi := { dst := some 17, op := Op.fieldAddr 38 (Operand.tmp 5) 1, type := 0, pos := "words.go:41", after := #[{ on := 2, ground := Ground.guard }], guard := some (2, true) }) (v := .pointer (some ⟨g5, 1, none⟩)) rfl (by kernel_rfl) (by kernel_rfl) (by kernel_rfl) (fun _ _ _ h => h) (Or.inl ⟨by rfl, by intro w hSw; go_simp⟩) (by assumption) ?_
    simp only [Act.put, List.setIfInBounds_toArray, List.set_cons_zero, List.set_cons_succ]
    refine wpAnyH_take (i := 4) (oi := { dst := some 18, op := Op.load 3 (Operand.tmp 17), type := 3, pos := "words.go:41", after := #[{ on := 3, ground := Ground.data }, { on := 2, ground := Ground.guard }], guard := some (2, true) }) (v := .int .i64 xo) rfl (by kernel_rfl) (by kernel_rfl) (by kernel_rfl) (fun _ _ _ h => h) (Or.inl ⟨by rfl, by intro w hSw; have hc := hSw.cell 1; simp only [List.getElem?_cons_zero, List.getElem?_cons_succ] at hc; go_simp⟩) (by assumption) ?_
    simp only [Act.put, List.setIfInBounds_toArray, List.set_cons_zero, List.set_cons_succ]
    refine wpAnyH_take (i := 5) (oi := { dst := some 19, op := Op.move (Operand.tmp 0), type := 25, pos := "words.go:41", after := #[{ on := 2, ground := Ground.guard }], guard := some (2, true) }) (v := .pointer (some ⟨g, 0, none⟩)) rfl (by kernel_rfl) (by kernel_rfl) (by kernel_rfl) (fun _ _ _ h => h) (Or.inl ⟨by rfl, by intro w hSw; go_simp⟩) (by assumption) ?_
    simp only [Act.put, List.setIfInBounds_toArray, List.set_cons_zero, List.set_cons_succ]
    refine wpAnyH_ready (rs := [6]) (by kernel_rfl) (by simp) (AllReadyH.cons (o := { dst := some 20, op := Op.call { callee := Callee.value (Operand.func 39), args := #[Operand.tmp 19], argTypes := #[25] }, type := 3, pos := "words.go:41", after := #[{ on := 5, ground := Ground.data }, { on := 2, ground := Ground.chain }, { on := 2, ground := Ground.guard }], guard := some (2, true) }) rfl (fun KQ hK => ?_) AllReadyH.nil)
    go_simp
    refine (HPg.out _ HX4.out).mono ?_
    rintro e w5 ⟨rfl, hw5⟩
    subst hw5
    go_wp2_with fail
    refine hK.out _ _ (B4.out.get 0 rfl) (fun hHeld => ?_)
    clear hK KQ
    try simp only [Act.put, List.setIfInBounds_toArray, List.set_cons_zero, List.set_cons_succ]
    refine wpAnyH_take (i := 7) (oi := { dst := some 21, op := Op.binOp BinOp.lss 3 (Operand.tmp 18) (Operand.tmp 20) 3, type := 4, pos := "words.go:41", after := #[{ on := 4, ground := Ground.data }, { on := 6, ground := Ground.data }, { on := 2, ground := Ground.guard }], guard := some (2, true) }) (v := .bool (decide (xo < N))) rfl (by kernel_rfl) (by kernel_rfl) (by kernel_rfl) (fun _ _ _ h => h) (Or.inl ⟨by rfl, by intro w hSw; go_simp⟩) (by assumption) ?_
    simp only [Act.put, List.setIfInBounds_toArray, List.set_cons_zero, List.set_cons_succ]
    refine wpAnyH_take (i := 8) (oi := { dst := some 22, op := Op.pick (Operand.tmp 16) (Operand.tmp 21) (Operand.const (Value.bool false)), type := 4, pos := "words.go:41", after := #[{ on := 2, ground := Ground.data }, { on := 7, ground := Ground.data }], guard := none }) (v := .bool (decide (xo < N))) rfl (by kernel_rfl) (by kernel_rfl) (by kernel_rfl) (fun _ _ _ h => h) (Or.inl ⟨by rfl, by intro w hSw; go_simp⟩) (by assumption) ?_
    simp only [Act.put, List.setIfInBounds_toArray, List.set_cons_zero, List.set_cons_succ]
    refine wpAnyH_ready (rs := [9]) (by kernel_rfl) (by simp) (AllReadyH.cons (o := { dst := some 4, op := Op.assign (Operand.tmp 22), type := 4, pos := "words.go:41", after := #[{ on := 8, ground := Ground.data }, { on := 6, ground := Ground.chain }, { on := 0, ground := Ground.phase }, { on := 1, ground := Ground.phase }, { on := 2, ground := Ground.phase }, { on := 3, ground := Ground.phase }, { on := 4, ground := Ground.phase }, { on := 5, ground := Ground.phase }, { on := 6, ground := Ground.phase }, { on := 7, ground := Ground.phase }, { on := 8, ground := Ground.phase }], guard := none }) rfl (fun KQ hK => ?_) AllReadyH.nil)
    go_simp
    refine hK.out _ _ (B4.out.get 0 rfl) (fun hHeld => ?_)
    clear hK KQ
    try simp only [Act.put, List.setIfInBounds_toArray, List.set_cons_zero, List.set_cons_succ]
    refine wpAnyH_done (by kernel_rfl) ?_ _
    go_wp2_with fail
    go_ret
    exact ⟨rfl, B4.out.below⟩
end Go.Proofs.YtllcbgdcepfdkaaGreatDoor
namespace Go.Proofs.YtllcbgdcepfdkaaGreatDoor
open Go.RowKit
set_option maxHeartbeats 2000000
set_option maxRecDepth 100000
/-- Words that are handed in. -/
structure WL (W : World) (ao : Option Addr) (n : Nat) (L : List Int) : Prop where
  len : L.length = n
  rg : ∀ x ∈ L, 0 ≤ x ∧ x < 4294967296
  at_ : 0 < n → ∃ g off, ao = some ⟨g, off, none⟩ ∧ W.rangeAt g off (u32s L) ∧ g < W.heap.size
theorem sizeD : (Tryz.prog.info? 91).map (·.size) = some 2 := by kernel_rfl
structure LD (W w : World) (f : Fp) (m : MS) (g gw off n c : Nat) (L : List Int) : Prop where
  mem : Mem w f m
  dv : DV w g f.gm gw off n c L
  below : Below W.heap.size W w
theorem LD.on {W w w' : World} {f : Fp} {m : MS} {g gw off n c : Nat} {L : List Int} (h : LD W w f m g gw off n c L) (hb : Below w.heap.size w w') : LD W w' f m g gw off n c L := ⟨h.mem.on hb, h.dv.on hb, below_on h.below hb⟩
theorem load_any (W : World) (f : Fp) (m : MS) (hm : Mem W f m) (h64 : m.ns ≤ 64) (ao : Option Addr) (n c : Nat) (L : List Int) (h : WL W ao n L) :
    Calls Tryz.prog 36 #[ptr f.gm, .slice ao n c] W fun e W' => (ldok m.ns L = false ∧ e = .returned (.tuple #[.pointer none, .int .i64 110]) ∧ Below W.heap.size W W') ∨
      (ldok m.ns L = true ∧ ∃ g gw, e = .returned (.tuple #[ptr g, .int .i64 0]) ∧ DB W' ⟨g, gw, f⟩ (DS.load m L) ∧ W.heap.size ≤ g ∧ W.heap.size ≤ gw ∧ Below W.heap.size W W') := by
  have HS := hid (fun w (hw : Mem w f m) => size_any w f m hw)
  have HM := hid hm
  by_cases hn : n = 1 + 2 * m.ns
  · obtain ⟨gw, off, rfl, hrg, hlt⟩ := h.at_ (by omega)
    have y0 : W.cell? ⟨gw, off, none⟩ = some (.int .u32 (wd L 0)) := by
      have := hrg 0 (.int .u32 (wd L 0)) (by rw [u32s, List.getElem?_map, wd_at (by rw [h.len]; omega)]; rfl)
      exact this
    have n0 : (0 : Int) < (n : Int) := by omega
    have hni : (n : Int) = 1 + 2 * (m.ns : Int) := by omega
    by_cases hb : wd L 0 ≤ 64
    · have HDV := hid (fun (W1 : World) (g : Nat) (hb : Below W.heap.size W W1) (hc : Cel W1 g 91 [ptr f.gm, .slice (some ⟨gw, off, none⟩) n c]) => (⟨hm.on hb, ⟨hc, fun j v hv => by
        have := hrg j v hv
        unfold World.cell? at this ⊢
        rw [hb.block gw hlt]
        exact this, h.len, by have := hb.size; omega⟩, hb⟩ : LD W W1 f m g gw off n c L))
      have HSo := hid (fun w g (hw : LD W w f m g gw off n c L) (k : Nat) (hk : k < m.ns) => sound_any w f m hw.mem hw.dv h.rg k (by omega) (by omega))
      have HPg := hid (fun w g (hw : LD W w f m g gw off n c L) => pages_dv hw.mem hw.dv)
      have HWd := hid (fun w g (hw : LD W w f m g gw off n c L) => words_dv w hw.dv (by omega))
      have HR : Hid (L.length = 1 + 2 * m.ns ∧ wd L 0 ≤ 64 ∧ (∀ x ∈ L, 0 ≤ x ∧ x < 4294967296) ∧ n = 1 + 2 * m.ns ∧ m.ns ≤ 64) := hid ⟨h.len.trans hn, hb, h.rg, hn, h64⟩
      have HNI := hid hni
      clear hm h h64 hrg hlt hn
      simp only [ptr] at HS HPg HWd HSo HDV ⊢
      go_enter Tryz.func36, Tryz.ntmps36
      go_upto_region 4 with (first | (go_at_call 76; refine (HS.out _ HM.out).mono ?_; rintro e w1 ⟨rfl, hw1⟩; subst hw1; rw [← HNI.out]) | (refine wpList_store_st rfl 91 _ _ rfl W.heap.size [.pointer (some ⟨f.gm, 0, none⟩), .slice (some ⟨gw, off, none⟩) n c] rfl rfl (Cel.new W 91 [.pointer none, .slice none 0 0]) sizeD rfl rfl ?_; intro w2 hc hb hs; have HL := hid (HDV.out w2 _ ((below_one W (.cells #[.pointer none, .slice none 0 0] 91)).trans (hb.below (by simp) (by simp))) hc); clear hc hb hs))
      clear HS HM HDV y0
      have HG : Hid (W.heap.size ≤ W.heap.size) := hid (Nat.le_refl _)
      generalize hg : W.heap.size = g6 at HL ⊢
      have HG6 := hid hg
      clear hg
      go_upto_region 5 with (go_at_call 39; refine (HPg.out _ _ HL.out).mono ?_; rintro e w3 ⟨rfl, hw3⟩; subst hw3)
      go_loopw [27] (fun i wr => ∃ j : Nat, j ≤ m.ns ∧ i = .int .i64 (j : Int) ∧ Hid (LD W wr f m g6 gw off n c L ∧ ∀ k, k < j → ldS m.ns L k = true)) (fun i _ => m.ns - (intOf i).toNat)
      case atStart => exact ⟨0, Nat.zero_le _, rfl, hid ⟨HL.out, by intro k hk; omega⟩⟩
      case round =>
        obtain ⟨j, hj, rfl, HQ⟩ := hrel
        clear HL
        by_cases hlt : j < m.ns
        · have q1 : (j : Int) < (m.ns : Int) := by omega
          have q2 : (j : Int) ≤ 1000 := by have := HR.out.2.2.2.2; omega
          have HJ : Hid (j < m.ns) := hid hlt
          clear hlt hj
          have HSj := hid (HSo.out wr g6 HQ.out.1 j HJ.out)
          cases hs : ldS m.ns L j
          · rw [hs] at HSj
            have HN : Hid (ldok m.ns L = false) := hid (by
              cases hh : ldok m.ns L
              · rfl
              · have := ((ldok_iff _ _).1 hh).2.2 j HJ.out; rw [hs] at this; exact this.symm)
            clear hs
            go_wp2_with (go_at_call 88; refine HSj.out.mono ?_; rintro e w5 ⟨rfl, hb⟩; have HQ2 := hid (HQ.out.1.on hb); clear hb)
            go_ret2
            exact .inl ⟨HN.out, rfl, HQ2.out.below⟩
          · rw [hs] at HSj
            have HS1 := hid hs
            clear hs
            go_wp2_with (go_at_call 88; refine HSj.out.mono ?_; rintro e w5 ⟨rfl, hb⟩; have HQ2 := hid (HQ.out.1.on hb); clear hb)
            go_roundw
            case measure => have := HJ.out; simp [intOf] <;> omega
            case rel => exact ⟨j + 1, HJ.out, by simp, hid ⟨HQ2.out, fun k hk => by
              by_cases e : k = j
              · rw [e]; exact HS1.out
              · exact HQ.out.2 k (by omega)⟩⟩
        · have hjn : j = m.ns := by omega
          subst hjn
          clear hlt hj
          have HOk : Hid (ldok m.ns L = true) := hid ((ldok_iff _ _).2 ⟨HR.out.1, HR.out.2.1, HQ.out.2⟩)
          go_wp2_with (go_at_call 38; refine (HWd.out _ _ HQ.out.1).mono ?_; rintro e w5 ⟨gn, rfl, hc, hl, hb⟩; have HE := hid (And.intro hc (And.intro hl hb)); have HQ2 := hid (HQ.out.1.on hb); clear hc hl hb)
          go_ret2
          refine .inr ⟨HOk.out, w5.heap.size, gn, rfl, ⟨HQ2.out.mem.on (below_one _ _), ?_, ?_, load_ok HOk.out HR.out.2.2.2.2 HR.out.2.2.1⟩, HQ2.out.below.size, Nat.le_trans HQ.out.1.below.size HE.out.2.1, below_on HQ2.out.below (below_one _ _)⟩
          · show Cel _ w5.heap.size 91 [.pointer (some ⟨f.gm, 0, none⟩), .slice (some ⟨gn, 0, none⟩) (1 + 2 * m.ns) (1 + 2 * m.ns)]
            rw [← HR.out.2.2.2.1]
            exact Cel.new w5 91 _
          · rw [load_ws HOk.out]
            exact HE.out.1.on (below_one _ _)
    · have hb' : (64 : Int) < wd L 0 := by omega
      have HN : Hid (ldok m.ns L = false) := hid (by
        cases hh : ldok m.ns L
        · rfl
        · exact absurd ((ldok_iff _ _).1 hh).2.1 hb)
      have HNI := hid hni
      clear hm h h64 hrg hlt hn hb
      simp only [ptr] at HS ⊢
      go_enter Tryz.func36, Tryz.ntmps36
      go_wp2_with (go_at_call 76; refine (HS.out _ HM.out).mono ?_; rintro e w1 ⟨rfl, hw1⟩; subst hw1; rw [← HNI.out])
      go_ret2
      exact .inl ⟨HN.out, rfl, Below.refl _ _⟩
  · have HN : Hid (ldok m.ns L = false) := hid (by
      cases hh : ldok m.ns L
      · rfl
      · exact absurd (h.len.symm.trans ((ldok_iff _ _).1 hh).1) hn)
    have hni : ((n : Int) != 1 + 2 * (m.ns : Int)) = true := by
      rw [bne_iff_ne]; omega
    clear hm h h64 hn
    simp only [ptr] at HS ⊢
    go_enter Tryz.func36, Tryz.ntmps36
    go_wp2_with (go_at_call 76; refine (HS.out _ HM.out).mono ?_; rintro e w1 ⟨rfl, hw1⟩; subst hw1)
    go_ret2
    exact .inl ⟨HN.out, rfl, Below.refl _ _⟩
end Go.Proofs.YtllcbgdcepfdkaaGreatDoor
namespace Go.Proofs.YtllcbgdcepfdkaaGreatDoor
open Go.RowKit
set_option maxRecDepth 100000
set_option maxHeartbeats 4000000
/-- A check that gave up with a code. -/
def pn (c : Int) : List PanicEntry := [{ v := .iface 77 (.int .u32 c), recovered := false }]
theorem insist_yes (W : World) (c : Int) : Calls Tryz.prog 152 #[.bool true, .int .u32 c] W fun e W' => e = .returned (.tuple #[]) ∧ W' = W := by
  go_enter Tryz.func152, Tryz.ntmps152
  go_wp2
  go_returns
  exact ⟨rfl, rfl⟩
theorem insist_no (W : World) (c : Int) : Calls Tryz.prog 152 #[.bool false, .int .u32 c] W fun e W' => e = .panicked (pn c) ∧ W' = W := by
  go_enter Tryz.func152, Tryz.ntmps152
  go_wp2
  exact ⟨rfl, rfl, rfl⟩
def inE (b : Bool) (c : Int) : Ending := if b then .returned (.tuple #[]) else .panicked (pn c)
theorem codeOf_any (W : World) (c : Int) : Calls Tryz.prog 79 #[.iface 77 (.int .u32 c)] W fun e W' => e = .returned (.int .u32 c) ∧ W' = W := by
  have ht : ∀ w, (Instr.typeAssert (.iface 77 (.int .u32 c)) 20 77 false).run Tryz.prog w = .ok (.int .u32 c) w := fun w => by kernel_rfl
  go_enter Tryz.func79, Tryz.ntmps79
  go_wp2
  go_ret
  exact ⟨rfl, rfl⟩
theorem secureP_yes (W : World) (p : Dp) (d : DS) (h : DB W p d) (w : Int) (w0 : 0 ≤ w) (hw : w < (d.m.ns : Int)) :
    Calls Tryz.prog 151 #[ptr p.g, .int .u32 w] W fun e W' => e = .returned (.int .i64 w) ∧ W' = W := by
  have HP := hid (pages_any W p d h)
  have hn := h.ok.n64
  have n1 : (d.m.ns : Int) ≤ 64 := by omega
  have n0 : 0 ≤ (d.m.ns : Int) := by omega
  generalize (d.m.ns : Int) = n at *
  have hc : IntKind.wrap .u32 n = n := by rw [IntKind.wrap_u32]; omega
  have HI := hid (insist_yes W 1)
  clear h hn
  go_enter Tryz.func151, Tryz.ntmps151
  go_wp2_with (first | (go_at_call 39; refine HP.out.mono ?_; rintro e w1 ⟨rfl, rfl⟩) | (go_at_call 152; refine HI.out.mono ?_; rintro e w1 ⟨rfl, rfl⟩))
  go_ret
  exact ⟨rfl, rfl⟩
theorem secureP_no (W : World) (p : Dp) (d : DS) (h : DB W p d) (w : Int) (hw : (d.m.ns : Int) ≤ w) :
    Calls Tryz.prog 151 #[ptr p.g, .int .u32 w] W fun e W' => e = .panicked (pn 1) ∧ W' = W := by
  have HP := hid (pages_any W p d h)
  have hn := h.ok.n64
  have n1 : (d.m.ns : Int) ≤ 64 := by omega
  have n0 : 0 ≤ (d.m.ns : Int) := by omega
  generalize (d.m.ns : Int) = n at *
  have hc : IntKind.wrap .u32 n = n := by rw [IntKind.wrap_u32]; omega
  have HI : Hid (Calls Tryz.prog 152 #[.bool (decide (w < n)), .int .u32 1] W fun e W' => e = .panicked (pn 1) ∧ W' = W) := hid (by rw [decide_eq_false (by omega)]; exact insist_no W 1)
  clear h hn hw
  go_enter Tryz.func151, Tryz.ntmps151
  go_wp2_with (first | (go_at_call 39; refine HP.out.mono ?_; rintro e w1 ⟨rfl, rfl⟩) | (go_at_call 152; refine HI.out.mono ?_; rintro e w1 ⟨rfl, rfl⟩))
  exact ⟨rfl, rfl, rfl⟩
theorem sframe_any (W : World) (q : Int) : Calls Tryz.prog 158 #[.int .i64 q] W fun x W' => x = .returned (fr true q) ∧ Below W.heap.size W W' := by
  unfold fr
  go_enter Tryz.func158, Tryz.ntmps158
  go_wp2_with fail
  go_returns
  exact ⟨rfl, below_one _ _⟩
end Go.Proofs.YtllcbgdcepfdkaaGreatDoor
