/- The law's step 29. -/
import Derived.Test.YtnmdhnbgikbpoaaQ8
namespace Go.Proofs.Ytnmdhnbgikbpoaa
open Go.RowKit
section
variable {gb : Nat} {f : Nat → Fp} {r : Nat → Rf} {vL : Value} {g3 : Nat} {q : Oq} {x : World} (h : SS gb (benC f r vL) g3 q x)
include h
theorem SS.cm (i : Nat) (hi : i < 4) : x.cell? ⟨gb, i, none⟩ = some (.pointer (some ⟨(f i).gm, 0, none⟩)) := by
  rw [h.1.cell i]
  match i, hi with
  | 0, _ => rfl
  | 1, _ => rfl
  | 2, _ => rfl
  | 3, _ => rfl
theorem SS.cr (i : Nat) (hi : i < 4) : x.cell? ⟨gb, 4 + i, none⟩ = some (.pointer (some ⟨(r i).g, 0, none⟩)) := by
  rw [h.1.cell (4 + i)]
  match i, hi with
  | 0, _ => rfl
  | 1, _ => rfl
  | 2, _ => rfl
  | 3, _ => rfl
theorem SS.off : x.cell? ⟨g3, 7, none⟩ = some (.int .i64 q.off) := h.2.cell 7
theorem SS.v : x.cell? ⟨g3, 8, none⟩ = some (.int .u32 q.v) := h.2.cell 8
end
theorem box_ne {W w : World} {gb g3 : Nat} {f : Nat → Fp} {r : Nat → Rf} {mf mr : Nat → MS} {vL : Value} {lv : List Value} {q : Oq} (hb : Cel w g3 72 q.cs) (h : Bn W w gb f r mf mr vL lv) : g3 ≠ gb := fun e => by
  subst e
  exact absurd (hb.tyAt.eq h.cel.tyAt) (by decide)
theorem SB.ne {W wr : World} {gb : Nat} {f : Nat → Fp} {r : Nat → Rf} {mf mr : Nat → MS} {vL : Value} {lv : List Value} {BC : List Value} {g3 : Nat} {q : Oq} (h : SB W wr gb f r mf mr vL lv BC g3 q) : g3 ≠ gb := box_ne h.box h.bn
set_option maxRecDepth 40000 in
set_option maxHeartbeats 16000000 in
theorem step_any (hlays : LaysOk) {W wr : World} {gb : Nat} {f : Nat → Fp} {r : Nat → Rf} {m : Nat → MS} {vL : Value} {lv : List Value} (h : Bn W wr gb f r m m vL lv) (h4 : lv.length % 4 = 0) (hN : (lv.length + 4) * 24 ≤ 140737488355328) (q : Oq) (hq : OqOk W q) :
    Calls Try.prog 29 #[.pointer (some ⟨gb, 0, none⟩), .agg q.cs.toArray] wr fun x w' => x = .returned (.bool true) ∧ StE W w' gb lv := by
  obtain ⟨i, ei⟩ : ∃ i : Nat, q.m % 4 = (i : Int) := ⟨(q.m % 4).toNat, by omega⟩
  obtain ⟨j, ej⟩ : ∃ j : Nat, q.n % 4 = (j : Int) := ⟨(q.n % 4).toNat, by omega⟩
  have hi : i < 4 := by omega
  have hj : j < 4 := by omega
  have i4 : (i : Int) < 4 := by omega
  have j4 : (j : Int) < 4 := by omega
  have HSB : Hid (SB W (wr.alloc (.cells q.cs.toArray 72)) gb f r m m vL lv (benC f r vL) wr.heap.size q) := hid ⟨h.on (below_one _ _), h.cel.on (below_one _ _), Cel.new wr 72 q.cs⟩
  have HLY : Hid LaysOk := hid hlays
  have H4 := hid h4
  have HN := hid hN
  have HQ := hid hq
  have EI := hid ei
  have EJ := hid ej
  have y0 : (wr.alloc (.cells q.cs.toArray 72)).cell? ⟨wr.heap.size, 0, none⟩ = some (.int .i64 q.k) := HSB.out.box.cell 0
  have y1 : (wr.alloc (.cells q.cs.toArray 72)).cell? ⟨wr.heap.size, 1, none⟩ = some (.int .i64 q.m) := HSB.out.box.cell 1
  have y2 : (wr.alloc (.cells q.cs.toArray 72)).cell? ⟨wr.heap.size, 2, none⟩ = some (.int .i64 q.n) := HSB.out.box.cell 2
  have y7 : (wr.alloc (.cells q.cs.toArray 72)).cell? ⟨wr.heap.size, 7, none⟩ = some (.int .i64 q.off) := HSB.out.box.cell 7
  clear h hq h4 hN hlays ei ej
  generalize hqc : q.cs.toArray = qa at *
  clear hqc
  go_enter Try.func29, Try.ntmps29
  go_wp2_with fail
  refine (slot_any _ _).mono ?_
  rintro x wk ⟨rfl, rfl⟩
  rw [EI.out]
  go_wp2_with fail
  refine (slot_any _ _).mono ?_
  rintro x wk ⟨rfl, rfl⟩
  rw [EJ.out]
  generalize hX : wr.alloc _ = X at *
  clear hX
  generalize hg3 : wr.heap.size = g3 at *
  clear hg3
  by_cases k1 : q.k = 1
  · rw [k1] at y0
    go_wp2_with fail
    refine (fresh_any HSB.out.bn i hi q.n q.off).mono ?_
    rintro x w2 ⟨rfl, f2, r2, m2, hb⟩
    have HFIN := hid hb
    clear hb
    go_wp2_with fail
    go_ret
    exact ⟨rfl, _, _, _, _, lv, HFIN.out, by omega, H4.out⟩
  by_cases k2 : q.k = 2
  · rw [k2] at y0
    go_wp2_with fail
    refine wp_region_held_drew (S := SS gb (benC f r vL) g3 q) (by kernel_rfl) (HSB.out.on (Below.refl _ _).drew).s (fun hHeld => ?_)
    refine wpAnyH_take (i := 0) (oi := { dst := some 31, op := Op.move (Operand.tmp 0), type := 62, pos := "law.go:186", after := #[], guard := none }) (v := .pointer (some ⟨gb, 0, none⟩)) rfl (by kernel_rfl) (by kernel_rfl) (by kernel_rfl) (fun _ _ _ h => h) (Or.inl ⟨by rfl, by intro w hSw; go_simp⟩) (by assumption) ?_
    simp only [Act.put, List.setIfInBounds_toArray, List.set_cons_zero, List.set_cons_succ]
    refine wpAnyH_take (i := 1) (oi := { dst := some 32, op := Op.move (Operand.tmp 5), type := 3, pos := "law.go:186", after := #[], guard := none }) (v := .int .i64 (i : Int)) rfl (by kernel_rfl) (by kernel_rfl) (by kernel_rfl) (fun _ _ _ h => h) (Or.inl ⟨by rfl, by intro w hSw; go_simp⟩) (by assumption) ?_
    simp only [Act.put, List.setIfInBounds_toArray, List.set_cons_zero, List.set_cons_succ]
    refine wpAnyH_take (i := 2) (oi := { dst := some 33, op := Op.nilCheck (Operand.tmp 31), type := 0, pos := "law.go:186", after := #[{ on := 0, ground := Ground.data }], guard := none }) (v := .pointer (some ⟨gb, 0, none⟩)) rfl (by kernel_rfl) (by kernel_rfl) (by kernel_rfl) (fun _ _ _ h => h) (Or.inl ⟨by rfl, by intro w hSw; go_simp⟩) (by assumption) ?_
    simp only [Act.put, List.setIfInBounds_toArray, List.set_cons_zero, List.set_cons_succ]
    refine wpAnyH_take (i := 3) (oi := { dst := some 34, op := Op.fieldAddr 68 (Operand.tmp 33) 0, type := 0, pos := "law.go:186", after := #[{ on := 2, ground := Ground.data }], guard := none }) (v := .pointer (some ⟨gb, 0, none⟩)) rfl (by kernel_rfl) (by kernel_rfl) (by kernel_rfl) (fun _ _ _ h => h) (Or.inl ⟨by rfl, by intro w hSw; go_simp⟩) (by assumption) ?_
    simp only [Act.put, List.setIfInBounds_toArray, List.set_cons_zero, List.set_cons_succ]
    refine wpAnyH_take (i := 4) (oi := { dst := some 35, op := Op.indexAddr 63 (Operand.tmp 34) (Operand.tmp 32), type := 0, pos := "law.go:186", after := #[{ on := 3, ground := Ground.data }, { on := 1, ground := Ground.data }], guard := none }) (v := .pointer (some ⟨gb, i, none⟩)) rfl (by kernel_rfl) (by kernel_rfl) (by kernel_rfl) (fun _ _ _ h => h) (Or.inl ⟨by rfl, by intro w hSw; go_simp⟩) (by assumption) ?_
    simp only [Act.put, List.setIfInBounds_toArray, List.set_cons_zero, List.set_cons_succ]
    refine wpAnyH_take (i := 5) (oi := { dst := some 36, op := Op.load 25 (Operand.tmp 35), type := 25, pos := "law.go:186", after := #[{ on := 4, ground := Ground.data }], guard := none }) (v := .pointer (some ⟨(f i).gm, 0, none⟩)) rfl (by kernel_rfl) (by kernel_rfl) (by kernel_rfl) (fun _ _ _ h => h) (Or.inl ⟨by rfl, by intro w hSw; have hcc := SS.cm hSw i hi; go_simp⟩) (by assumption) ?_
    simp only [Act.put, List.setIfInBounds_toArray, List.set_cons_zero, List.set_cons_succ]
    refine wpAnyH_take (i := 6) (oi := { dst := some 37, op := Op.fieldAddr 72 (Operand.tmp 3) 3, type := 0, pos := "law.go:186", after := #[], guard := none }) (v := .pointer (some ⟨g3, 3, none⟩)) rfl (by kernel_rfl) (by kernel_rfl) (by kernel_rfl) (fun _ _ _ h => h) (Or.inl ⟨by rfl, by intro w hSw; go_simp⟩) (by assumption) ?_
    simp only [Act.put, List.setIfInBounds_toArray, List.set_cons_zero, List.set_cons_succ]
    refine wpAnyH_take (i := 7) (oi := { dst := some 38, op := Op.load 23 (Operand.tmp 37), type := 23, pos := "law.go:186", after := #[{ on := 6, ground := Ground.data }], guard := none }) (v := .agg #[.bool q.s, .int .i64 q.p]) rfl (by kernel_rfl) (by kernel_rfl) (by kernel_rfl) (fun _ _ _ h => h) (yieldsIf_load_mid (by rfl) _ _ rfl _ _ rfl _ _ (fun w hSw => (Cel.rangeF hSw.2)) under23 rfl size23) (by assumption) ?_
    simp only [Act.put, List.setIfInBounds_toArray, List.set_cons_zero, List.set_cons_succ]
    refine wpAnyH_take (i := 8) (oi := { dst := some 39, op := Op.fieldAddr 72 (Operand.tmp 3) 5, type := 0, pos := "law.go:186", after := #[], guard := none }) (v := .pointer (some ⟨g3, 7, none⟩)) rfl (by kernel_rfl) (by kernel_rfl) (by kernel_rfl) (fun _ _ _ h => h) (Or.inl ⟨by rfl, by intro w hSw; go_simp⟩) (by assumption) ?_
    simp only [Act.put, List.setIfInBounds_toArray, List.set_cons_zero, List.set_cons_succ]
    refine wpAnyH_take (i := 9) (oi := { dst := some 40, op := Op.load 3 (Operand.tmp 39), type := 3, pos := "law.go:186", after := #[{ on := 8, ground := Ground.data }], guard := none }) (v := .int .i64 q.off) rfl (by kernel_rfl) (by kernel_rfl) (by kernel_rfl) (fun _ _ _ h => h) (Or.inl ⟨by rfl, by intro w hSw; have hcc := SS.off hSw; go_simp⟩) (by assumption) ?_
    simp only [Act.put, List.setIfInBounds_toArray, List.set_cons_zero, List.set_cons_succ]
    refine wpAnyH_ready (rs := [10]) (by kernel_rfl) (by simp) (AllReadyH.cons (o := { dst := some 41, op := Op.call { callee := Callee.value (Operand.func 12), args := #[Operand.tmp 36, Operand.tmp 38, Operand.tmp 40], argTypes := #[25, 23, 3] }, type := 34, pos := "law.go:186", after := #[{ on := 5, ground := Ground.data }, { on := 7, ground := Ground.data }, { on := 9, ground := Ground.data }], guard := none }) rfl (fun KQ hK => ?_) AllReadyH.nil)
    go_simp
    refine (read_any _ (f i) (m i) (((HSB.out.on (Below.refl _ _).drew)).bn.mem i hi) q.s q.p q.off).mono ?_
    rintro x wA ⟨rfl, hmA, hbA⟩
    have sbA := ((HSB.out.on (Below.refl _ _).drew)).fst i hi hbA hmA (len_read _ _ _ _)
    go_wp2_with fail
    refine hK.out _ _ sbA.s (fun hHeld => ?_)
    clear hK KQ
    try simp only [Act.put, List.setIfInBounds_toArray, List.set_cons_zero, List.set_cons_succ]
    refine wpAnyH_take (i := 11) (oi := { dst := some 30, op := Op.move (Operand.tmp 41), type := 34, pos := "law.go:186", after := #[{ on := 10, ground := Ground.data }], guard := none }) (v := .tuple #[.int .u32 ((m i).word q.s q.p q.off), .int .i64 ((m i).err q.s q.p q.off)]) rfl (by kernel_rfl) (by kernel_rfl) (by kernel_rfl) (fun _ _ _ h => h) (Or.inl ⟨by rfl, by intro w hSw; go_simp⟩) (by assumption) ?_
    simp only [Act.put, List.setIfInBounds_toArray, List.set_cons_zero, List.set_cons_succ]
    refine wpAnyH_take (i := 12) (oi := { dst := some 42, op := Op.extract (Operand.tmp 30) 0, type := 32, pos := "law.go:186", after := #[{ on := 11, ground := Ground.data }], guard := none }) (v := .int .u32 ((m i).word q.s q.p q.off)) rfl (by kernel_rfl) (by kernel_rfl) (by kernel_rfl) (fun _ _ _ h => h) (Or.inl ⟨by rfl, by intro w hSw; go_simp⟩) (by assumption) ?_
    simp only [Act.put, List.setIfInBounds_toArray, List.set_cons_zero, List.set_cons_succ]
    refine wpAnyH_take (i := 13) (oi := { dst := some 43, op := Op.extract (Operand.tmp 30) 1, type := 26, pos := "law.go:186", after := #[{ on := 11, ground := Ground.data }, { on := 14, ground := Ground.gcOnly Departure.lateStores }], guard := none }) (v := .int .i64 ((m i).err q.s q.p q.off)) rfl (by kernel_rfl) (by kernel_rfl) (by kernel_rfl) (fun _ _ _ h => h) (Or.inl ⟨by rfl, by intro w hSw; go_simp⟩) (by assumption) ?_
    simp only [Act.put, List.setIfInBounds_toArray, List.set_cons_zero, List.set_cons_succ]
    refine wpAnyH_ready (rs := [14]) (by kernel_rfl) (by simp) (AllReadyH.cons (o := { dst := some 7, op := Op.assign (Operand.tmp 42), type := 32, pos := "law.go:186", after := #[{ on := 12, ground := Ground.data }, { on := 10, ground := Ground.chain }, { on := 0, ground := Ground.phase }, { on := 1, ground := Ground.phase }, { on := 2, ground := Ground.phase }, { on := 3, ground := Ground.phase }, { on := 4, ground := Ground.phase }, { on := 5, ground := Ground.phase }, { on := 6, ground := Ground.phase }, { on := 7, ground := Ground.phase }, { on := 8, ground := Ground.phase }, { on := 9, ground := Ground.phase }, { on := 10, ground := Ground.phase }, { on := 11, ground := Ground.phase }, { on := 12, ground := Ground.phase }, { on := 13, ground := Ground.textOnly Departure.lateStores }], guard := none }) rfl (fun KQ hK => ?_) AllReadyH.nil)
    go_simp
    refine hK.out _ _ sbA.s (fun hHeld => ?_)
    clear hK KQ
    try simp only [Act.put, List.setIfInBounds_toArray, List.set_cons_zero, List.set_cons_succ]
    refine wpAnyH_ready (rs := [15]) (by kernel_rfl) (by simp) (AllReadyH.cons (o := { dst := some 8, op := Op.assign (Operand.tmp 43), type := 26, pos := "law.go:186", after := #[{ on := 13, ground := Ground.data }, { on := 14, ground := Ground.chain }, { on := 0, ground := Ground.phase }, { on := 1, ground := Ground.phase }, { on := 2, ground := Ground.phase }, { on := 3, ground := Ground.phase }, { on := 4, ground := Ground.phase }, { on := 5, ground := Ground.phase }, { on := 6, ground := Ground.phase }, { on := 7, ground := Ground.phase }, { on := 8, ground := Ground.phase }, { on := 9, ground := Ground.phase }, { on := 10, ground := Ground.phase }, { on := 11, ground := Ground.phase }, { on := 12, ground := Ground.phase }, { on := 13, ground := Ground.phase }, { on := 14, ground := Ground.phase }], guard := none }) rfl (fun KQ hK => ?_) AllReadyH.nil)
    go_simp
    refine hK.out _ _ sbA.s (fun hHeld => ?_)
    clear hK KQ
    try simp only [Act.put, List.setIfInBounds_toArray, List.set_cons_zero, List.set_cons_succ]
    refine wpAnyH_done (by kernel_rfl) ?_ _
    clear hHeld
    have SA := hid sbA
    clear sbA hmA hbA HSB y0 y1 y2 y7
    go_wp2_with fail
    refine wp_region_held_drew (S := SS gb (benC f r vL) g3 q) (by kernel_rfl) (SA.out.on (Below.refl _ _).drew).s (fun hHeld => ?_)
    refine wpAnyH_take (i := 0) (oi := { dst := some 45, op := Op.move (Operand.tmp 0), type := 62, pos := "law.go:187", after := #[], guard := none }) (v := .pointer (some ⟨gb, 0, none⟩)) rfl (by kernel_rfl) (by kernel_rfl) (by kernel_rfl) (fun _ _ _ h => h) (Or.inl ⟨by rfl, by intro w hSw; go_simp⟩) (by assumption) ?_
    simp only [Act.put, List.setIfInBounds_toArray, List.set_cons_zero, List.set_cons_succ]
    refine wpAnyH_take (i := 1) (oi := { dst := some 46, op := Op.move (Operand.tmp 5), type := 3, pos := "law.go:187", after := #[], guard := none }) (v := .int .i64 (i : Int)) rfl (by kernel_rfl) (by kernel_rfl) (by kernel_rfl) (fun _ _ _ h => h) (Or.inl ⟨by rfl, by intro w hSw; go_simp⟩) (by assumption) ?_
    simp only [Act.put, List.setIfInBounds_toArray, List.set_cons_zero, List.set_cons_succ]
    refine wpAnyH_take (i := 2) (oi := { dst := some 47, op := Op.nilCheck (Operand.tmp 45), type := 0, pos := "law.go:187", after := #[{ on := 0, ground := Ground.data }], guard := none }) (v := .pointer (some ⟨gb, 0, none⟩)) rfl (by kernel_rfl) (by kernel_rfl) (by kernel_rfl) (fun _ _ _ h => h) (Or.inl ⟨by rfl, by intro w hSw; go_simp⟩) (by assumption) ?_
    simp only [Act.put, List.setIfInBounds_toArray, List.set_cons_zero, List.set_cons_succ]
    refine wpAnyH_take (i := 3) (oi := { dst := some 48, op := Op.fieldAddr 68 (Operand.tmp 47) 1, type := 0, pos := "law.go:187", after := #[{ on := 2, ground := Ground.data }], guard := none }) (v := .pointer (some ⟨gb, 4, none⟩)) rfl (by kernel_rfl) (by kernel_rfl) (by kernel_rfl) (fun _ _ _ h => h) (Or.inl ⟨by rfl, by intro w hSw; go_simp⟩) (by assumption) ?_
    simp only [Act.put, List.setIfInBounds_toArray, List.set_cons_zero, List.set_cons_succ]
    refine wpAnyH_take (i := 4) (oi := { dst := some 49, op := Op.indexAddr 65 (Operand.tmp 48) (Operand.tmp 46), type := 0, pos := "law.go:187", after := #[{ on := 3, ground := Ground.data }, { on := 1, ground := Ground.data }], guard := none }) (v := .pointer (some ⟨gb, 4 + i, none⟩)) rfl (by kernel_rfl) (by kernel_rfl) (by kernel_rfl) (fun _ _ _ h => h) (Or.inl ⟨by rfl, by intro w hSw; go_simp⟩) (by assumption) ?_
    simp only [Act.put, List.setIfInBounds_toArray, List.set_cons_zero, List.set_cons_succ]
    refine wpAnyH_take (i := 5) (oi := { dst := some 50, op := Op.load 64 (Operand.tmp 49), type := 64, pos := "law.go:187", after := #[{ on := 4, ground := Ground.data }], guard := none }) (v := .pointer (some ⟨(r i).g, 0, none⟩)) rfl (by kernel_rfl) (by kernel_rfl) (by kernel_rfl) (fun _ _ _ h => h) (Or.inl ⟨by rfl, by intro w hSw; have hcc := SS.cr hSw i hi; go_simp⟩) (by assumption) ?_
    simp only [Act.put, List.setIfInBounds_toArray, List.set_cons_zero, List.set_cons_succ]
    refine wpAnyH_take (i := 6) (oi := { dst := some 51, op := Op.fieldAddr 72 (Operand.tmp 3) 3, type := 0, pos := "law.go:187", after := #[], guard := none }) (v := .pointer (some ⟨g3, 3, none⟩)) rfl (by kernel_rfl) (by kernel_rfl) (by kernel_rfl) (fun _ _ _ h => h) (Or.inl ⟨by rfl, by intro w hSw; go_simp⟩) (by assumption) ?_
    simp only [Act.put, List.setIfInBounds_toArray, List.set_cons_zero, List.set_cons_succ]
    refine wpAnyH_take (i := 7) (oi := { dst := some 52, op := Op.load 23 (Operand.tmp 51), type := 23, pos := "law.go:187", after := #[{ on := 6, ground := Ground.data }], guard := none }) (v := .agg #[.bool q.s, .int .i64 q.p]) rfl (by kernel_rfl) (by kernel_rfl) (by kernel_rfl) (fun _ _ _ h => h) (yieldsIf_load_mid (by rfl) _ _ rfl _ _ rfl _ _ (fun w hSw => (Cel.rangeF hSw.2)) under23 rfl size23) (by assumption) ?_
    simp only [Act.put, List.setIfInBounds_toArray, List.set_cons_zero, List.set_cons_succ]
    refine wpAnyH_take (i := 9) (oi := { dst := some 54, op := Op.fieldAddr 72 (Operand.tmp 3) 5, type := 0, pos := "law.go:187", after := #[], guard := none }) (v := .pointer (some ⟨g3, 7, none⟩)) rfl (by kernel_rfl) (by kernel_rfl) (by kernel_rfl) (fun _ _ _ h => h) (Or.inl ⟨by rfl, by intro w hSw; go_simp⟩) (by assumption) ?_
    simp only [Act.put, List.setIfInBounds_toArray, List.set_cons_zero, List.set_cons_succ]
    refine wpAnyH_take (i := 10) (oi := { dst := some 55, op := Op.load 3 (Operand.tmp 54), type := 3, pos := "law.go:187", after := #[{ on := 9, ground := Ground.data }], guard := none }) (v := .int .i64 q.off) rfl (by kernel_rfl) (by kernel_rfl) (by kernel_rfl) (fun _ _ _ h => h) (Or.inl ⟨by rfl, by intro w hSw; have hcc := SS.off hSw; go_simp⟩) (by assumption) ?_
    simp only [Act.put, List.setIfInBounds_toArray, List.set_cons_zero, List.set_cons_succ]
    refine wpAnyH_ready (rs := [8]) (by kernel_rfl) (by simp) (AllReadyH.cons (o := { dst := some 53, op := Op.call { callee := Callee.value (Operand.func 42), args := #[Operand.tmp 52], argTypes := #[23] }, type := 95, pos := "law.go:187", after := #[{ on := 7, ground := Ground.data }], guard := none }) rfl (fun KQ hK => ?_) AllReadyH.nil)
    go_simp
    refine (doc_any _ q.s q.p).mono ?_
    rintro x wB ⟨rfl, hbB⟩
    have sbB := ((SA.out.on (Below.refl _ _).drew)).on hbB
    simp only [fr]
    go_wp2_with fail
    refine hK.out _ _ sbB.s (fun hHeld => ?_)
    clear hK KQ
    try simp only [Act.put, List.setIfInBounds_toArray, List.set_cons_zero, List.set_cons_succ]
    refine wpAnyH_ready (rs := [11]) (by kernel_rfl) (by simp) (AllReadyH.cons (o := { dst := some 56, op := Op.call { callee := Callee.value (Operand.func 41), args := #[Operand.tmp 50, Operand.tmp 53, Operand.tmp 55], argTypes := #[64, 95, 3] }, type := 93, pos := "law.go:187", after := #[{ on := 5, ground := Ground.data }, { on := 8, ground := Ground.data }, { on := 10, ground := Ground.data }, { on := 8, ground := Ground.chain }], guard := none }) rfl (fun KQ hK => ?_) AllReadyH.nil)
    go_simp
    refine (rread_any _ (r i) (m i) ((sbB).bn.rmem i hi) q.s q.p q.off).mono ?_
    rintro x wC ⟨rfl, hrC⟩
    have sbC := (sbB).rst i hi hrC (len_read _ _ _ _)
    go_wp2_with fail
    refine hK.out _ _ sbC.s (fun hHeld => ?_)
    clear hK KQ
    try simp only [Act.put, List.setIfInBounds_toArray, List.set_cons_zero, List.set_cons_succ]
    refine wpAnyH_take (i := 12) (oi := { dst := some 44, op := Op.move (Operand.tmp 56), type := 93, pos := "law.go:187", after := #[{ on := 11, ground := Ground.data }], guard := none }) (v := .tuple #[.int .u32 ((m i).word q.s q.p q.off), .int .i64 ((m i).err q.s q.p q.off)]) rfl (by kernel_rfl) (by kernel_rfl) (by kernel_rfl) (fun _ _ _ h => h) (Or.inl ⟨by rfl, by intro w hSw; go_simp⟩) (by assumption) ?_
    simp only [Act.put, List.setIfInBounds_toArray, List.set_cons_zero, List.set_cons_succ]
    refine wpAnyH_take (i := 13) (oi := { dst := some 57, op := Op.extract (Operand.tmp 44) 0, type := 32, pos := "law.go:187", after := #[{ on := 12, ground := Ground.data }], guard := none }) (v := .int .u32 ((m i).word q.s q.p q.off)) rfl (by kernel_rfl) (by kernel_rfl) (by kernel_rfl) (fun _ _ _ h => h) (Or.inl ⟨by rfl, by intro w hSw; go_simp⟩) (by assumption) ?_
    simp only [Act.put, List.setIfInBounds_toArray, List.set_cons_zero, List.set_cons_succ]
    refine wpAnyH_take (i := 14) (oi := { dst := some 58, op := Op.extract (Operand.tmp 44) 1, type := 3, pos := "law.go:187", after := #[{ on := 12, ground := Ground.data }, { on := 15, ground := Ground.gcOnly Departure.lateStores }], guard := none }) (v := .int .i64 ((m i).err q.s q.p q.off)) rfl (by kernel_rfl) (by kernel_rfl) (by kernel_rfl) (fun _ _ _ h => h) (Or.inl ⟨by rfl, by intro w hSw; go_simp⟩) (by assumption) ?_
    simp only [Act.put, List.setIfInBounds_toArray, List.set_cons_zero, List.set_cons_succ]
    refine wpAnyH_ready (rs := [15]) (by kernel_rfl) (by simp) (AllReadyH.cons (o := { dst := some 9, op := Op.assign (Operand.tmp 57), type := 32, pos := "law.go:187", after := #[{ on := 13, ground := Ground.data }, { on := 11, ground := Ground.chain }, { on := 0, ground := Ground.phase }, { on := 1, ground := Ground.phase }, { on := 2, ground := Ground.phase }, { on := 3, ground := Ground.phase }, { on := 4, ground := Ground.phase }, { on := 5, ground := Ground.phase }, { on := 6, ground := Ground.phase }, { on := 7, ground := Ground.phase }, { on := 8, ground := Ground.phase }, { on := 9, ground := Ground.phase }, { on := 10, ground := Ground.phase }, { on := 11, ground := Ground.phase }, { on := 12, ground := Ground.phase }, { on := 13, ground := Ground.phase }, { on := 14, ground := Ground.textOnly Departure.lateStores }], guard := none }) rfl (fun KQ hK => ?_) AllReadyH.nil)
    go_simp
    refine hK.out _ _ sbC.s (fun hHeld => ?_)
    clear hK KQ
    try simp only [Act.put, List.setIfInBounds_toArray, List.set_cons_zero, List.set_cons_succ]
    refine wpAnyH_ready (rs := [16]) (by kernel_rfl) (by simp) (AllReadyH.cons (o := { dst := some 10, op := Op.assign (Operand.tmp 58), type := 3, pos := "law.go:187", after := #[{ on := 14, ground := Ground.data }, { on := 15, ground := Ground.chain }, { on := 0, ground := Ground.phase }, { on := 1, ground := Ground.phase }, { on := 2, ground := Ground.phase }, { on := 3, ground := Ground.phase }, { on := 4, ground := Ground.phase }, { on := 5, ground := Ground.phase }, { on := 6, ground := Ground.phase }, { on := 7, ground := Ground.phase }, { on := 8, ground := Ground.phase }, { on := 9, ground := Ground.phase }, { on := 10, ground := Ground.phase }, { on := 11, ground := Ground.phase }, { on := 12, ground := Ground.phase }, { on := 13, ground := Ground.phase }, { on := 14, ground := Ground.phase }, { on := 15, ground := Ground.phase }], guard := none }) rfl (fun KQ hK => ?_) AllReadyH.nil)
    go_simp
    refine hK.out _ _ sbC.s (fun hHeld => ?_)
    clear hK KQ
    try simp only [Act.put, List.setIfInBounds_toArray, List.set_cons_zero, List.set_cons_succ]
    refine wpAnyH_done (by kernel_rfl) ?_ _
    clear hHeld
    have SC := hid sbC
    clear sbC hrC sbB hbB SA
    go_wp2_with fail
    refine (num_any _ _).mono ?_
    rintro x wn ⟨rfl, rfl⟩
    go_wp2_with fail
    go_ret
    exact ⟨by simp, _, _, _, _, lv, SC.out.bn, by omega, H4.out⟩
  by_cases k3 : q.k = 3
  · rw [k3] at y0
    go_wp2_with fail
    refine wp_region_held_drew (S := SS gb (benC f r vL) g3 q) (by kernel_rfl) (HSB.out.on (Below.refl _ _).drew).s (fun hHeld => ?_)
    refine wpAnyH_take (i := 0) (oi := { dst := some 70, op := Op.move (Operand.tmp 0), type := 62, pos := "law.go:190", after := #[], guard := none }) (v := .pointer (some ⟨gb, 0, none⟩)) rfl (by kernel_rfl) (by kernel_rfl) (by kernel_rfl) (fun _ _ _ h => h) (Or.inl ⟨by rfl, by intro w hSw; go_simp⟩) (by assumption) ?_
    simp only [Act.put, List.setIfInBounds_toArray, List.set_cons_zero, List.set_cons_succ]
    refine wpAnyH_take (i := 1) (oi := { dst := some 71, op := Op.move (Operand.tmp 5), type := 3, pos := "law.go:190", after := #[], guard := none }) (v := .int .i64 (i : Int)) rfl (by kernel_rfl) (by kernel_rfl) (by kernel_rfl) (fun _ _ _ h => h) (Or.inl ⟨by rfl, by intro w hSw; go_simp⟩) (by assumption) ?_
    simp only [Act.put, List.setIfInBounds_toArray, List.set_cons_zero, List.set_cons_succ]
    refine wpAnyH_take (i := 2) (oi := { dst := some 72, op := Op.nilCheck (Operand.tmp 70), type := 0, pos := "law.go:190", after := #[{ on := 0, ground := Ground.data }], guard := none }) (v := .pointer (some ⟨gb, 0, none⟩)) rfl (by kernel_rfl) (by kernel_rfl) (by kernel_rfl) (fun _ _ _ h => h) (Or.inl ⟨by rfl, by intro w hSw; go_simp⟩) (by assumption) ?_
    simp only [Act.put, List.setIfInBounds_toArray, List.set_cons_zero, List.set_cons_succ]
    refine wpAnyH_take (i := 3) (oi := { dst := some 73, op := Op.fieldAddr 68 (Operand.tmp 72) 0, type := 0, pos := "law.go:190", after := #[{ on := 2, ground := Ground.data }], guard := none }) (v := .pointer (some ⟨gb, 0, none⟩)) rfl (by kernel_rfl) (by kernel_rfl) (by kernel_rfl) (fun _ _ _ h => h) (Or.inl ⟨by rfl, by intro w hSw; go_simp⟩) (by assumption) ?_
    simp only [Act.put, List.setIfInBounds_toArray, List.set_cons_zero, List.set_cons_succ]
    refine wpAnyH_take (i := 4) (oi := { dst := some 74, op := Op.indexAddr 63 (Operand.tmp 73) (Operand.tmp 71), type := 0, pos := "law.go:190", after := #[{ on := 3, ground := Ground.data }, { on := 1, ground := Ground.data }], guard := none }) (v := .pointer (some ⟨gb, i, none⟩)) rfl (by kernel_rfl) (by kernel_rfl) (by kernel_rfl) (fun _ _ _ h => h) (Or.inl ⟨by rfl, by intro w hSw; go_simp⟩) (by assumption) ?_
    simp only [Act.put, List.setIfInBounds_toArray, List.set_cons_zero, List.set_cons_succ]
    refine wpAnyH_take (i := 5) (oi := { dst := some 75, op := Op.load 25 (Operand.tmp 74), type := 25, pos := "law.go:190", after := #[{ on := 4, ground := Ground.data }], guard := none }) (v := .pointer (some ⟨(f i).gm, 0, none⟩)) rfl (by kernel_rfl) (by kernel_rfl) (by kernel_rfl) (fun _ _ _ h => h) (Or.inl ⟨by rfl, by intro w hSw; have hcc := SS.cm hSw i hi; go_simp⟩) (by assumption) ?_
    simp only [Act.put, List.setIfInBounds_toArray, List.set_cons_zero, List.set_cons_succ]
    refine wpAnyH_take (i := 6) (oi := { dst := some 76, op := Op.fieldAddr 72 (Operand.tmp 3) 3, type := 0, pos := "law.go:190", after := #[], guard := none }) (v := .pointer (some ⟨g3, 3, none⟩)) rfl (by kernel_rfl) (by kernel_rfl) (by kernel_rfl) (fun _ _ _ h => h) (Or.inl ⟨by rfl, by intro w hSw; go_simp⟩) (by assumption) ?_
    simp only [Act.put, List.setIfInBounds_toArray, List.set_cons_zero, List.set_cons_succ]
    refine wpAnyH_take (i := 7) (oi := { dst := some 77, op := Op.load 23 (Operand.tmp 76), type := 23, pos := "law.go:190", after := #[{ on := 6, ground := Ground.data }], guard := none }) (v := .agg #[.bool q.s, .int .i64 q.p]) rfl (by kernel_rfl) (by kernel_rfl) (by kernel_rfl) (fun _ _ _ h => h) (yieldsIf_load_mid (by rfl) _ _ rfl _ _ rfl _ _ (fun w hSw => (Cel.rangeF hSw.2)) under23 rfl size23) (by assumption) ?_
    simp only [Act.put, List.setIfInBounds_toArray, List.set_cons_zero, List.set_cons_succ]
    refine wpAnyH_take (i := 8) (oi := { dst := some 78, op := Op.fieldAddr 72 (Operand.tmp 3) 5, type := 0, pos := "law.go:190", after := #[], guard := none }) (v := .pointer (some ⟨g3, 7, none⟩)) rfl (by kernel_rfl) (by kernel_rfl) (by kernel_rfl) (fun _ _ _ h => h) (Or.inl ⟨by rfl, by intro w hSw; go_simp⟩) (by assumption) ?_
    simp only [Act.put, List.setIfInBounds_toArray, List.set_cons_zero, List.set_cons_succ]
    refine wpAnyH_take (i := 9) (oi := { dst := some 79, op := Op.load 3 (Operand.tmp 78), type := 3, pos := "law.go:190", after := #[{ on := 8, ground := Ground.data }], guard := none }) (v := .int .i64 q.off) rfl (by kernel_rfl) (by kernel_rfl) (by kernel_rfl) (fun _ _ _ h => h) (Or.inl ⟨by rfl, by intro w hSw; have hcc := SS.off hSw; go_simp⟩) (by assumption) ?_
    simp only [Act.put, List.setIfInBounds_toArray, List.set_cons_zero, List.set_cons_succ]
    refine wpAnyH_take (i := 10) (oi := { dst := some 80, op := Op.fieldAddr 72 (Operand.tmp 3) 6, type := 0, pos := "law.go:190", after := #[], guard := none }) (v := .pointer (some ⟨g3, 8, none⟩)) rfl (by kernel_rfl) (by kernel_rfl) (by kernel_rfl) (fun _ _ _ h => h) (Or.inl ⟨by rfl, by intro w hSw; go_simp⟩) (by assumption) ?_
    simp only [Act.put, List.setIfInBounds_toArray, List.set_cons_zero, List.set_cons_succ]
    refine wpAnyH_take (i := 11) (oi := { dst := some 81, op := Op.load 32 (Operand.tmp 80), type := 32, pos := "law.go:190", after := #[{ on := 10, ground := Ground.data }], guard := none }) (v := .int .u32 q.v) rfl (by kernel_rfl) (by kernel_rfl) (by kernel_rfl) (fun _ _ _ h => h) (Or.inl ⟨by rfl, by intro w hSw; have hcc := SS.v hSw; go_simp⟩) (by assumption) ?_
    simp only [Act.put, List.setIfInBounds_toArray, List.set_cons_zero, List.set_cons_succ]
    refine wpAnyH_take (i := 14) (oi := { dst := some 84, op := Op.move (Operand.tmp 0), type := 62, pos := "law.go:190", after := #[], guard := none }) (v := .pointer (some ⟨gb, 0, none⟩)) rfl (by kernel_rfl) (by kernel_rfl) (by kernel_rfl) (fun _ _ _ h => h) (Or.inl ⟨by rfl, by intro w hSw; go_simp⟩) (by assumption) ?_
    simp only [Act.put, List.setIfInBounds_toArray, List.set_cons_zero, List.set_cons_succ]
    refine wpAnyH_take (i := 15) (oi := { dst := some 85, op := Op.move (Operand.tmp 5), type := 3, pos := "law.go:190", after := #[], guard := none }) (v := .int .i64 (i : Int)) rfl (by kernel_rfl) (by kernel_rfl) (by kernel_rfl) (fun _ _ _ h => h) (Or.inl ⟨by rfl, by intro w hSw; go_simp⟩) (by assumption) ?_
    simp only [Act.put, List.setIfInBounds_toArray, List.set_cons_zero, List.set_cons_succ]
    refine wpAnyH_take (i := 16) (oi := { dst := some 86, op := Op.nilCheck (Operand.tmp 84), type := 0, pos := "law.go:190", after := #[{ on := 14, ground := Ground.data }], guard := none }) (v := .pointer (some ⟨gb, 0, none⟩)) rfl (by kernel_rfl) (by kernel_rfl) (by kernel_rfl) (fun _ _ _ h => h) (Or.inl ⟨by rfl, by intro w hSw; go_simp⟩) (by assumption) ?_
    simp only [Act.put, List.setIfInBounds_toArray, List.set_cons_zero, List.set_cons_succ]
    refine wpAnyH_take (i := 17) (oi := { dst := some 87, op := Op.fieldAddr 68 (Operand.tmp 86) 1, type := 0, pos := "law.go:190", after := #[{ on := 16, ground := Ground.data }], guard := none }) (v := .pointer (some ⟨gb, 4, none⟩)) rfl (by kernel_rfl) (by kernel_rfl) (by kernel_rfl) (fun _ _ _ h => h) (Or.inl ⟨by rfl, by intro w hSw; go_simp⟩) (by assumption) ?_
    simp only [Act.put, List.setIfInBounds_toArray, List.set_cons_zero, List.set_cons_succ]
    refine wpAnyH_take (i := 18) (oi := { dst := some 88, op := Op.indexAddr 65 (Operand.tmp 87) (Operand.tmp 85), type := 0, pos := "law.go:190", after := #[{ on := 17, ground := Ground.data }, { on := 15, ground := Ground.data }], guard := none }) (v := .pointer (some ⟨gb, 4 + i, none⟩)) rfl (by kernel_rfl) (by kernel_rfl) (by kernel_rfl) (fun _ _ _ h => h) (Or.inl ⟨by rfl, by intro w hSw; go_simp⟩) (by assumption) ?_
    simp only [Act.put, List.setIfInBounds_toArray, List.set_cons_zero, List.set_cons_succ]
    refine wpAnyH_take (i := 19) (oi := { dst := some 89, op := Op.load 64 (Operand.tmp 88), type := 64, pos := "law.go:190", after := #[{ on := 18, ground := Ground.data }], guard := none }) (v := .pointer (some ⟨(r i).g, 0, none⟩)) rfl (by kernel_rfl) (by kernel_rfl) (by kernel_rfl) (fun _ _ _ h => h) (Or.inl ⟨by rfl, by intro w hSw; have hcc := SS.cr hSw i hi; go_simp⟩) (by assumption) ?_
    simp only [Act.put, List.setIfInBounds_toArray, List.set_cons_zero, List.set_cons_succ]
    refine wpAnyH_take (i := 20) (oi := { dst := some 90, op := Op.fieldAddr 72 (Operand.tmp 3) 3, type := 0, pos := "law.go:190", after := #[], guard := none }) (v := .pointer (some ⟨g3, 3, none⟩)) rfl (by kernel_rfl) (by kernel_rfl) (by kernel_rfl) (fun _ _ _ h => h) (Or.inl ⟨by rfl, by intro w hSw; go_simp⟩) (by assumption) ?_
    simp only [Act.put, List.setIfInBounds_toArray, List.set_cons_zero, List.set_cons_succ]
    refine wpAnyH_take (i := 21) (oi := { dst := some 91, op := Op.load 23 (Operand.tmp 90), type := 23, pos := "law.go:190", after := #[{ on := 20, ground := Ground.data }], guard := none }) (v := .agg #[.bool q.s, .int .i64 q.p]) rfl (by kernel_rfl) (by kernel_rfl) (by kernel_rfl) (fun _ _ _ h => h) (yieldsIf_load_mid (by rfl) _ _ rfl _ _ rfl _ _ (fun w hSw => (Cel.rangeF hSw.2)) under23 rfl size23) (by assumption) ?_
    simp only [Act.put, List.setIfInBounds_toArray, List.set_cons_zero, List.set_cons_succ]
    refine wpAnyH_take (i := 23) (oi := { dst := some 93, op := Op.fieldAddr 72 (Operand.tmp 3) 5, type := 0, pos := "law.go:190", after := #[], guard := none }) (v := .pointer (some ⟨g3, 7, none⟩)) rfl (by kernel_rfl) (by kernel_rfl) (by kernel_rfl) (fun _ _ _ h => h) (Or.inl ⟨by rfl, by intro w hSw; go_simp⟩) (by assumption) ?_
    simp only [Act.put, List.setIfInBounds_toArray, List.set_cons_zero, List.set_cons_succ]
    refine wpAnyH_take (i := 24) (oi := { dst := some 94, op := Op.load 3 (Operand.tmp 93), type := 3, pos := "law.go:190", after := #[{ on := 23, ground := Ground.data }], guard := none }) (v := .int .i64 q.off) rfl (by kernel_rfl) (by kernel_rfl) (by kernel_rfl) (fun _ _ _ h => h) (Or.inl ⟨by rfl, by intro w hSw; have hcc := SS.off hSw; go_simp⟩) (by assumption) ?_
    simp only [Act.put, List.setIfInBounds_toArray, List.set_cons_zero, List.set_cons_succ]
    refine wpAnyH_take (i := 25) (oi := { dst := some 95, op := Op.fieldAddr 72 (Operand.tmp 3) 6, type := 0, pos := "law.go:190", after := #[], guard := none }) (v := .pointer (some ⟨g3, 8, none⟩)) rfl (by kernel_rfl) (by kernel_rfl) (by kernel_rfl) (fun _ _ _ h => h) (Or.inl ⟨by rfl, by intro w hSw; go_simp⟩) (by assumption) ?_
    simp only [Act.put, List.setIfInBounds_toArray, List.set_cons_zero, List.set_cons_succ]
    refine wpAnyH_take (i := 26) (oi := { dst := some 96, op := Op.load 32 (Operand.tmp 95), type := 32, pos := "law.go:190", after := #[{ on := 25, ground := Ground.data }], guard := none }) (v := .int .u32 q.v) rfl (by kernel_rfl) (by kernel_rfl) (by kernel_rfl) (fun _ _ _ h => h) (Or.inl ⟨by rfl, by intro w hSw; have hcc := SS.v hSw; go_simp⟩) (by assumption) ?_
    simp only [Act.put, List.setIfInBounds_toArray, List.set_cons_zero, List.set_cons_succ]
    refine wpAnyH_ready (rs := [12]) (by kernel_rfl) (by simp) (AllReadyH.cons (o := { dst := some 82, op := Op.call { callee := Callee.value (Operand.func 9), args := #[Operand.tmp 75, Operand.tmp 77, Operand.tmp 79, Operand.tmp 81], argTypes := #[25, 23, 3, 32] }, type := 26, pos := "law.go:190", after := #[{ on := 5, ground := Ground.data }, { on := 7, ground := Ground.data }, { on := 9, ground := Ground.data }, { on := 11, ground := Ground.data }], guard := none }) rfl (fun KQ hK => ?_) AllReadyH.nil)
    go_simp
    refine (write_any _ (f i) (m i) (((HSB.out.on (Below.refl _ _).drew)).bn.mem i hi) q.s q.p q.off q.v).mono ?_
    rintro x wA ⟨rfl, hmA, hbA⟩
    have sbA := ((HSB.out.on (Below.refl _ _).drew)).fst i hi hbA hmA (len_write _ _ _ _ _)
    go_wp2_with fail
    refine hK.out _ _ sbA.s (fun hHeld => ?_)
    clear hK KQ
    try simp only [Act.put, List.setIfInBounds_toArray, List.set_cons_zero, List.set_cons_succ]
    refine wpAnyH_ready (rs := [13]) (by kernel_rfl) (by simp) (AllReadyH.cons (o := { dst := some 83, op := Op.call { callee := Callee.value (Operand.func 8), args := #[Operand.tmp 82], argTypes := #[26] }, type := 3, pos := "law.go:190", after := #[{ on := 12, ground := Ground.data }, { on := 12, ground := Ground.chain }], guard := none }) rfl (fun KQ hK => ?_) AllReadyH.nil)
    go_simp
    refine (num_any _ _).mono ?_
    rintro x wn ⟨rfl, rfl⟩
    go_wp2_with fail
    refine hK.out _ _ sbA.s (fun hHeld => ?_)
    clear hK KQ
    try simp only [Act.put, List.setIfInBounds_toArray, List.set_cons_zero, List.set_cons_succ]
    refine wpAnyH_ready (rs := [22]) (by kernel_rfl) (by simp) (AllReadyH.cons (o := { dst := some 92, op := Op.call { callee := Callee.value (Operand.func 42), args := #[Operand.tmp 91], argTypes := #[23] }, type := 95, pos := "law.go:190", after := #[{ on := 21, ground := Ground.data }, { on := 13, ground := Ground.chain }], guard := none }) rfl (fun KQ hK => ?_) AllReadyH.nil)
    go_simp
    refine (doc_any _ q.s q.p).mono ?_
    rintro x wB ⟨rfl, hbB⟩
    have sbB := (sbA).on hbB
    simp only [fr]
    go_wp2_with fail
    refine hK.out _ _ sbB.s (fun hHeld => ?_)
    clear hK KQ
    try simp only [Act.put, List.setIfInBounds_toArray, List.set_cons_zero, List.set_cons_succ]
    refine wpAnyH_ready (rs := [27]) (by kernel_rfl) (by simp) (AllReadyH.cons (o := { dst := some 97, op := Op.call { callee := Callee.value (Operand.func 43), args := #[Operand.tmp 89, Operand.tmp 92, Operand.tmp 94, Operand.tmp 96], argTypes := #[64, 95, 3, 32] }, type := 3, pos := "law.go:190", after := #[{ on := 19, ground := Ground.data }, { on := 22, ground := Ground.data }, { on := 24, ground := Ground.data }, { on := 26, ground := Ground.data }, { on := 22, ground := Ground.chain }], guard := none }) rfl (fun KQ hK => ?_) AllReadyH.nil)
    go_simp
    refine (rwrite_any _ (r i) (m i) ((sbB).bn.rmem i hi) q.s q.p q.off q.v).mono ?_
    rintro x wC ⟨rfl, rC, hrC⟩
    have sbC := (sbB).rst i hi hrC (len_write _ _ _ _ _)
    go_wp2_with fail
    refine hK.out _ _ sbC.s (fun hHeld => ?_)
    clear hK KQ
    try simp only [Act.put, List.setIfInBounds_toArray, List.set_cons_zero, List.set_cons_succ]
    refine wpAnyH_take (i := 28) (oi := { dst := some 98, op := Op.binOp BinOp.eql 3 (Operand.tmp 83) (Operand.tmp 97) 3, type := 4, pos := "law.go:190", after := #[{ on := 13, ground := Ground.data }, { on := 27, ground := Ground.data }], guard := none }) (v := .bool true) rfl (by kernel_rfl) (by kernel_rfl) (by kernel_rfl) (fun _ _ _ h => h) (Or.inl ⟨by rfl, by intro w hSw; go_simp⟩) (by assumption) ?_
    simp only [Act.put, List.setIfInBounds_toArray, List.set_cons_zero, List.set_cons_succ]
    refine wpAnyH_ready (rs := [29]) (by kernel_rfl) (by simp) (AllReadyH.cons (o := { dst := some 4, op := Op.assign (Operand.tmp 98), type := 4, pos := "law.go:190", after := #[{ on := 28, ground := Ground.data }, { on := 27, ground := Ground.chain }, { on := 0, ground := Ground.phase }, { on := 1, ground := Ground.phase }, { on := 2, ground := Ground.phase }, { on := 3, ground := Ground.phase }, { on := 4, ground := Ground.phase }, { on := 5, ground := Ground.phase }, { on := 6, ground := Ground.phase }, { on := 7, ground := Ground.phase }, { on := 8, ground := Ground.phase }, { on := 9, ground := Ground.phase }, { on := 10, ground := Ground.phase }, { on := 11, ground := Ground.phase }, { on := 12, ground := Ground.phase }, { on := 13, ground := Ground.phase }, { on := 14, ground := Ground.phase }, { on := 15, ground := Ground.phase }, { on := 16, ground := Ground.phase }, { on := 17, ground := Ground.phase }, { on := 18, ground := Ground.phase }, { on := 19, ground := Ground.phase }, { on := 20, ground := Ground.phase }, { on := 21, ground := Ground.phase }, { on := 22, ground := Ground.phase }, { on := 23, ground := Ground.phase }, { on := 24, ground := Ground.phase }, { on := 25, ground := Ground.phase }, { on := 26, ground := Ground.phase }, { on := 27, ground := Ground.phase }, { on := 28, ground := Ground.phase }], guard := none }) rfl (fun KQ hK => ?_) AllReadyH.nil)
    go_simp
    refine hK.out _ _ sbC.s (fun hHeld => ?_)
    clear hK KQ
    try simp only [Act.put, List.setIfInBounds_toArray, List.set_cons_zero, List.set_cons_succ]
    refine wpAnyH_done (by kernel_rfl) ?_ _
    clear hHeld
    have HFIN := hid sbC
    go_wp2_with fail
    go_ret
    exact ⟨by simp, _, _, _, _, lv, HFIN.out.bn, by omega, H4.out⟩
  by_cases k9 : q.k = 9
  · rw [k9] at y0
    go_wp2_with fail
    refine wp_region_held_drew (S := SS gb (benC f r vL) g3 q) (by kernel_rfl) (HSB.out.on (Below.refl _ _).drew).s (fun hHeld => ?_)
    refine wpAnyH_take (i := 0) (oi := { dst := some 111, op := Op.move (Operand.tmp 0), type := 62, pos := "law.go:194", after := #[], guard := none }) (v := .pointer (some ⟨gb, 0, none⟩)) rfl (by kernel_rfl) (by kernel_rfl) (by kernel_rfl) (fun _ _ _ h => h) (Or.inl ⟨by rfl, by intro w hSw; go_simp⟩) (by assumption) ?_
    simp only [Act.put, List.setIfInBounds_toArray, List.set_cons_zero, List.set_cons_succ]
    refine wpAnyH_take (i := 1) (oi := { dst := some 112, op := Op.move (Operand.tmp 5), type := 3, pos := "law.go:194", after := #[], guard := none }) (v := .int .i64 (i : Int)) rfl (by kernel_rfl) (by kernel_rfl) (by kernel_rfl) (fun _ _ _ h => h) (Or.inl ⟨by rfl, by intro w hSw; go_simp⟩) (by assumption) ?_
    simp only [Act.put, List.setIfInBounds_toArray, List.set_cons_zero, List.set_cons_succ]
    refine wpAnyH_take (i := 2) (oi := { dst := some 113, op := Op.nilCheck (Operand.tmp 111), type := 0, pos := "law.go:194", after := #[{ on := 0, ground := Ground.data }], guard := none }) (v := .pointer (some ⟨gb, 0, none⟩)) rfl (by kernel_rfl) (by kernel_rfl) (by kernel_rfl) (fun _ _ _ h => h) (Or.inl ⟨by rfl, by intro w hSw; go_simp⟩) (by assumption) ?_
    simp only [Act.put, List.setIfInBounds_toArray, List.set_cons_zero, List.set_cons_succ]
    refine wpAnyH_take (i := 3) (oi := { dst := some 114, op := Op.fieldAddr 68 (Operand.tmp 113) 0, type := 0, pos := "law.go:194", after := #[{ on := 2, ground := Ground.data }], guard := none }) (v := .pointer (some ⟨gb, 0, none⟩)) rfl (by kernel_rfl) (by kernel_rfl) (by kernel_rfl) (fun _ _ _ h => h) (Or.inl ⟨by rfl, by intro w hSw; go_simp⟩) (by assumption) ?_
    simp only [Act.put, List.setIfInBounds_toArray, List.set_cons_zero, List.set_cons_succ]
    refine wpAnyH_take (i := 4) (oi := { dst := some 115, op := Op.indexAddr 63 (Operand.tmp 114) (Operand.tmp 112), type := 0, pos := "law.go:194", after := #[{ on := 3, ground := Ground.data }, { on := 1, ground := Ground.data }], guard := none }) (v := .pointer (some ⟨gb, i, none⟩)) rfl (by kernel_rfl) (by kernel_rfl) (by kernel_rfl) (fun _ _ _ h => h) (Or.inl ⟨by rfl, by intro w hSw; go_simp⟩) (by assumption) ?_
    simp only [Act.put, List.setIfInBounds_toArray, List.set_cons_zero, List.set_cons_succ]
    refine wpAnyH_take (i := 5) (oi := { dst := some 116, op := Op.load 25 (Operand.tmp 115), type := 25, pos := "law.go:194", after := #[{ on := 4, ground := Ground.data }], guard := none }) (v := .pointer (some ⟨(f i).gm, 0, none⟩)) rfl (by kernel_rfl) (by kernel_rfl) (by kernel_rfl) (fun _ _ _ h => h) (Or.inl ⟨by rfl, by intro w hSw; have hcc := SS.cm hSw i hi; go_simp⟩) (by assumption) ?_
    simp only [Act.put, List.setIfInBounds_toArray, List.set_cons_zero, List.set_cons_succ]
    refine wpAnyH_take (i := 6) (oi := { dst := some 117, op := Op.fieldAddr 72 (Operand.tmp 3) 3, type := 0, pos := "law.go:194", after := #[], guard := none }) (v := .pointer (some ⟨g3, 3, none⟩)) rfl (by kernel_rfl) (by kernel_rfl) (by kernel_rfl) (fun _ _ _ h => h) (Or.inl ⟨by rfl, by intro w hSw; go_simp⟩) (by assumption) ?_
    simp only [Act.put, List.setIfInBounds_toArray, List.set_cons_zero, List.set_cons_succ]
    refine wpAnyH_take (i := 7) (oi := { dst := some 118, op := Op.load 23 (Operand.tmp 117), type := 23, pos := "law.go:194", after := #[{ on := 6, ground := Ground.data }], guard := none }) (v := .agg #[.bool q.s, .int .i64 q.p]) rfl (by kernel_rfl) (by kernel_rfl) (by kernel_rfl) (fun _ _ _ h => h) (yieldsIf_load_mid (by rfl) _ _ rfl _ _ rfl _ _ (fun w hSw => (Cel.rangeF hSw.2)) under23 rfl size23) (by assumption) ?_
    simp only [Act.put, List.setIfInBounds_toArray, List.set_cons_zero, List.set_cons_succ]
    refine wpAnyH_take (i := 8) (oi := { dst := some 119, op := Op.fieldAddr 72 (Operand.tmp 3) 5, type := 0, pos := "law.go:194", after := #[], guard := none }) (v := .pointer (some ⟨g3, 7, none⟩)) rfl (by kernel_rfl) (by kernel_rfl) (by kernel_rfl) (fun _ _ _ h => h) (Or.inl ⟨by rfl, by intro w hSw; go_simp⟩) (by assumption) ?_
    simp only [Act.put, List.setIfInBounds_toArray, List.set_cons_zero, List.set_cons_succ]
    refine wpAnyH_take (i := 9) (oi := { dst := some 120, op := Op.load 3 (Operand.tmp 119), type := 3, pos := "law.go:194", after := #[{ on := 8, ground := Ground.data }], guard := none }) (v := .int .i64 q.off) rfl (by kernel_rfl) (by kernel_rfl) (by kernel_rfl) (fun _ _ _ h => h) (Or.inl ⟨by rfl, by intro w hSw; have hcc := SS.off hSw; go_simp⟩) (by assumption) ?_
    simp only [Act.put, List.setIfInBounds_toArray, List.set_cons_zero, List.set_cons_succ]
    refine wpAnyH_take (i := 11) (oi := { dst := some 122, op := Op.move (Operand.tmp 0), type := 62, pos := "law.go:194", after := #[], guard := none }) (v := .pointer (some ⟨gb, 0, none⟩)) rfl (by kernel_rfl) (by kernel_rfl) (by kernel_rfl) (fun _ _ _ h => h) (Or.inl ⟨by rfl, by intro w hSw; go_simp⟩) (by assumption) ?_
    simp only [Act.put, List.setIfInBounds_toArray, List.set_cons_zero, List.set_cons_succ]
    refine wpAnyH_take (i := 12) (oi := { dst := some 123, op := Op.move (Operand.tmp 5), type := 3, pos := "law.go:194", after := #[], guard := none }) (v := .int .i64 (i : Int)) rfl (by kernel_rfl) (by kernel_rfl) (by kernel_rfl) (fun _ _ _ h => h) (Or.inl ⟨by rfl, by intro w hSw; go_simp⟩) (by assumption) ?_
    simp only [Act.put, List.setIfInBounds_toArray, List.set_cons_zero, List.set_cons_succ]
    refine wpAnyH_take (i := 13) (oi := { dst := some 124, op := Op.nilCheck (Operand.tmp 122), type := 0, pos := "law.go:194", after := #[{ on := 11, ground := Ground.data }], guard := none }) (v := .pointer (some ⟨gb, 0, none⟩)) rfl (by kernel_rfl) (by kernel_rfl) (by kernel_rfl) (fun _ _ _ h => h) (Or.inl ⟨by rfl, by intro w hSw; go_simp⟩) (by assumption) ?_
    simp only [Act.put, List.setIfInBounds_toArray, List.set_cons_zero, List.set_cons_succ]
    refine wpAnyH_take (i := 14) (oi := { dst := some 125, op := Op.fieldAddr 68 (Operand.tmp 124) 1, type := 0, pos := "law.go:194", after := #[{ on := 13, ground := Ground.data }], guard := none }) (v := .pointer (some ⟨gb, 4, none⟩)) rfl (by kernel_rfl) (by kernel_rfl) (by kernel_rfl) (fun _ _ _ h => h) (Or.inl ⟨by rfl, by intro w hSw; go_simp⟩) (by assumption) ?_
    simp only [Act.put, List.setIfInBounds_toArray, List.set_cons_zero, List.set_cons_succ]
    refine wpAnyH_take (i := 15) (oi := { dst := some 126, op := Op.indexAddr 65 (Operand.tmp 125) (Operand.tmp 123), type := 0, pos := "law.go:194", after := #[{ on := 14, ground := Ground.data }, { on := 12, ground := Ground.data }], guard := none }) (v := .pointer (some ⟨gb, 4 + i, none⟩)) rfl (by kernel_rfl) (by kernel_rfl) (by kernel_rfl) (fun _ _ _ h => h) (Or.inl ⟨by rfl, by intro w hSw; go_simp⟩) (by assumption) ?_
    simp only [Act.put, List.setIfInBounds_toArray, List.set_cons_zero, List.set_cons_succ]
    refine wpAnyH_take (i := 16) (oi := { dst := some 127, op := Op.load 64 (Operand.tmp 126), type := 64, pos := "law.go:194", after := #[{ on := 15, ground := Ground.data }], guard := none }) (v := .pointer (some ⟨(r i).g, 0, none⟩)) rfl (by kernel_rfl) (by kernel_rfl) (by kernel_rfl) (fun _ _ _ h => h) (Or.inl ⟨by rfl, by intro w hSw; have hcc := SS.cr hSw i hi; go_simp⟩) (by assumption) ?_
    simp only [Act.put, List.setIfInBounds_toArray, List.set_cons_zero, List.set_cons_succ]
    refine wpAnyH_take (i := 17) (oi := { dst := some 128, op := Op.fieldAddr 72 (Operand.tmp 3) 3, type := 0, pos := "law.go:194", after := #[], guard := none }) (v := .pointer (some ⟨g3, 3, none⟩)) rfl (by kernel_rfl) (by kernel_rfl) (by kernel_rfl) (fun _ _ _ h => h) (Or.inl ⟨by rfl, by intro w hSw; go_simp⟩) (by assumption) ?_
    simp only [Act.put, List.setIfInBounds_toArray, List.set_cons_zero, List.set_cons_succ]
    refine wpAnyH_take (i := 18) (oi := { dst := some 129, op := Op.load 23 (Operand.tmp 128), type := 23, pos := "law.go:194", after := #[{ on := 17, ground := Ground.data }], guard := none }) (v := .agg #[.bool q.s, .int .i64 q.p]) rfl (by kernel_rfl) (by kernel_rfl) (by kernel_rfl) (fun _ _ _ h => h) (yieldsIf_load_mid (by rfl) _ _ rfl _ _ rfl _ _ (fun w hSw => (Cel.rangeF hSw.2)) under23 rfl size23) (by assumption) ?_
    simp only [Act.put, List.setIfInBounds_toArray, List.set_cons_zero, List.set_cons_succ]
    refine wpAnyH_take (i := 20) (oi := { dst := some 131, op := Op.fieldAddr 72 (Operand.tmp 3) 5, type := 0, pos := "law.go:194", after := #[], guard := none }) (v := .pointer (some ⟨g3, 7, none⟩)) rfl (by kernel_rfl) (by kernel_rfl) (by kernel_rfl) (fun _ _ _ h => h) (Or.inl ⟨by rfl, by intro w hSw; go_simp⟩) (by assumption) ?_
    simp only [Act.put, List.setIfInBounds_toArray, List.set_cons_zero, List.set_cons_succ]
    refine wpAnyH_take (i := 21) (oi := { dst := some 132, op := Op.load 3 (Operand.tmp 131), type := 3, pos := "law.go:194", after := #[{ on := 20, ground := Ground.data }], guard := none }) (v := .int .i64 q.off) rfl (by kernel_rfl) (by kernel_rfl) (by kernel_rfl) (fun _ _ _ h => h) (Or.inl ⟨by rfl, by intro w hSw; have hcc := SS.off hSw; go_simp⟩) (by assumption) ?_
    simp only [Act.put, List.setIfInBounds_toArray, List.set_cons_zero, List.set_cons_succ]
    refine wpAnyH_ready (rs := [10]) (by kernel_rfl) (by simp) (AllReadyH.cons (o := { dst := some 121, op := Op.call { callee := Callee.value (Operand.func 18), args := #[Operand.tmp 116, Operand.tmp 118, Operand.tmp 120], argTypes := #[25, 23, 3] }, type := 32, pos := "law.go:194", after := #[{ on := 5, ground := Ground.data }, { on := 7, ground := Ground.data }, { on := 9, ground := Ground.data }], guard := none }) rfl (fun KQ hK => ?_) AllReadyH.nil)
    go_simp
    refine (peek_any _ (f i) (m i) (((HSB.out.on (Below.refl _ _).drew)).bn.mem i hi) q.s q.p q.off).mono ?_
    rintro x wA ⟨rfl, hbA⟩
    have sbA := ((HSB.out.on (Below.refl _ _).drew)).on hbA
    go_wp2_with fail
    refine hK.out _ _ sbA.s (fun hHeld => ?_)
    clear hK KQ
    try simp only [Act.put, List.setIfInBounds_toArray, List.set_cons_zero, List.set_cons_succ]
    refine wpAnyH_ready (rs := [19]) (by kernel_rfl) (by simp) (AllReadyH.cons (o := { dst := some 130, op := Op.call { callee := Callee.value (Operand.func 42), args := #[Operand.tmp 129], argTypes := #[23] }, type := 95, pos := "law.go:194", after := #[{ on := 18, ground := Ground.data }, { on := 10, ground := Ground.chain }], guard := none }) rfl (fun KQ hK => ?_) AllReadyH.nil)
    go_simp
    refine (doc_any _ q.s q.p).mono ?_
    rintro x wB ⟨rfl, hbB⟩
    have sbB := (sbA).on hbB
    simp only [fr]
    go_wp2_with fail
    refine hK.out _ _ sbB.s (fun hHeld => ?_)
    clear hK KQ
    try simp only [Act.put, List.setIfInBounds_toArray, List.set_cons_zero, List.set_cons_succ]
    refine wpAnyH_ready (rs := [22]) (by kernel_rfl) (by simp) (AllReadyH.cons (o := { dst := some 133, op := Op.call { callee := Callee.value (Operand.func 45), args := #[Operand.tmp 127, Operand.tmp 130, Operand.tmp 132], argTypes := #[64, 95, 3] }, type := 32, pos := "law.go:194", after := #[{ on := 16, ground := Ground.data }, { on := 19, ground := Ground.data }, { on := 21, ground := Ground.data }, { on := 19, ground := Ground.chain }], guard := none }) rfl (fun KQ hK => ?_) AllReadyH.nil)
    go_simp
    refine (rpeek_any _ (r i) (m i) ((sbB).bn.rmem i hi) q.s q.p q.off).mono ?_
    rintro x wC ⟨rfl, hbC⟩
    have sbC := (sbB).on hbC
    go_wp2_with fail
    refine hK.out _ _ sbC.s (fun hHeld => ?_)
    clear hK KQ
    try simp only [Act.put, List.setIfInBounds_toArray, List.set_cons_zero, List.set_cons_succ]
    refine wpAnyH_take (i := 23) (oi := { dst := some 134, op := Op.binOp BinOp.eql 32 (Operand.tmp 121) (Operand.tmp 133) 32, type := 4, pos := "law.go:194", after := #[{ on := 10, ground := Ground.data }, { on := 22, ground := Ground.data }], guard := none }) (v := .bool true) rfl (by kernel_rfl) (by kernel_rfl) (by kernel_rfl) (fun _ _ _ h => h) (Or.inl ⟨by rfl, by intro w hSw; go_simp⟩) (by assumption) ?_
    simp only [Act.put, List.setIfInBounds_toArray, List.set_cons_zero, List.set_cons_succ]
    refine wpAnyH_ready (rs := [24]) (by kernel_rfl) (by simp) (AllReadyH.cons (o := { dst := some 4, op := Op.assign (Operand.tmp 134), type := 4, pos := "law.go:194", after := #[{ on := 23, ground := Ground.data }, { on := 22, ground := Ground.chain }, { on := 0, ground := Ground.phase }, { on := 1, ground := Ground.phase }, { on := 2, ground := Ground.phase }, { on := 3, ground := Ground.phase }, { on := 4, ground := Ground.phase }, { on := 5, ground := Ground.phase }, { on := 6, ground := Ground.phase }, { on := 7, ground := Ground.phase }, { on := 8, ground := Ground.phase }, { on := 9, ground := Ground.phase }, { on := 10, ground := Ground.phase }, { on := 11, ground := Ground.phase }, { on := 12, ground := Ground.phase }, { on := 13, ground := Ground.phase }, { on := 14, ground := Ground.phase }, { on := 15, ground := Ground.phase }, { on := 16, ground := Ground.phase }, { on := 17, ground := Ground.phase }, { on := 18, ground := Ground.phase }, { on := 19, ground := Ground.phase }, { on := 20, ground := Ground.phase }, { on := 21, ground := Ground.phase }, { on := 22, ground := Ground.phase }, { on := 23, ground := Ground.phase }], guard := none }) rfl (fun KQ hK => ?_) AllReadyH.nil)
    go_simp
    refine hK.out _ _ sbC.s (fun hHeld => ?_)
    clear hK KQ
    try simp only [Act.put, List.setIfInBounds_toArray, List.set_cons_zero, List.set_cons_succ]
    refine wpAnyH_done (by kernel_rfl) ?_ _
    clear hHeld
    have HFIN := hid sbC
    go_wp2_with fail
    go_ret
    exact ⟨by simp, _, _, _, _, lv, HFIN.out.bn, by omega, H4.out⟩
  by_cases k11 : q.k = 11
  · rw [k11] at y0
    go_wp2_with fail
    refine wp_region_held_drew (S := SS gb (benC f r vL) g3 q) (by kernel_rfl) (HSB.out.on (Below.refl _ _).drew).s (fun hHeld => ?_)
    refine wpAnyH_take (i := 0) (oi := { dst := some 170, op := Op.move (Operand.tmp 0), type := 62, pos := "law.go:200", after := #[], guard := none }) (v := .pointer (some ⟨gb, 0, none⟩)) rfl (by kernel_rfl) (by kernel_rfl) (by kernel_rfl) (fun _ _ _ h => h) (Or.inl ⟨by rfl, by intro w hSw; go_simp⟩) (by assumption) ?_
    simp only [Act.put, List.setIfInBounds_toArray, List.set_cons_zero, List.set_cons_succ]
    refine wpAnyH_take (i := 1) (oi := { dst := some 171, op := Op.move (Operand.tmp 5), type := 3, pos := "law.go:200", after := #[], guard := none }) (v := .int .i64 (i : Int)) rfl (by kernel_rfl) (by kernel_rfl) (by kernel_rfl) (fun _ _ _ h => h) (Or.inl ⟨by rfl, by intro w hSw; go_simp⟩) (by assumption) ?_
    simp only [Act.put, List.setIfInBounds_toArray, List.set_cons_zero, List.set_cons_succ]
    refine wpAnyH_take (i := 2) (oi := { dst := some 172, op := Op.nilCheck (Operand.tmp 170), type := 0, pos := "law.go:200", after := #[{ on := 0, ground := Ground.data }], guard := none }) (v := .pointer (some ⟨gb, 0, none⟩)) rfl (by kernel_rfl) (by kernel_rfl) (by kernel_rfl) (fun _ _ _ h => h) (Or.inl ⟨by rfl, by intro w hSw; go_simp⟩) (by assumption) ?_
    simp only [Act.put, List.setIfInBounds_toArray, List.set_cons_zero, List.set_cons_succ]
    refine wpAnyH_take (i := 3) (oi := { dst := some 173, op := Op.fieldAddr 68 (Operand.tmp 172) 0, type := 0, pos := "law.go:200", after := #[{ on := 2, ground := Ground.data }], guard := none }) (v := .pointer (some ⟨gb, 0, none⟩)) rfl (by kernel_rfl) (by kernel_rfl) (by kernel_rfl) (fun _ _ _ h => h) (Or.inl ⟨by rfl, by intro w hSw; go_simp⟩) (by assumption) ?_
    simp only [Act.put, List.setIfInBounds_toArray, List.set_cons_zero, List.set_cons_succ]
    refine wpAnyH_take (i := 4) (oi := { dst := some 174, op := Op.indexAddr 63 (Operand.tmp 173) (Operand.tmp 171), type := 0, pos := "law.go:200", after := #[{ on := 3, ground := Ground.data }, { on := 1, ground := Ground.data }], guard := none }) (v := .pointer (some ⟨gb, i, none⟩)) rfl (by kernel_rfl) (by kernel_rfl) (by kernel_rfl) (fun _ _ _ h => h) (Or.inl ⟨by rfl, by intro w hSw; go_simp⟩) (by assumption) ?_
    simp only [Act.put, List.setIfInBounds_toArray, List.set_cons_zero, List.set_cons_succ]
    refine wpAnyH_take (i := 5) (oi := { dst := some 175, op := Op.load 25 (Operand.tmp 174), type := 25, pos := "law.go:200", after := #[{ on := 4, ground := Ground.data }], guard := none }) (v := .pointer (some ⟨(f i).gm, 0, none⟩)) rfl (by kernel_rfl) (by kernel_rfl) (by kernel_rfl) (fun _ _ _ h => h) (Or.inl ⟨by rfl, by intro w hSw; have hcc := SS.cm hSw i hi; go_simp⟩) (by assumption) ?_
    simp only [Act.put, List.setIfInBounds_toArray, List.set_cons_zero, List.set_cons_succ]
    refine wpAnyH_take (i := 6) (oi := { dst := some 176, op := Op.move (Operand.tmp 0), type := 62, pos := "law.go:200", after := #[], guard := none }) (v := .pointer (some ⟨gb, 0, none⟩)) rfl (by kernel_rfl) (by kernel_rfl) (by kernel_rfl) (fun _ _ _ h => h) (Or.inl ⟨by rfl, by intro w hSw; go_simp⟩) (by assumption) ?_
    simp only [Act.put, List.setIfInBounds_toArray, List.set_cons_zero, List.set_cons_succ]
    refine wpAnyH_take (i := 7) (oi := { dst := some 177, op := Op.move (Operand.tmp 6), type := 3, pos := "law.go:200", after := #[], guard := none }) (v := .int .i64 (j : Int)) rfl (by kernel_rfl) (by kernel_rfl) (by kernel_rfl) (fun _ _ _ h => h) (Or.inl ⟨by rfl, by intro w hSw; go_simp⟩) (by assumption) ?_
    simp only [Act.put, List.setIfInBounds_toArray, List.set_cons_zero, List.set_cons_succ]
    refine wpAnyH_take (i := 8) (oi := { dst := some 178, op := Op.nilCheck (Operand.tmp 176), type := 0, pos := "law.go:200", after := #[{ on := 6, ground := Ground.data }], guard := none }) (v := .pointer (some ⟨gb, 0, none⟩)) rfl (by kernel_rfl) (by kernel_rfl) (by kernel_rfl) (fun _ _ _ h => h) (Or.inl ⟨by rfl, by intro w hSw; go_simp⟩) (by assumption) ?_
    simp only [Act.put, List.setIfInBounds_toArray, List.set_cons_zero, List.set_cons_succ]
    refine wpAnyH_take (i := 9) (oi := { dst := some 179, op := Op.fieldAddr 68 (Operand.tmp 178) 0, type := 0, pos := "law.go:200", after := #[{ on := 8, ground := Ground.data }], guard := none }) (v := .pointer (some ⟨gb, 0, none⟩)) rfl (by kernel_rfl) (by kernel_rfl) (by kernel_rfl) (fun _ _ _ h => h) (Or.inl ⟨by rfl, by intro w hSw; go_simp⟩) (by assumption) ?_
    simp only [Act.put, List.setIfInBounds_toArray, List.set_cons_zero, List.set_cons_succ]
    refine wpAnyH_take (i := 10) (oi := { dst := some 180, op := Op.indexAddr 63 (Operand.tmp 179) (Operand.tmp 177), type := 0, pos := "law.go:200", after := #[{ on := 9, ground := Ground.data }, { on := 7, ground := Ground.data }], guard := none }) (v := .pointer (some ⟨gb, j, none⟩)) rfl (by kernel_rfl) (by kernel_rfl) (by kernel_rfl) (fun _ _ _ h => h) (Or.inl ⟨by rfl, by intro w hSw; go_simp⟩) (by assumption) ?_
    simp only [Act.put, List.setIfInBounds_toArray, List.set_cons_zero, List.set_cons_succ]
    refine wpAnyH_take (i := 11) (oi := { dst := some 181, op := Op.load 25 (Operand.tmp 180), type := 25, pos := "law.go:200", after := #[{ on := 10, ground := Ground.data }], guard := none }) (v := .pointer (some ⟨(f j).gm, 0, none⟩)) rfl (by kernel_rfl) (by kernel_rfl) (by kernel_rfl) (fun _ _ _ h => h) (Or.inl ⟨by rfl, by intro w hSw; have hcc := SS.cm hSw j hj; go_simp⟩) (by assumption) ?_
    simp only [Act.put, List.setIfInBounds_toArray, List.set_cons_zero, List.set_cons_succ]
    refine wpAnyH_take (i := 13) (oi := { dst := some 183, op := Op.move (Operand.tmp 0), type := 62, pos := "law.go:200", after := #[], guard := none }) (v := .pointer (some ⟨gb, 0, none⟩)) rfl (by kernel_rfl) (by kernel_rfl) (by kernel_rfl) (fun _ _ _ h => h) (Or.inl ⟨by rfl, by intro w hSw; go_simp⟩) (by assumption) ?_
    simp only [Act.put, List.setIfInBounds_toArray, List.set_cons_zero, List.set_cons_succ]
    refine wpAnyH_take (i := 14) (oi := { dst := some 184, op := Op.move (Operand.tmp 5), type := 3, pos := "law.go:200", after := #[], guard := none }) (v := .int .i64 (i : Int)) rfl (by kernel_rfl) (by kernel_rfl) (by kernel_rfl) (fun _ _ _ h => h) (Or.inl ⟨by rfl, by intro w hSw; go_simp⟩) (by assumption) ?_
    simp only [Act.put, List.setIfInBounds_toArray, List.set_cons_zero, List.set_cons_succ]
    refine wpAnyH_take (i := 15) (oi := { dst := some 185, op := Op.nilCheck (Operand.tmp 183), type := 0, pos := "law.go:200", after := #[{ on := 13, ground := Ground.data }], guard := none }) (v := .pointer (some ⟨gb, 0, none⟩)) rfl (by kernel_rfl) (by kernel_rfl) (by kernel_rfl) (fun _ _ _ h => h) (Or.inl ⟨by rfl, by intro w hSw; go_simp⟩) (by assumption) ?_
    simp only [Act.put, List.setIfInBounds_toArray, List.set_cons_zero, List.set_cons_succ]
    refine wpAnyH_take (i := 16) (oi := { dst := some 186, op := Op.fieldAddr 68 (Operand.tmp 185) 1, type := 0, pos := "law.go:200", after := #[{ on := 15, ground := Ground.data }], guard := none }) (v := .pointer (some ⟨gb, 4, none⟩)) rfl (by kernel_rfl) (by kernel_rfl) (by kernel_rfl) (fun _ _ _ h => h) (Or.inl ⟨by rfl, by intro w hSw; go_simp⟩) (by assumption) ?_
    simp only [Act.put, List.setIfInBounds_toArray, List.set_cons_zero, List.set_cons_succ]
    refine wpAnyH_take (i := 17) (oi := { dst := some 187, op := Op.indexAddr 65 (Operand.tmp 186) (Operand.tmp 184), type := 0, pos := "law.go:200", after := #[{ on := 16, ground := Ground.data }, { on := 14, ground := Ground.data }], guard := none }) (v := .pointer (some ⟨gb, 4 + i, none⟩)) rfl (by kernel_rfl) (by kernel_rfl) (by kernel_rfl) (fun _ _ _ h => h) (Or.inl ⟨by rfl, by intro w hSw; go_simp⟩) (by assumption) ?_
    simp only [Act.put, List.setIfInBounds_toArray, List.set_cons_zero, List.set_cons_succ]
    refine wpAnyH_take (i := 18) (oi := { dst := some 188, op := Op.load 64 (Operand.tmp 187), type := 64, pos := "law.go:200", after := #[{ on := 17, ground := Ground.data }], guard := none }) (v := .pointer (some ⟨(r i).g, 0, none⟩)) rfl (by kernel_rfl) (by kernel_rfl) (by kernel_rfl) (fun _ _ _ h => h) (Or.inl ⟨by rfl, by intro w hSw; have hcc := SS.cr hSw i hi; go_simp⟩) (by assumption) ?_
    simp only [Act.put, List.setIfInBounds_toArray, List.set_cons_zero, List.set_cons_succ]
    refine wpAnyH_take (i := 19) (oi := { dst := some 189, op := Op.move (Operand.tmp 0), type := 62, pos := "law.go:200", after := #[], guard := none }) (v := .pointer (some ⟨gb, 0, none⟩)) rfl (by kernel_rfl) (by kernel_rfl) (by kernel_rfl) (fun _ _ _ h => h) (Or.inl ⟨by rfl, by intro w hSw; go_simp⟩) (by assumption) ?_
    simp only [Act.put, List.setIfInBounds_toArray, List.set_cons_zero, List.set_cons_succ]
    refine wpAnyH_take (i := 20) (oi := { dst := some 190, op := Op.move (Operand.tmp 6), type := 3, pos := "law.go:200", after := #[], guard := none }) (v := .int .i64 (j : Int)) rfl (by kernel_rfl) (by kernel_rfl) (by kernel_rfl) (fun _ _ _ h => h) (Or.inl ⟨by rfl, by intro w hSw; go_simp⟩) (by assumption) ?_
    simp only [Act.put, List.setIfInBounds_toArray, List.set_cons_zero, List.set_cons_succ]
    refine wpAnyH_take (i := 21) (oi := { dst := some 191, op := Op.nilCheck (Operand.tmp 189), type := 0, pos := "law.go:200", after := #[{ on := 19, ground := Ground.data }], guard := none }) (v := .pointer (some ⟨gb, 0, none⟩)) rfl (by kernel_rfl) (by kernel_rfl) (by kernel_rfl) (fun _ _ _ h => h) (Or.inl ⟨by rfl, by intro w hSw; go_simp⟩) (by assumption) ?_
    simp only [Act.put, List.setIfInBounds_toArray, List.set_cons_zero, List.set_cons_succ]
    refine wpAnyH_take (i := 22) (oi := { dst := some 192, op := Op.fieldAddr 68 (Operand.tmp 191) 1, type := 0, pos := "law.go:200", after := #[{ on := 21, ground := Ground.data }], guard := none }) (v := .pointer (some ⟨gb, 4, none⟩)) rfl (by kernel_rfl) (by kernel_rfl) (by kernel_rfl) (fun _ _ _ h => h) (Or.inl ⟨by rfl, by intro w hSw; go_simp⟩) (by assumption) ?_
    simp only [Act.put, List.setIfInBounds_toArray, List.set_cons_zero, List.set_cons_succ]
    refine wpAnyH_take (i := 23) (oi := { dst := some 193, op := Op.indexAddr 65 (Operand.tmp 192) (Operand.tmp 190), type := 0, pos := "law.go:200", after := #[{ on := 22, ground := Ground.data }, { on := 20, ground := Ground.data }], guard := none }) (v := .pointer (some ⟨gb, 4 + j, none⟩)) rfl (by kernel_rfl) (by kernel_rfl) (by kernel_rfl) (fun _ _ _ h => h) (Or.inl ⟨by rfl, by intro w hSw; go_simp⟩) (by assumption) ?_
    simp only [Act.put, List.setIfInBounds_toArray, List.set_cons_zero, List.set_cons_succ]
    refine wpAnyH_take (i := 24) (oi := { dst := some 194, op := Op.load 64 (Operand.tmp 193), type := 64, pos := "law.go:200", after := #[{ on := 23, ground := Ground.data }], guard := none }) (v := .pointer (some ⟨(r j).g, 0, none⟩)) rfl (by kernel_rfl) (by kernel_rfl) (by kernel_rfl) (fun _ _ _ h => h) (Or.inl ⟨by rfl, by intro w hSw; have hcc := SS.cr hSw j hj; go_simp⟩) (by assumption) ?_
    simp only [Act.put, List.setIfInBounds_toArray, List.set_cons_zero, List.set_cons_succ]
    refine wpAnyH_ready (rs := [12]) (by kernel_rfl) (by simp) (AllReadyH.cons (o := { dst := some 182, op := Op.call { callee := Callee.value (Operand.func 26), args := #[Operand.tmp 175, Operand.tmp 181], argTypes := #[25, 25] }, type := 4, pos := "law.go:200", after := #[{ on := 5, ground := Ground.data }, { on := 11, ground := Ground.data }], guard := none }) rfl (fun KQ hK => ?_) AllReadyH.nil)
    go_simp
    refine (same_any _ (f i) (m i) (((HSB.out.on (Below.refl _ _).drew)).bn.mem i hi) (f j) (m j) (((HSB.out.on (Below.refl _ _).drew)).bn.mem j hj)).mono ?_
    rintro x wA ⟨rfl, hbA⟩
    have sbA := ((HSB.out.on (Below.refl _ _).drew)).on hbA
    go_wp2_with fail
    refine hK.out _ _ sbA.s (fun hHeld => ?_)
    clear hK KQ
    try simp only [Act.put, List.setIfInBounds_toArray, List.set_cons_zero, List.set_cons_succ]
    refine wpAnyH_ready (rs := [25]) (by kernel_rfl) (by simp) (AllReadyH.cons (o := { dst := some 195, op := Op.call { callee := Callee.value (Operand.func 47), args := #[Operand.tmp 188, Operand.tmp 194], argTypes := #[64, 64] }, type := 4, pos := "law.go:200", after := #[{ on := 18, ground := Ground.data }, { on := 24, ground := Ground.data }, { on := 12, ground := Ground.chain }], guard := none }) rfl (fun KQ hK => ?_) AllReadyH.nil)
    go_simp
    refine (rsame_any _ (r i) (m i) ((sbA).bn.rmem i hi) (r j) (m j) ((sbA).bn.rmem j hj)).mono ?_
    rintro x wB ⟨rfl, hbB⟩
    have sbB := (sbA).on hbB
    go_wp2_with fail
    refine hK.out _ _ sbB.s (fun hHeld => ?_)
    clear hK KQ
    try simp only [Act.put, List.setIfInBounds_toArray, List.set_cons_zero, List.set_cons_succ]
    refine wpAnyH_take (i := 26) (oi := { dst := some 196, op := Op.binOp BinOp.eql 4 (Operand.tmp 182) (Operand.tmp 195) 4, type := 4, pos := "law.go:200", after := #[{ on := 12, ground := Ground.data }, { on := 25, ground := Ground.data }], guard := none }) (v := .bool true) rfl (by kernel_rfl) (by kernel_rfl) (by kernel_rfl) (fun _ _ _ h => h) (Or.inl ⟨by rfl, by intro w hSw; go_simp⟩) (by assumption) ?_
    simp only [Act.put, List.setIfInBounds_toArray, List.set_cons_zero, List.set_cons_succ]
    refine wpAnyH_take (i := 27) (oi := { dst := some 197, op := Op.move (Operand.tmp 196), type := 4, pos := "law.go:200", after := #[{ on := 26, ground := Ground.data }, { on := 25, ground := Ground.chain }], guard := none }) (v := .bool true) rfl (by kernel_rfl) (by kernel_rfl) (by kernel_rfl) (fun _ _ _ h => h) (Or.inl ⟨by rfl, by intro w hSw; go_simp⟩) (by assumption) ?_
    simp only [Act.put, List.setIfInBounds_toArray, List.set_cons_zero, List.set_cons_succ]
    refine wpAnyH_take (i := 28) (oi := { dst := some 198, op := Op.move (Operand.tmp 0), type := 62, pos := "law.go:200", after := #[{ on := 27, ground := Ground.guard }], guard := some (27, true) }) (v := .pointer (some ⟨gb, 0, none⟩)) rfl (by kernel_rfl) (by kernel_rfl) (by kernel_rfl) (fun _ _ _ h => h) (Or.inl ⟨by rfl, by intro w hSw; go_simp⟩) (by assumption) ?_
    simp only [Act.put, List.setIfInBounds_toArray, List.set_cons_zero, List.set_cons_succ]
    refine wpAnyH_take (i := 29) (oi := { dst := some 199, op := Op.move (Operand.tmp 6), type := 3, pos := "law.go:200", after := #[{ on := 27, ground := Ground.guard }], guard := some (27, true) }) (v := .int .i64 (j : Int)) rfl (by kernel_rfl) (by kernel_rfl) (by kernel_rfl) (fun _ _ _ h => h) (Or.inl ⟨by rfl, by intro w hSw; go_simp⟩) (by assumption) ?_
    simp only [Act.put, List.setIfInBounds_toArray, List.set_cons_zero, List.set_cons_succ]
    refine wpAnyH_take (i := 30) (oi := { dst := some 200, op := Op.nilCheck (Operand.tmp 198), type := 0, pos := "law.go:200", after := #[{ on := 28, ground := Ground.data }, { on := 27, ground := Ground.guard }], guard := some (27, true) }) (v := .pointer (some ⟨gb, 0, none⟩)) rfl (by kernel_rfl) (by kernel_rfl) (by kernel_rfl) (fun _ _ _ h => h) (Or.inl ⟨by rfl, by intro w hSw; go_simp⟩) (by assumption) ?_
    simp only [Act.put, List.setIfInBounds_toArray, List.set_cons_zero, List.set_cons_succ]
    refine wpAnyH_take (i := 31) (oi := { dst := some 201, op := Op.fieldAddr 68 (Operand.tmp 200) 0, type := 0, pos := "law.go:200", after := #[{ on := 30, ground := Ground.data }, { on := 27, ground := Ground.guard }], guard := some (27, true) }) (v := .pointer (some ⟨gb, 0, none⟩)) rfl (by kernel_rfl) (by kernel_rfl) (by kernel_rfl) (fun _ _ _ h => h) (Or.inl ⟨by rfl, by intro w hSw; go_simp⟩) (by assumption) ?_
    simp only [Act.put, List.setIfInBounds_toArray, List.set_cons_zero, List.set_cons_succ]
    refine wpAnyH_take (i := 32) (oi := { dst := some 202, op := Op.indexAddr 63 (Operand.tmp 201) (Operand.tmp 199), type := 0, pos := "law.go:200", after := #[{ on := 31, ground := Ground.data }, { on := 29, ground := Ground.data }, { on := 27, ground := Ground.guard }], guard := some (27, true) }) (v := .pointer (some ⟨gb, j, none⟩)) rfl (by kernel_rfl) (by kernel_rfl) (by kernel_rfl) (fun _ _ _ h => h) (Or.inl ⟨by rfl, by intro w hSw; go_simp⟩) (by assumption) ?_
    simp only [Act.put, List.setIfInBounds_toArray, List.set_cons_zero, List.set_cons_succ]
    refine wpAnyH_take (i := 33) (oi := { dst := some 203, op := Op.load 25 (Operand.tmp 202), type := 25, pos := "law.go:200", after := #[{ on := 32, ground := Ground.data }, { on := 27, ground := Ground.guard }], guard := some (27, true) }) (v := .pointer (some ⟨(f j).gm, 0, none⟩)) rfl (by kernel_rfl) (by kernel_rfl) (by kernel_rfl) (fun _ _ _ h => h) (Or.inl ⟨by rfl, by intro w hSw; have hcc := SS.cm hSw j hj; go_simp⟩) (by assumption) ?_
    simp only [Act.put, List.setIfInBounds_toArray, List.set_cons_zero, List.set_cons_succ]
    refine wpAnyH_take (i := 34) (oi := { dst := some 204, op := Op.move (Operand.tmp 0), type := 62, pos := "law.go:200", after := #[{ on := 27, ground := Ground.guard }], guard := some (27, true) }) (v := .pointer (some ⟨gb, 0, none⟩)) rfl (by kernel_rfl) (by kernel_rfl) (by kernel_rfl) (fun _ _ _ h => h) (Or.inl ⟨by rfl, by intro w hSw; go_simp⟩) (by assumption) ?_
    simp only [Act.put, List.setIfInBounds_toArray, List.set_cons_zero, List.set_cons_succ]
    refine wpAnyH_take (i := 35) (oi := { dst := some 205, op := Op.move (Operand.tmp 5), type := 3, pos := "law.go:200", after := #[{ on := 27, ground := Ground.guard }], guard := some (27, true) }) (v := .int .i64 (i : Int)) rfl (by kernel_rfl) (by kernel_rfl) (by kernel_rfl) (fun _ _ _ h => h) (Or.inl ⟨by rfl, by intro w hSw; go_simp⟩) (by assumption) ?_
    simp only [Act.put, List.setIfInBounds_toArray, List.set_cons_zero, List.set_cons_succ]
    refine wpAnyH_take (i := 36) (oi := { dst := some 206, op := Op.nilCheck (Operand.tmp 204), type := 0, pos := "law.go:200", after := #[{ on := 34, ground := Ground.data }, { on := 27, ground := Ground.guard }], guard := some (27, true) }) (v := .pointer (some ⟨gb, 0, none⟩)) rfl (by kernel_rfl) (by kernel_rfl) (by kernel_rfl) (fun _ _ _ h => h) (Or.inl ⟨by rfl, by intro w hSw; go_simp⟩) (by assumption) ?_
    simp only [Act.put, List.setIfInBounds_toArray, List.set_cons_zero, List.set_cons_succ]
    refine wpAnyH_take (i := 37) (oi := { dst := some 207, op := Op.fieldAddr 68 (Operand.tmp 206) 0, type := 0, pos := "law.go:200", after := #[{ on := 36, ground := Ground.data }, { on := 27, ground := Ground.guard }], guard := some (27, true) }) (v := .pointer (some ⟨gb, 0, none⟩)) rfl (by kernel_rfl) (by kernel_rfl) (by kernel_rfl) (fun _ _ _ h => h) (Or.inl ⟨by rfl, by intro w hSw; go_simp⟩) (by assumption) ?_
    simp only [Act.put, List.setIfInBounds_toArray, List.set_cons_zero, List.set_cons_succ]
    refine wpAnyH_take (i := 38) (oi := { dst := some 208, op := Op.indexAddr 63 (Operand.tmp 207) (Operand.tmp 205), type := 0, pos := "law.go:200", after := #[{ on := 37, ground := Ground.data }, { on := 35, ground := Ground.data }, { on := 27, ground := Ground.guard }], guard := some (27, true) }) (v := .pointer (some ⟨gb, i, none⟩)) rfl (by kernel_rfl) (by kernel_rfl) (by kernel_rfl) (fun _ _ _ h => h) (Or.inl ⟨by rfl, by intro w hSw; go_simp⟩) (by assumption) ?_
    simp only [Act.put, List.setIfInBounds_toArray, List.set_cons_zero, List.set_cons_succ]
    refine wpAnyH_take (i := 39) (oi := { dst := some 209, op := Op.load 25 (Operand.tmp 208), type := 25, pos := "law.go:200", after := #[{ on := 38, ground := Ground.data }, { on := 27, ground := Ground.guard }], guard := some (27, true) }) (v := .pointer (some ⟨(f i).gm, 0, none⟩)) rfl (by kernel_rfl) (by kernel_rfl) (by kernel_rfl) (fun _ _ _ h => h) (Or.inl ⟨by rfl, by intro w hSw; have hcc := SS.cm hSw i hi; go_simp⟩) (by assumption) ?_
    simp only [Act.put, List.setIfInBounds_toArray, List.set_cons_zero, List.set_cons_succ]
    refine wpAnyH_take (i := 41) (oi := { dst := some 211, op := Op.move (Operand.tmp 0), type := 62, pos := "law.go:200", after := #[{ on := 27, ground := Ground.guard }], guard := some (27, true) }) (v := .pointer (some ⟨gb, 0, none⟩)) rfl (by kernel_rfl) (by kernel_rfl) (by kernel_rfl) (fun _ _ _ h => h) (Or.inl ⟨by rfl, by intro w hSw; go_simp⟩) (by assumption) ?_
    simp only [Act.put, List.setIfInBounds_toArray, List.set_cons_zero, List.set_cons_succ]
    refine wpAnyH_take (i := 42) (oi := { dst := some 212, op := Op.move (Operand.tmp 6), type := 3, pos := "law.go:200", after := #[{ on := 27, ground := Ground.guard }], guard := some (27, true) }) (v := .int .i64 (j : Int)) rfl (by kernel_rfl) (by kernel_rfl) (by kernel_rfl) (fun _ _ _ h => h) (Or.inl ⟨by rfl, by intro w hSw; go_simp⟩) (by assumption) ?_
    simp only [Act.put, List.setIfInBounds_toArray, List.set_cons_zero, List.set_cons_succ]
    refine wpAnyH_take (i := 43) (oi := { dst := some 213, op := Op.nilCheck (Operand.tmp 211), type := 0, pos := "law.go:200", after := #[{ on := 41, ground := Ground.data }, { on := 27, ground := Ground.guard }], guard := some (27, true) }) (v := .pointer (some ⟨gb, 0, none⟩)) rfl (by kernel_rfl) (by kernel_rfl) (by kernel_rfl) (fun _ _ _ h => h) (Or.inl ⟨by rfl, by intro w hSw; go_simp⟩) (by assumption) ?_
    simp only [Act.put, List.setIfInBounds_toArray, List.set_cons_zero, List.set_cons_succ]
    refine wpAnyH_take (i := 44) (oi := { dst := some 214, op := Op.fieldAddr 68 (Operand.tmp 213) 1, type := 0, pos := "law.go:200", after := #[{ on := 43, ground := Ground.data }, { on := 27, ground := Ground.guard }], guard := some (27, true) }) (v := .pointer (some ⟨gb, 4, none⟩)) rfl (by kernel_rfl) (by kernel_rfl) (by kernel_rfl) (fun _ _ _ h => h) (Or.inl ⟨by rfl, by intro w hSw; go_simp⟩) (by assumption) ?_
    simp only [Act.put, List.setIfInBounds_toArray, List.set_cons_zero, List.set_cons_succ]
    refine wpAnyH_take (i := 45) (oi := { dst := some 215, op := Op.indexAddr 65 (Operand.tmp 214) (Operand.tmp 212), type := 0, pos := "law.go:200", after := #[{ on := 44, ground := Ground.data }, { on := 42, ground := Ground.data }, { on := 27, ground := Ground.guard }], guard := some (27, true) }) (v := .pointer (some ⟨gb, 4 + j, none⟩)) rfl (by kernel_rfl) (by kernel_rfl) (by kernel_rfl) (fun _ _ _ h => h) (Or.inl ⟨by rfl, by intro w hSw; go_simp⟩) (by assumption) ?_
    simp only [Act.put, List.setIfInBounds_toArray, List.set_cons_zero, List.set_cons_succ]
    refine wpAnyH_take (i := 46) (oi := { dst := some 216, op := Op.load 64 (Operand.tmp 215), type := 64, pos := "law.go:200", after := #[{ on := 45, ground := Ground.data }, { on := 27, ground := Ground.guard }], guard := some (27, true) }) (v := .pointer (some ⟨(r j).g, 0, none⟩)) rfl (by kernel_rfl) (by kernel_rfl) (by kernel_rfl) (fun _ _ _ h => h) (Or.inl ⟨by rfl, by intro w hSw; have hcc := SS.cr hSw j hj; go_simp⟩) (by assumption) ?_
    simp only [Act.put, List.setIfInBounds_toArray, List.set_cons_zero, List.set_cons_succ]
    refine wpAnyH_take (i := 47) (oi := { dst := some 217, op := Op.move (Operand.tmp 0), type := 62, pos := "law.go:200", after := #[{ on := 27, ground := Ground.guard }], guard := some (27, true) }) (v := .pointer (some ⟨gb, 0, none⟩)) rfl (by kernel_rfl) (by kernel_rfl) (by kernel_rfl) (fun _ _ _ h => h) (Or.inl ⟨by rfl, by intro w hSw; go_simp⟩) (by assumption) ?_
    simp only [Act.put, List.setIfInBounds_toArray, List.set_cons_zero, List.set_cons_succ]
    refine wpAnyH_take (i := 48) (oi := { dst := some 218, op := Op.move (Operand.tmp 5), type := 3, pos := "law.go:200", after := #[{ on := 27, ground := Ground.guard }], guard := some (27, true) }) (v := .int .i64 (i : Int)) rfl (by kernel_rfl) (by kernel_rfl) (by kernel_rfl) (fun _ _ _ h => h) (Or.inl ⟨by rfl, by intro w hSw; go_simp⟩) (by assumption) ?_
    simp only [Act.put, List.setIfInBounds_toArray, List.set_cons_zero, List.set_cons_succ]
    refine wpAnyH_take (i := 49) (oi := { dst := some 219, op := Op.nilCheck (Operand.tmp 217), type := 0, pos := "law.go:200", after := #[{ on := 47, ground := Ground.data }, { on := 27, ground := Ground.guard }], guard := some (27, true) }) (v := .pointer (some ⟨gb, 0, none⟩)) rfl (by kernel_rfl) (by kernel_rfl) (by kernel_rfl) (fun _ _ _ h => h) (Or.inl ⟨by rfl, by intro w hSw; go_simp⟩) (by assumption) ?_
    simp only [Act.put, List.setIfInBounds_toArray, List.set_cons_zero, List.set_cons_succ]
    refine wpAnyH_take (i := 50) (oi := { dst := some 220, op := Op.fieldAddr 68 (Operand.tmp 219) 1, type := 0, pos := "law.go:200", after := #[{ on := 49, ground := Ground.data }, { on := 27, ground := Ground.guard }], guard := some (27, true) }) (v := .pointer (some ⟨gb, 4, none⟩)) rfl (by kernel_rfl) (by kernel_rfl) (by kernel_rfl) (fun _ _ _ h => h) (Or.inl ⟨by rfl, by intro w hSw; go_simp⟩) (by assumption) ?_
    simp only [Act.put, List.setIfInBounds_toArray, List.set_cons_zero, List.set_cons_succ]
    refine wpAnyH_take (i := 51) (oi := { dst := some 221, op := Op.indexAddr 65 (Operand.tmp 220) (Operand.tmp 218), type := 0, pos := "law.go:200", after := #[{ on := 50, ground := Ground.data }, { on := 48, ground := Ground.data }, { on := 27, ground := Ground.guard }], guard := some (27, true) }) (v := .pointer (some ⟨gb, 4 + i, none⟩)) rfl (by kernel_rfl) (by kernel_rfl) (by kernel_rfl) (fun _ _ _ h => h) (Or.inl ⟨by rfl, by intro w hSw; go_simp⟩) (by assumption) ?_
    simp only [Act.put, List.setIfInBounds_toArray, List.set_cons_zero, List.set_cons_succ]
    refine wpAnyH_take (i := 52) (oi := { dst := some 222, op := Op.load 64 (Operand.tmp 221), type := 64, pos := "law.go:200", after := #[{ on := 51, ground := Ground.data }, { on := 27, ground := Ground.guard }], guard := some (27, true) }) (v := .pointer (some ⟨(r i).g, 0, none⟩)) rfl (by kernel_rfl) (by kernel_rfl) (by kernel_rfl) (fun _ _ _ h => h) (Or.inl ⟨by rfl, by intro w hSw; have hcc := SS.cr hSw i hi; go_simp⟩) (by assumption) ?_
    simp only [Act.put, List.setIfInBounds_toArray, List.set_cons_zero, List.set_cons_succ]
    refine wpAnyH_ready (rs := [40]) (by kernel_rfl) (by simp) (AllReadyH.cons (o := { dst := some 210, op := Op.call { callee := Callee.value (Operand.func 26), args := #[Operand.tmp 203, Operand.tmp 209], argTypes := #[25, 25] }, type := 4, pos := "law.go:200", after := #[{ on := 33, ground := Ground.data }, { on := 39, ground := Ground.data }, { on := 27, ground := Ground.chain }, { on := 27, ground := Ground.guard }], guard := some (27, true) }) rfl (fun KQ hK => ?_) AllReadyH.nil)
    go_simp
    refine (same_any _ (f j) (m j) ((sbB).bn.mem j hj) (f i) (m i) ((sbB).bn.mem i hi)).mono ?_
    rintro x wC ⟨rfl, hbC⟩
    have sbC := (sbB).on hbC
    go_wp2_with fail
    refine hK.out _ _ sbC.s (fun hHeld => ?_)
    clear hK KQ
    try simp only [Act.put, List.setIfInBounds_toArray, List.set_cons_zero, List.set_cons_succ]
    refine wpAnyH_ready (rs := [53]) (by kernel_rfl) (by simp) (AllReadyH.cons (o := { dst := some 223, op := Op.call { callee := Callee.value (Operand.func 47), args := #[Operand.tmp 216, Operand.tmp 222], argTypes := #[64, 64] }, type := 4, pos := "law.go:200", after := #[{ on := 46, ground := Ground.data }, { on := 52, ground := Ground.data }, { on := 40, ground := Ground.chain }, { on := 27, ground := Ground.guard }], guard := some (27, true) }) rfl (fun KQ hK => ?_) AllReadyH.nil)
    go_simp
    refine (rsame_any _ (r j) (m j) ((sbC).bn.rmem j hj) (r i) (m i) ((sbC).bn.rmem i hi)).mono ?_
    rintro x wD ⟨rfl, hbD⟩
    have sbD := (sbC).on hbD
    go_wp2_with fail
    refine hK.out _ _ sbD.s (fun hHeld => ?_)
    clear hK KQ
    try simp only [Act.put, List.setIfInBounds_toArray, List.set_cons_zero, List.set_cons_succ]
    refine wpAnyH_take (i := 54) (oi := { dst := some 224, op := Op.binOp BinOp.eql 4 (Operand.tmp 210) (Operand.tmp 223) 4, type := 4, pos := "law.go:200", after := #[{ on := 40, ground := Ground.data }, { on := 53, ground := Ground.data }, { on := 27, ground := Ground.guard }], guard := some (27, true) }) (v := .bool true) rfl (by kernel_rfl) (by kernel_rfl) (by kernel_rfl) (fun _ _ _ h => h) (Or.inl ⟨by rfl, by intro w hSw; go_simp⟩) (by assumption) ?_
    simp only [Act.put, List.setIfInBounds_toArray, List.set_cons_zero, List.set_cons_succ]
    refine wpAnyH_take (i := 55) (oi := { dst := some 225, op := Op.pick (Operand.tmp 197) (Operand.tmp 224) (Operand.const (Value.bool false)), type := 4, pos := "law.go:200", after := #[{ on := 27, ground := Ground.data }, { on := 54, ground := Ground.data }], guard := none }) (v := .bool true) rfl (by kernel_rfl) (by kernel_rfl) (by kernel_rfl) (fun _ _ _ h => h) (Or.inl ⟨by rfl, by intro w hSw; go_simp⟩) (by assumption) ?_
    simp only [Act.put, List.setIfInBounds_toArray, List.set_cons_zero, List.set_cons_succ]
    refine wpAnyH_ready (rs := [56]) (by kernel_rfl) (by simp) (AllReadyH.cons (o := { dst := some 4, op := Op.assign (Operand.tmp 225), type := 4, pos := "law.go:200", after := #[{ on := 55, ground := Ground.data }, { on := 53, ground := Ground.chain }, { on := 0, ground := Ground.phase }, { on := 1, ground := Ground.phase }, { on := 2, ground := Ground.phase }, { on := 3, ground := Ground.phase }, { on := 4, ground := Ground.phase }, { on := 5, ground := Ground.phase }, { on := 6, ground := Ground.phase }, { on := 7, ground := Ground.phase }, { on := 8, ground := Ground.phase }, { on := 9, ground := Ground.phase }, { on := 10, ground := Ground.phase }, { on := 11, ground := Ground.phase }, { on := 12, ground := Ground.phase }, { on := 13, ground := Ground.phase }, { on := 14, ground := Ground.phase }, { on := 15, ground := Ground.phase }, { on := 16, ground := Ground.phase }, { on := 17, ground := Ground.phase }, { on := 18, ground := Ground.phase }, { on := 19, ground := Ground.phase }, { on := 20, ground := Ground.phase }, { on := 21, ground := Ground.phase }, { on := 22, ground := Ground.phase }, { on := 23, ground := Ground.phase }, { on := 24, ground := Ground.phase }, { on := 25, ground := Ground.phase }, { on := 26, ground := Ground.phase }, { on := 27, ground := Ground.phase }, { on := 28, ground := Ground.phase }, { on := 29, ground := Ground.phase }, { on := 30, ground := Ground.phase }, { on := 31, ground := Ground.phase }, { on := 32, ground := Ground.phase }, { on := 33, ground := Ground.phase }, { on := 34, ground := Ground.phase }, { on := 35, ground := Ground.phase }, { on := 36, ground := Ground.phase }, { on := 37, ground := Ground.phase }, { on := 38, ground := Ground.phase }, { on := 39, ground := Ground.phase }, { on := 40, ground := Ground.phase }, { on := 41, ground := Ground.phase }, { on := 42, ground := Ground.phase }, { on := 43, ground := Ground.phase }, { on := 44, ground := Ground.phase }, { on := 45, ground := Ground.phase }, { on := 46, ground := Ground.phase }, { on := 47, ground := Ground.phase }, { on := 48, ground := Ground.phase }, { on := 49, ground := Ground.phase }, { on := 50, ground := Ground.phase }, { on := 51, ground := Ground.phase }, { on := 52, ground := Ground.phase }, { on := 53, ground := Ground.phase }, { on := 54, ground := Ground.phase }, { on := 55, ground := Ground.phase }], guard := none }) rfl (fun KQ hK => ?_) AllReadyH.nil)
    go_simp
    refine hK.out _ _ sbD.s (fun hHeld => ?_)
    clear hK KQ
    try simp only [Act.put, List.setIfInBounds_toArray, List.set_cons_zero, List.set_cons_succ]
    refine wpAnyH_done (by kernel_rfl) ?_ _
    clear hHeld
    have HFIN := hid sbD
    go_wp2_with fail
    go_ret
    exact ⟨by simp, _, _, _, _, lv, HFIN.out.bn, by omega, H4.out⟩
  by_cases k12 : q.k = 12
  · rw [k12] at y0
    go_wp2_with fail
    refine wp_region_held_drew (S := SS gb (benC f r vL) g3 q) (by kernel_rfl) (HSB.out.on (Below.refl _ _).drew).s (fun hHeld => ?_)
    refine wpAnyH_take (i := 0) (oi := { dst := some 228, op := Op.move (Operand.tmp 0), type := 62, pos := "law.go:202", after := #[], guard := none }) (v := .pointer (some ⟨gb, 0, none⟩)) rfl (by kernel_rfl) (by kernel_rfl) (by kernel_rfl) (fun _ _ _ h => h) (Or.inl ⟨by rfl, by intro w hSw; go_simp⟩) (by assumption) ?_
    simp only [Act.put, List.setIfInBounds_toArray, List.set_cons_zero, List.set_cons_succ]
    refine wpAnyH_take (i := 1) (oi := { dst := some 229, op := Op.move (Operand.tmp 5), type := 3, pos := "law.go:202", after := #[], guard := none }) (v := .int .i64 (i : Int)) rfl (by kernel_rfl) (by kernel_rfl) (by kernel_rfl) (fun _ _ _ h => h) (Or.inl ⟨by rfl, by intro w hSw; go_simp⟩) (by assumption) ?_
    simp only [Act.put, List.setIfInBounds_toArray, List.set_cons_zero, List.set_cons_succ]
    refine wpAnyH_take (i := 2) (oi := { dst := some 230, op := Op.nilCheck (Operand.tmp 228), type := 0, pos := "law.go:202", after := #[{ on := 0, ground := Ground.data }], guard := none }) (v := .pointer (some ⟨gb, 0, none⟩)) rfl (by kernel_rfl) (by kernel_rfl) (by kernel_rfl) (fun _ _ _ h => h) (Or.inl ⟨by rfl, by intro w hSw; go_simp⟩) (by assumption) ?_
    simp only [Act.put, List.setIfInBounds_toArray, List.set_cons_zero, List.set_cons_succ]
    refine wpAnyH_take (i := 3) (oi := { dst := some 231, op := Op.fieldAddr 68 (Operand.tmp 230) 0, type := 0, pos := "law.go:202", after := #[{ on := 2, ground := Ground.data }], guard := none }) (v := .pointer (some ⟨gb, 0, none⟩)) rfl (by kernel_rfl) (by kernel_rfl) (by kernel_rfl) (fun _ _ _ h => h) (Or.inl ⟨by rfl, by intro w hSw; go_simp⟩) (by assumption) ?_
    simp only [Act.put, List.setIfInBounds_toArray, List.set_cons_zero, List.set_cons_succ]
    refine wpAnyH_take (i := 4) (oi := { dst := some 232, op := Op.indexAddr 63 (Operand.tmp 231) (Operand.tmp 229), type := 0, pos := "law.go:202", after := #[{ on := 3, ground := Ground.data }, { on := 1, ground := Ground.data }], guard := none }) (v := .pointer (some ⟨gb, i, none⟩)) rfl (by kernel_rfl) (by kernel_rfl) (by kernel_rfl) (fun _ _ _ h => h) (Or.inl ⟨by rfl, by intro w hSw; go_simp⟩) (by assumption) ?_
    simp only [Act.put, List.setIfInBounds_toArray, List.set_cons_zero, List.set_cons_succ]
    refine wpAnyH_take (i := 5) (oi := { dst := some 233, op := Op.load 25 (Operand.tmp 232), type := 25, pos := "law.go:202", after := #[{ on := 4, ground := Ground.data }], guard := none }) (v := .pointer (some ⟨(f i).gm, 0, none⟩)) rfl (by kernel_rfl) (by kernel_rfl) (by kernel_rfl) (fun _ _ _ h => h) (Or.inl ⟨by rfl, by intro w hSw; have hcc := SS.cm hSw i hi; go_simp⟩) (by assumption) ?_
    simp only [Act.put, List.setIfInBounds_toArray, List.set_cons_zero, List.set_cons_succ]
    refine wpAnyH_take (i := 6) (oi := { dst := some 234, op := Op.fieldAddr 72 (Operand.tmp 3) 3, type := 0, pos := "law.go:202", after := #[], guard := none }) (v := .pointer (some ⟨g3, 3, none⟩)) rfl (by kernel_rfl) (by kernel_rfl) (by kernel_rfl) (fun _ _ _ h => h) (Or.inl ⟨by rfl, by intro w hSw; go_simp⟩) (by assumption) ?_
    simp only [Act.put, List.setIfInBounds_toArray, List.set_cons_zero, List.set_cons_succ]
    refine wpAnyH_take (i := 7) (oi := { dst := some 235, op := Op.load 23 (Operand.tmp 234), type := 23, pos := "law.go:202", after := #[{ on := 6, ground := Ground.data }], guard := none }) (v := .agg #[.bool q.s, .int .i64 q.p]) rfl (by kernel_rfl) (by kernel_rfl) (by kernel_rfl) (fun _ _ _ h => h) (yieldsIf_load_mid (by rfl) _ _ rfl _ _ rfl _ _ (fun w hSw => (Cel.rangeF hSw.2)) under23 rfl size23) (by assumption) ?_
    simp only [Act.put, List.setIfInBounds_toArray, List.set_cons_zero, List.set_cons_succ]
    refine wpAnyH_take (i := 9) (oi := { dst := some 237, op := Op.move (Operand.tmp 0), type := 62, pos := "law.go:202", after := #[], guard := none }) (v := .pointer (some ⟨gb, 0, none⟩)) rfl (by kernel_rfl) (by kernel_rfl) (by kernel_rfl) (fun _ _ _ h => h) (Or.inl ⟨by rfl, by intro w hSw; go_simp⟩) (by assumption) ?_
    simp only [Act.put, List.setIfInBounds_toArray, List.set_cons_zero, List.set_cons_succ]
    refine wpAnyH_take (i := 10) (oi := { dst := some 238, op := Op.move (Operand.tmp 5), type := 3, pos := "law.go:202", after := #[], guard := none }) (v := .int .i64 (i : Int)) rfl (by kernel_rfl) (by kernel_rfl) (by kernel_rfl) (fun _ _ _ h => h) (Or.inl ⟨by rfl, by intro w hSw; go_simp⟩) (by assumption) ?_
    simp only [Act.put, List.setIfInBounds_toArray, List.set_cons_zero, List.set_cons_succ]
    refine wpAnyH_take (i := 11) (oi := { dst := some 239, op := Op.nilCheck (Operand.tmp 237), type := 0, pos := "law.go:202", after := #[{ on := 9, ground := Ground.data }], guard := none }) (v := .pointer (some ⟨gb, 0, none⟩)) rfl (by kernel_rfl) (by kernel_rfl) (by kernel_rfl) (fun _ _ _ h => h) (Or.inl ⟨by rfl, by intro w hSw; go_simp⟩) (by assumption) ?_
    simp only [Act.put, List.setIfInBounds_toArray, List.set_cons_zero, List.set_cons_succ]
    refine wpAnyH_take (i := 12) (oi := { dst := some 240, op := Op.fieldAddr 68 (Operand.tmp 239) 1, type := 0, pos := "law.go:202", after := #[{ on := 11, ground := Ground.data }], guard := none }) (v := .pointer (some ⟨gb, 4, none⟩)) rfl (by kernel_rfl) (by kernel_rfl) (by kernel_rfl) (fun _ _ _ h => h) (Or.inl ⟨by rfl, by intro w hSw; go_simp⟩) (by assumption) ?_
    simp only [Act.put, List.setIfInBounds_toArray, List.set_cons_zero, List.set_cons_succ]
    refine wpAnyH_take (i := 13) (oi := { dst := some 241, op := Op.indexAddr 65 (Operand.tmp 240) (Operand.tmp 238), type := 0, pos := "law.go:202", after := #[{ on := 12, ground := Ground.data }, { on := 10, ground := Ground.data }], guard := none }) (v := .pointer (some ⟨gb, 4 + i, none⟩)) rfl (by kernel_rfl) (by kernel_rfl) (by kernel_rfl) (fun _ _ _ h => h) (Or.inl ⟨by rfl, by intro w hSw; go_simp⟩) (by assumption) ?_
    simp only [Act.put, List.setIfInBounds_toArray, List.set_cons_zero, List.set_cons_succ]
    refine wpAnyH_take (i := 14) (oi := { dst := some 242, op := Op.load 64 (Operand.tmp 241), type := 64, pos := "law.go:202", after := #[{ on := 13, ground := Ground.data }], guard := none }) (v := .pointer (some ⟨(r i).g, 0, none⟩)) rfl (by kernel_rfl) (by kernel_rfl) (by kernel_rfl) (fun _ _ _ h => h) (Or.inl ⟨by rfl, by intro w hSw; have hcc := SS.cr hSw i hi; go_simp⟩) (by assumption) ?_
    simp only [Act.put, List.setIfInBounds_toArray, List.set_cons_zero, List.set_cons_succ]
    refine wpAnyH_take (i := 15) (oi := { dst := some 243, op := Op.fieldAddr 72 (Operand.tmp 3) 3, type := 0, pos := "law.go:202", after := #[], guard := none }) (v := .pointer (some ⟨g3, 3, none⟩)) rfl (by kernel_rfl) (by kernel_rfl) (by kernel_rfl) (fun _ _ _ h => h) (Or.inl ⟨by rfl, by intro w hSw; go_simp⟩) (by assumption) ?_
    simp only [Act.put, List.setIfInBounds_toArray, List.set_cons_zero, List.set_cons_succ]
    refine wpAnyH_take (i := 16) (oi := { dst := some 244, op := Op.load 23 (Operand.tmp 243), type := 23, pos := "law.go:202", after := #[{ on := 15, ground := Ground.data }], guard := none }) (v := .agg #[.bool q.s, .int .i64 q.p]) rfl (by kernel_rfl) (by kernel_rfl) (by kernel_rfl) (fun _ _ _ h => h) (yieldsIf_load_mid (by rfl) _ _ rfl _ _ rfl _ _ (fun w hSw => (Cel.rangeF hSw.2)) under23 rfl size23) (by assumption) ?_
    simp only [Act.put, List.setIfInBounds_toArray, List.set_cons_zero, List.set_cons_succ]
    refine wpAnyH_ready (rs := [8]) (by kernel_rfl) (by simp) (AllReadyH.cons (o := { dst := some 236, op := Op.call { callee := Callee.value (Operand.func 11), args := #[Operand.tmp 233, Operand.tmp 235], argTypes := #[25, 23] }, type := 4, pos := "law.go:202", after := #[{ on := 5, ground := Ground.data }, { on := 7, ground := Ground.data }], guard := none }) rfl (fun KQ hK => ?_) AllReadyH.nil)
    go_simp
    refine (has_any _ (f i) (m i) (((HSB.out.on (Below.refl _ _).drew)).bn.mem i hi) q.s q.p).mono ?_
    rintro x wA ⟨rfl, hbA⟩
    have sbA := ((HSB.out.on (Below.refl _ _).drew)).on hbA
    go_wp2_with fail
    refine hK.out _ _ sbA.s (fun hHeld => ?_)
    clear hK KQ
    try simp only [Act.put, List.setIfInBounds_toArray, List.set_cons_zero, List.set_cons_succ]
    refine wpAnyH_ready (rs := [17]) (by kernel_rfl) (by simp) (AllReadyH.cons (o := { dst := some 245, op := Op.call { callee := Callee.value (Operand.func 42), args := #[Operand.tmp 244], argTypes := #[23] }, type := 95, pos := "law.go:202", after := #[{ on := 16, ground := Ground.data }, { on := 8, ground := Ground.chain }], guard := none }) rfl (fun KQ hK => ?_) AllReadyH.nil)
    go_simp
    refine (doc_any _ q.s q.p).mono ?_
    rintro x wB ⟨rfl, hbB⟩
    have sbB := (sbA).on hbB
    simp only [fr]
    go_wp2_with fail
    refine hK.out _ _ sbB.s (fun hHeld => ?_)
    clear hK KQ
    try simp only [Act.put, List.setIfInBounds_toArray, List.set_cons_zero, List.set_cons_succ]
    refine wpAnyH_ready (rs := [18]) (by kernel_rfl) (by simp) (AllReadyH.cons (o := { dst := some 246, op := Op.call { callee := Callee.value (Operand.func 48), args := #[Operand.tmp 242, Operand.tmp 245], argTypes := #[64, 95] }, type := 4, pos := "law.go:202", after := #[{ on := 14, ground := Ground.data }, { on := 17, ground := Ground.data }, { on := 17, ground := Ground.chain }], guard := none }) rfl (fun KQ hK => ?_) AllReadyH.nil)
    go_simp
    refine (rhas_any _ (r i) (m i) ((sbB).bn.rmem i hi) q.s q.p).mono ?_
    rintro x wC ⟨rfl, hbC⟩
    have sbC := (sbB).on hbC
    go_wp2_with fail
    refine hK.out _ _ sbC.s (fun hHeld => ?_)
    clear hK KQ
    try simp only [Act.put, List.setIfInBounds_toArray, List.set_cons_zero, List.set_cons_succ]
    refine wpAnyH_take (i := 19) (oi := { dst := some 247, op := Op.binOp BinOp.eql 4 (Operand.tmp 236) (Operand.tmp 246) 4, type := 4, pos := "law.go:202", after := #[{ on := 8, ground := Ground.data }, { on := 18, ground := Ground.data }], guard := none }) (v := .bool true) rfl (by kernel_rfl) (by kernel_rfl) (by kernel_rfl) (fun _ _ _ h => h) (Or.inl ⟨by rfl, by intro w hSw; go_simp⟩) (by assumption) ?_
    simp only [Act.put, List.setIfInBounds_toArray, List.set_cons_zero, List.set_cons_succ]
    refine wpAnyH_take (i := 20) (oi := { dst := some 248, op := Op.move (Operand.tmp 247), type := 4, pos := "law.go:202", after := #[{ on := 19, ground := Ground.data }, { on := 18, ground := Ground.chain }], guard := none }) (v := .bool true) rfl (by kernel_rfl) (by kernel_rfl) (by kernel_rfl) (fun _ _ _ h => h) (Or.inl ⟨by rfl, by intro w hSw; go_simp⟩) (by assumption) ?_
    simp only [Act.put, List.setIfInBounds_toArray, List.set_cons_zero, List.set_cons_succ]
    refine wpAnyH_take (i := 21) (oi := { dst := some 249, op := Op.move (Operand.tmp 0), type := 62, pos := "law.go:202", after := #[{ on := 20, ground := Ground.guard }], guard := some (20, true) }) (v := .pointer (some ⟨gb, 0, none⟩)) rfl (by kernel_rfl) (by kernel_rfl) (by kernel_rfl) (fun _ _ _ h => h) (Or.inl ⟨by rfl, by intro w hSw; go_simp⟩) (by assumption) ?_
    simp only [Act.put, List.setIfInBounds_toArray, List.set_cons_zero, List.set_cons_succ]
    refine wpAnyH_take (i := 22) (oi := { dst := some 250, op := Op.move (Operand.tmp 5), type := 3, pos := "law.go:202", after := #[{ on := 20, ground := Ground.guard }], guard := some (20, true) }) (v := .int .i64 (i : Int)) rfl (by kernel_rfl) (by kernel_rfl) (by kernel_rfl) (fun _ _ _ h => h) (Or.inl ⟨by rfl, by intro w hSw; go_simp⟩) (by assumption) ?_
    simp only [Act.put, List.setIfInBounds_toArray, List.set_cons_zero, List.set_cons_succ]
    refine wpAnyH_take (i := 23) (oi := { dst := some 251, op := Op.nilCheck (Operand.tmp 249), type := 0, pos := "law.go:202", after := #[{ on := 21, ground := Ground.data }, { on := 20, ground := Ground.guard }], guard := some (20, true) }) (v := .pointer (some ⟨gb, 0, none⟩)) rfl (by kernel_rfl) (by kernel_rfl) (by kernel_rfl) (fun _ _ _ h => h) (Or.inl ⟨by rfl, by intro w hSw; go_simp⟩) (by assumption) ?_
    simp only [Act.put, List.setIfInBounds_toArray, List.set_cons_zero, List.set_cons_succ]
    refine wpAnyH_take (i := 24) (oi := { dst := some 252, op := Op.fieldAddr 68 (Operand.tmp 251) 0, type := 0, pos := "law.go:202", after := #[{ on := 23, ground := Ground.data }, { on := 20, ground := Ground.guard }], guard := some (20, true) }) (v := .pointer (some ⟨gb, 0, none⟩)) rfl (by kernel_rfl) (by kernel_rfl) (by kernel_rfl) (fun _ _ _ h => h) (Or.inl ⟨by rfl, by intro w hSw; go_simp⟩) (by assumption) ?_
    simp only [Act.put, List.setIfInBounds_toArray, List.set_cons_zero, List.set_cons_succ]
    refine wpAnyH_take (i := 25) (oi := { dst := some 253, op := Op.indexAddr 63 (Operand.tmp 252) (Operand.tmp 250), type := 0, pos := "law.go:202", after := #[{ on := 24, ground := Ground.data }, { on := 22, ground := Ground.data }, { on := 20, ground := Ground.guard }], guard := some (20, true) }) (v := .pointer (some ⟨gb, i, none⟩)) rfl (by kernel_rfl) (by kernel_rfl) (by kernel_rfl) (fun _ _ _ h => h) (Or.inl ⟨by rfl, by intro w hSw; go_simp⟩) (by assumption) ?_
    simp only [Act.put, List.setIfInBounds_toArray, List.set_cons_zero, List.set_cons_succ]
    refine wpAnyH_take (i := 26) (oi := { dst := some 254, op := Op.load 25 (Operand.tmp 253), type := 25, pos := "law.go:202", after := #[{ on := 25, ground := Ground.data }, { on := 20, ground := Ground.guard }], guard := some (20, true) }) (v := .pointer (some ⟨(f i).gm, 0, none⟩)) rfl (by kernel_rfl) (by kernel_rfl) (by kernel_rfl) (fun _ _ _ h => h) (Or.inl ⟨by rfl, by intro w hSw; have hcc := SS.cm hSw i hi; go_simp⟩) (by assumption) ?_
    simp only [Act.put, List.setIfInBounds_toArray, List.set_cons_zero, List.set_cons_succ]
    refine wpAnyH_take (i := 28) (oi := { dst := some 256, op := Op.move (Operand.tmp 0), type := 62, pos := "law.go:202", after := #[{ on := 20, ground := Ground.guard }], guard := some (20, true) }) (v := .pointer (some ⟨gb, 0, none⟩)) rfl (by kernel_rfl) (by kernel_rfl) (by kernel_rfl) (fun _ _ _ h => h) (Or.inl ⟨by rfl, by intro w hSw; go_simp⟩) (by assumption) ?_
    simp only [Act.put, List.setIfInBounds_toArray, List.set_cons_zero, List.set_cons_succ]
    refine wpAnyH_take (i := 29) (oi := { dst := some 257, op := Op.move (Operand.tmp 5), type := 3, pos := "law.go:202", after := #[{ on := 20, ground := Ground.guard }], guard := some (20, true) }) (v := .int .i64 (i : Int)) rfl (by kernel_rfl) (by kernel_rfl) (by kernel_rfl) (fun _ _ _ h => h) (Or.inl ⟨by rfl, by intro w hSw; go_simp⟩) (by assumption) ?_
    simp only [Act.put, List.setIfInBounds_toArray, List.set_cons_zero, List.set_cons_succ]
    refine wpAnyH_take (i := 30) (oi := { dst := some 258, op := Op.nilCheck (Operand.tmp 256), type := 0, pos := "law.go:202", after := #[{ on := 28, ground := Ground.data }, { on := 20, ground := Ground.guard }], guard := some (20, true) }) (v := .pointer (some ⟨gb, 0, none⟩)) rfl (by kernel_rfl) (by kernel_rfl) (by kernel_rfl) (fun _ _ _ h => h) (Or.inl ⟨by rfl, by intro w hSw; go_simp⟩) (by assumption) ?_
    simp only [Act.put, List.setIfInBounds_toArray, List.set_cons_zero, List.set_cons_succ]
    refine wpAnyH_take (i := 31) (oi := { dst := some 259, op := Op.fieldAddr 68 (Operand.tmp 258) 1, type := 0, pos := "law.go:202", after := #[{ on := 30, ground := Ground.data }, { on := 20, ground := Ground.guard }], guard := some (20, true) }) (v := .pointer (some ⟨gb, 4, none⟩)) rfl (by kernel_rfl) (by kernel_rfl) (by kernel_rfl) (fun _ _ _ h => h) (Or.inl ⟨by rfl, by intro w hSw; go_simp⟩) (by assumption) ?_
    simp only [Act.put, List.setIfInBounds_toArray, List.set_cons_zero, List.set_cons_succ]
    refine wpAnyH_take (i := 32) (oi := { dst := some 260, op := Op.indexAddr 65 (Operand.tmp 259) (Operand.tmp 257), type := 0, pos := "law.go:202", after := #[{ on := 31, ground := Ground.data }, { on := 29, ground := Ground.data }, { on := 20, ground := Ground.guard }], guard := some (20, true) }) (v := .pointer (some ⟨gb, 4 + i, none⟩)) rfl (by kernel_rfl) (by kernel_rfl) (by kernel_rfl) (fun _ _ _ h => h) (Or.inl ⟨by rfl, by intro w hSw; go_simp⟩) (by assumption) ?_
    simp only [Act.put, List.setIfInBounds_toArray, List.set_cons_zero, List.set_cons_succ]
    refine wpAnyH_take (i := 33) (oi := { dst := some 261, op := Op.load 64 (Operand.tmp 260), type := 64, pos := "law.go:202", after := #[{ on := 32, ground := Ground.data }, { on := 20, ground := Ground.guard }], guard := some (20, true) }) (v := .pointer (some ⟨(r i).g, 0, none⟩)) rfl (by kernel_rfl) (by kernel_rfl) (by kernel_rfl) (fun _ _ _ h => h) (Or.inl ⟨by rfl, by intro w hSw; have hcc := SS.cr hSw i hi; go_simp⟩) (by assumption) ?_
    simp only [Act.put, List.setIfInBounds_toArray, List.set_cons_zero, List.set_cons_succ]
    refine wpAnyH_ready (rs := [27]) (by kernel_rfl) (by simp) (AllReadyH.cons (o := { dst := some 255, op := Op.call { callee := Callee.value (Operand.func 49), args := #[Operand.tmp 254], argTypes := #[25] }, type := 3, pos := "law.go:202", after := #[{ on := 26, ground := Ground.data }, { on := 20, ground := Ground.chain }, { on := 20, ground := Ground.guard }], guard := some (20, true) }) rfl (fun KQ hK => ?_) AllReadyH.nil)
    go_simp
    refine (secure_any _ (f i) (m i) ((sbC).bn.mem i hi)).mono ?_
    rintro x wn ⟨rfl, rfl⟩
    go_wp2_with fail
    refine hK.out _ _ sbC.s (fun hHeld => ?_)
    clear hK KQ
    try simp only [Act.put, List.setIfInBounds_toArray, List.set_cons_zero, List.set_cons_succ]
    refine wpAnyH_ready (rs := [34]) (by kernel_rfl) (by simp) (AllReadyH.cons (o := { dst := some 262, op := Op.call { callee := Callee.value (Operand.func 50), args := #[Operand.tmp 261], argTypes := #[64] }, type := 3, pos := "law.go:202", after := #[{ on := 33, ground := Ground.data }, { on := 27, ground := Ground.chain }, { on := 20, ground := Ground.guard }], guard := some (20, true) }) rfl (fun KQ hK => ?_) AllReadyH.nil)
    go_simp
    refine (rsecure_any _ (r i) (m i) ((sbC).bn.rmem i hi)).mono ?_
    rintro x wn ⟨rfl, rfl⟩
    go_wp2_with fail
    refine hK.out _ _ sbC.s (fun hHeld => ?_)
    clear hK KQ
    try simp only [Act.put, List.setIfInBounds_toArray, List.set_cons_zero, List.set_cons_succ]
    refine wpAnyH_take (i := 35) (oi := { dst := some 263, op := Op.binOp BinOp.eql 3 (Operand.tmp 255) (Operand.tmp 262) 3, type := 4, pos := "law.go:202", after := #[{ on := 27, ground := Ground.data }, { on := 34, ground := Ground.data }, { on := 20, ground := Ground.guard }], guard := some (20, true) }) (v := .bool true) rfl (by kernel_rfl) (by kernel_rfl) (by kernel_rfl) (fun _ _ _ h => h) (Or.inl ⟨by rfl, by intro w hSw; go_simp⟩) (by assumption) ?_
    simp only [Act.put, List.setIfInBounds_toArray, List.set_cons_zero, List.set_cons_succ]
    refine wpAnyH_take (i := 36) (oi := { dst := some 264, op := Op.pick (Operand.tmp 248) (Operand.tmp 263) (Operand.const (Value.bool false)), type := 4, pos := "law.go:202", after := #[{ on := 20, ground := Ground.data }, { on := 35, ground := Ground.data }], guard := none }) (v := .bool true) rfl (by kernel_rfl) (by kernel_rfl) (by kernel_rfl) (fun _ _ _ h => h) (Or.inl ⟨by rfl, by intro w hSw; go_simp⟩) (by assumption) ?_
    simp only [Act.put, List.setIfInBounds_toArray, List.set_cons_zero, List.set_cons_succ]
    refine wpAnyH_take (i := 37) (oi := { dst := some 265, op := Op.move (Operand.tmp 264), type := 4, pos := "law.go:202", after := #[{ on := 36, ground := Ground.data }, { on := 34, ground := Ground.chain }], guard := none }) (v := .bool true) rfl (by kernel_rfl) (by kernel_rfl) (by kernel_rfl) (fun _ _ _ h => h) (Or.inl ⟨by rfl, by intro w hSw; go_simp⟩) (by assumption) ?_
    simp only [Act.put, List.setIfInBounds_toArray, List.set_cons_zero, List.set_cons_succ]
    refine wpAnyH_take (i := 38) (oi := { dst := some 266, op := Op.move (Operand.tmp 0), type := 62, pos := "law.go:202", after := #[{ on := 37, ground := Ground.guard }], guard := some (37, true) }) (v := .pointer (some ⟨gb, 0, none⟩)) rfl (by kernel_rfl) (by kernel_rfl) (by kernel_rfl) (fun _ _ _ h => h) (Or.inl ⟨by rfl, by intro w hSw; go_simp⟩) (by assumption) ?_
    simp only [Act.put, List.setIfInBounds_toArray, List.set_cons_zero, List.set_cons_succ]
    refine wpAnyH_take (i := 39) (oi := { dst := some 267, op := Op.move (Operand.tmp 5), type := 3, pos := "law.go:202", after := #[{ on := 37, ground := Ground.guard }], guard := some (37, true) }) (v := .int .i64 (i : Int)) rfl (by kernel_rfl) (by kernel_rfl) (by kernel_rfl) (fun _ _ _ h => h) (Or.inl ⟨by rfl, by intro w hSw; go_simp⟩) (by assumption) ?_
    simp only [Act.put, List.setIfInBounds_toArray, List.set_cons_zero, List.set_cons_succ]
    refine wpAnyH_take (i := 40) (oi := { dst := some 268, op := Op.nilCheck (Operand.tmp 266), type := 0, pos := "law.go:202", after := #[{ on := 38, ground := Ground.data }, { on := 37, ground := Ground.guard }], guard := some (37, true) }) (v := .pointer (some ⟨gb, 0, none⟩)) rfl (by kernel_rfl) (by kernel_rfl) (by kernel_rfl) (fun _ _ _ h => h) (Or.inl ⟨by rfl, by intro w hSw; go_simp⟩) (by assumption) ?_
    simp only [Act.put, List.setIfInBounds_toArray, List.set_cons_zero, List.set_cons_succ]
    refine wpAnyH_take (i := 41) (oi := { dst := some 269, op := Op.fieldAddr 68 (Operand.tmp 268) 0, type := 0, pos := "law.go:202", after := #[{ on := 40, ground := Ground.data }, { on := 37, ground := Ground.guard }], guard := some (37, true) }) (v := .pointer (some ⟨gb, 0, none⟩)) rfl (by kernel_rfl) (by kernel_rfl) (by kernel_rfl) (fun _ _ _ h => h) (Or.inl ⟨by rfl, by intro w hSw; go_simp⟩) (by assumption) ?_
    simp only [Act.put, List.setIfInBounds_toArray, List.set_cons_zero, List.set_cons_succ]
    refine wpAnyH_take (i := 42) (oi := { dst := some 270, op := Op.indexAddr 63 (Operand.tmp 269) (Operand.tmp 267), type := 0, pos := "law.go:202", after := #[{ on := 41, ground := Ground.data }, { on := 39, ground := Ground.data }, { on := 37, ground := Ground.guard }], guard := some (37, true) }) (v := .pointer (some ⟨gb, i, none⟩)) rfl (by kernel_rfl) (by kernel_rfl) (by kernel_rfl) (fun _ _ _ h => h) (Or.inl ⟨by rfl, by intro w hSw; go_simp⟩) (by assumption) ?_
    simp only [Act.put, List.setIfInBounds_toArray, List.set_cons_zero, List.set_cons_succ]
    refine wpAnyH_take (i := 43) (oi := { dst := some 271, op := Op.load 25 (Operand.tmp 270), type := 25, pos := "law.go:202", after := #[{ on := 42, ground := Ground.data }, { on := 37, ground := Ground.guard }], guard := some (37, true) }) (v := .pointer (some ⟨(f i).gm, 0, none⟩)) rfl (by kernel_rfl) (by kernel_rfl) (by kernel_rfl) (fun _ _ _ h => h) (Or.inl ⟨by rfl, by intro w hSw; have hcc := SS.cm hSw i hi; go_simp⟩) (by assumption) ?_
    simp only [Act.put, List.setIfInBounds_toArray, List.set_cons_zero, List.set_cons_succ]
    refine wpAnyH_take (i := 45) (oi := { dst := some 273, op := Op.move (Operand.tmp 0), type := 62, pos := "law.go:202", after := #[{ on := 37, ground := Ground.guard }], guard := some (37, true) }) (v := .pointer (some ⟨gb, 0, none⟩)) rfl (by kernel_rfl) (by kernel_rfl) (by kernel_rfl) (fun _ _ _ h => h) (Or.inl ⟨by rfl, by intro w hSw; go_simp⟩) (by assumption) ?_
    simp only [Act.put, List.setIfInBounds_toArray, List.set_cons_zero, List.set_cons_succ]
    refine wpAnyH_take (i := 46) (oi := { dst := some 274, op := Op.move (Operand.tmp 5), type := 3, pos := "law.go:202", after := #[{ on := 37, ground := Ground.guard }], guard := some (37, true) }) (v := .int .i64 (i : Int)) rfl (by kernel_rfl) (by kernel_rfl) (by kernel_rfl) (fun _ _ _ h => h) (Or.inl ⟨by rfl, by intro w hSw; go_simp⟩) (by assumption) ?_
    simp only [Act.put, List.setIfInBounds_toArray, List.set_cons_zero, List.set_cons_succ]
    refine wpAnyH_take (i := 47) (oi := { dst := some 275, op := Op.nilCheck (Operand.tmp 273), type := 0, pos := "law.go:202", after := #[{ on := 45, ground := Ground.data }, { on := 37, ground := Ground.guard }], guard := some (37, true) }) (v := .pointer (some ⟨gb, 0, none⟩)) rfl (by kernel_rfl) (by kernel_rfl) (by kernel_rfl) (fun _ _ _ h => h) (Or.inl ⟨by rfl, by intro w hSw; go_simp⟩) (by assumption) ?_
    simp only [Act.put, List.setIfInBounds_toArray, List.set_cons_zero, List.set_cons_succ]
    refine wpAnyH_take (i := 48) (oi := { dst := some 276, op := Op.fieldAddr 68 (Operand.tmp 275) 1, type := 0, pos := "law.go:202", after := #[{ on := 47, ground := Ground.data }, { on := 37, ground := Ground.guard }], guard := some (37, true) }) (v := .pointer (some ⟨gb, 4, none⟩)) rfl (by kernel_rfl) (by kernel_rfl) (by kernel_rfl) (fun _ _ _ h => h) (Or.inl ⟨by rfl, by intro w hSw; go_simp⟩) (by assumption) ?_
    simp only [Act.put, List.setIfInBounds_toArray, List.set_cons_zero, List.set_cons_succ]
    refine wpAnyH_take (i := 49) (oi := { dst := some 277, op := Op.indexAddr 65 (Operand.tmp 276) (Operand.tmp 274), type := 0, pos := "law.go:202", after := #[{ on := 48, ground := Ground.data }, { on := 46, ground := Ground.data }, { on := 37, ground := Ground.guard }], guard := some (37, true) }) (v := .pointer (some ⟨gb, 4 + i, none⟩)) rfl (by kernel_rfl) (by kernel_rfl) (by kernel_rfl) (fun _ _ _ h => h) (Or.inl ⟨by rfl, by intro w hSw; go_simp⟩) (by assumption) ?_
    simp only [Act.put, List.setIfInBounds_toArray, List.set_cons_zero, List.set_cons_succ]
    refine wpAnyH_take (i := 50) (oi := { dst := some 278, op := Op.load 64 (Operand.tmp 277), type := 64, pos := "law.go:202", after := #[{ on := 49, ground := Ground.data }, { on := 37, ground := Ground.guard }], guard := some (37, true) }) (v := .pointer (some ⟨(r i).g, 0, none⟩)) rfl (by kernel_rfl) (by kernel_rfl) (by kernel_rfl) (fun _ _ _ h => h) (Or.inl ⟨by rfl, by intro w hSw; have hcc := SS.cr hSw i hi; go_simp⟩) (by assumption) ?_
    simp only [Act.put, List.setIfInBounds_toArray, List.set_cons_zero, List.set_cons_succ]
    refine wpAnyH_ready (rs := [44]) (by kernel_rfl) (by simp) (AllReadyH.cons (o := { dst := some 272, op := Op.call { callee := Callee.value (Operand.func 51), args := #[Operand.tmp 271], argTypes := #[25] }, type := 3, pos := "law.go:202", after := #[{ on := 43, ground := Ground.data }, { on := 37, ground := Ground.chain }, { on := 37, ground := Ground.guard }], guard := some (37, true) }) rfl (fun KQ hK => ?_) AllReadyH.nil)
    go_simp
    refine (insecure_any _ (f i) (m i) ((sbC).bn.mem i hi)).mono ?_
    rintro x wn ⟨rfl, rfl⟩
    go_wp2_with fail
    refine hK.out _ _ sbC.s (fun hHeld => ?_)
    clear hK KQ
    try simp only [Act.put, List.setIfInBounds_toArray, List.set_cons_zero, List.set_cons_succ]
    refine wpAnyH_ready (rs := [51]) (by kernel_rfl) (by simp) (AllReadyH.cons (o := { dst := some 279, op := Op.call { callee := Callee.value (Operand.func 52), args := #[Operand.tmp 278], argTypes := #[64] }, type := 3, pos := "law.go:202", after := #[{ on := 50, ground := Ground.data }, { on := 44, ground := Ground.chain }, { on := 37, ground := Ground.guard }], guard := some (37, true) }) rfl (fun KQ hK => ?_) AllReadyH.nil)
    go_simp
    refine (rinsecure_any _ (r i) (m i) ((sbC).bn.rmem i hi)).mono ?_
    rintro x wD ⟨rfl, hbD⟩
    have sbD := (sbC).on hbD
    go_wp2_with fail
    refine hK.out _ _ sbD.s (fun hHeld => ?_)
    clear hK KQ
    try simp only [Act.put, List.setIfInBounds_toArray, List.set_cons_zero, List.set_cons_succ]
    refine wpAnyH_take (i := 52) (oi := { dst := some 280, op := Op.binOp BinOp.eql 3 (Operand.tmp 272) (Operand.tmp 279) 3, type := 4, pos := "law.go:202", after := #[{ on := 44, ground := Ground.data }, { on := 51, ground := Ground.data }, { on := 37, ground := Ground.guard }], guard := some (37, true) }) (v := .bool true) rfl (by kernel_rfl) (by kernel_rfl) (by kernel_rfl) (fun _ _ _ h => h) (Or.inl ⟨by rfl, by intro w hSw; go_simp⟩) (by assumption) ?_
    simp only [Act.put, List.setIfInBounds_toArray, List.set_cons_zero, List.set_cons_succ]
    refine wpAnyH_take (i := 53) (oi := { dst := some 281, op := Op.pick (Operand.tmp 265) (Operand.tmp 280) (Operand.const (Value.bool false)), type := 4, pos := "law.go:202", after := #[{ on := 37, ground := Ground.data }, { on := 52, ground := Ground.data }], guard := none }) (v := .bool true) rfl (by kernel_rfl) (by kernel_rfl) (by kernel_rfl) (fun _ _ _ h => h) (Or.inl ⟨by rfl, by intro w hSw; go_simp⟩) (by assumption) ?_
    simp only [Act.put, List.setIfInBounds_toArray, List.set_cons_zero, List.set_cons_succ]
    refine wpAnyH_ready (rs := [54]) (by kernel_rfl) (by simp) (AllReadyH.cons (o := { dst := some 4, op := Op.assign (Operand.tmp 281), type := 4, pos := "law.go:202", after := #[{ on := 53, ground := Ground.data }, { on := 51, ground := Ground.chain }, { on := 0, ground := Ground.phase }, { on := 1, ground := Ground.phase }, { on := 2, ground := Ground.phase }, { on := 3, ground := Ground.phase }, { on := 4, ground := Ground.phase }, { on := 5, ground := Ground.phase }, { on := 6, ground := Ground.phase }, { on := 7, ground := Ground.phase }, { on := 8, ground := Ground.phase }, { on := 9, ground := Ground.phase }, { on := 10, ground := Ground.phase }, { on := 11, ground := Ground.phase }, { on := 12, ground := Ground.phase }, { on := 13, ground := Ground.phase }, { on := 14, ground := Ground.phase }, { on := 15, ground := Ground.phase }, { on := 16, ground := Ground.phase }, { on := 17, ground := Ground.phase }, { on := 18, ground := Ground.phase }, { on := 19, ground := Ground.phase }, { on := 20, ground := Ground.phase }, { on := 21, ground := Ground.phase }, { on := 22, ground := Ground.phase }, { on := 23, ground := Ground.phase }, { on := 24, ground := Ground.phase }, { on := 25, ground := Ground.phase }, { on := 26, ground := Ground.phase }, { on := 27, ground := Ground.phase }, { on := 28, ground := Ground.phase }, { on := 29, ground := Ground.phase }, { on := 30, ground := Ground.phase }, { on := 31, ground := Ground.phase }, { on := 32, ground := Ground.phase }, { on := 33, ground := Ground.phase }, { on := 34, ground := Ground.phase }, { on := 35, ground := Ground.phase }, { on := 36, ground := Ground.phase }, { on := 37, ground := Ground.phase }, { on := 38, ground := Ground.phase }, { on := 39, ground := Ground.phase }, { on := 40, ground := Ground.phase }, { on := 41, ground := Ground.phase }, { on := 42, ground := Ground.phase }, { on := 43, ground := Ground.phase }, { on := 44, ground := Ground.phase }, { on := 45, ground := Ground.phase }, { on := 46, ground := Ground.phase }, { on := 47, ground := Ground.phase }, { on := 48, ground := Ground.phase }, { on := 49, ground := Ground.phase }, { on := 50, ground := Ground.phase }, { on := 51, ground := Ground.phase }, { on := 52, ground := Ground.phase }, { on := 53, ground := Ground.phase }], guard := none }) rfl (fun KQ hK => ?_) AllReadyH.nil)
    go_simp
    refine hK.out _ _ sbD.s (fun hHeld => ?_)
    clear hK KQ
    try simp only [Act.put, List.setIfInBounds_toArray, List.set_cons_zero, List.set_cons_succ]
    refine wpAnyH_done (by kernel_rfl) ?_ _
    clear hHeld
    have HFIN := hid sbD
    go_wp2_with fail
    go_ret
    exact ⟨by simp, _, _, _, _, lv, HFIN.out.bn, by omega, H4.out⟩
  by_cases k10 : q.k = 10
  · rw [k10] at y0
    go_wp2_with fail
    refine wp_region_held_drew (S := fun x => Cel x g3 72 q.cs) (by kernel_rfl) (HSB.out.on (Below.refl _ _).drew).box (fun hHeld => ?_)
    refine wpAnyH_take (i := 0) (oi := { dst := some 137, op := Op.move (Operand.tmp 0), type := 62, pos := "law.go:196", after := #[], guard := none }) (v := .pointer (some ⟨gb, 0, none⟩)) rfl (by kernel_rfl) (by kernel_rfl) (by kernel_rfl) (fun _ _ _ h => h) (Or.inl ⟨by rfl, by intro w hSw; go_simp⟩) (by assumption) ?_
    simp only [Act.put, List.setIfInBounds_toArray, List.set_cons_zero, List.set_cons_succ]
    refine wpAnyH_take (i := 1) (oi := { dst := some 138, op := Op.move (Operand.tmp 5), type := 3, pos := "law.go:196", after := #[], guard := none }) (v := .int .i64 (i : Int)) rfl (by kernel_rfl) (by kernel_rfl) (by kernel_rfl) (fun _ _ _ h => h) (Or.inl ⟨by rfl, by intro w hSw; go_simp⟩) (by assumption) ?_
    simp only [Act.put, List.setIfInBounds_toArray, List.set_cons_zero, List.set_cons_succ]
    refine wpAnyH_take (i := 2) (oi := { dst := some 139, op := Op.move (Operand.tmp 0), type := 62, pos := "law.go:196", after := #[], guard := none }) (v := .pointer (some ⟨gb, 0, none⟩)) rfl (by kernel_rfl) (by kernel_rfl) (by kernel_rfl) (fun _ _ _ h => h) (Or.inl ⟨by rfl, by intro w hSw; go_simp⟩) (by assumption) ?_
    simp only [Act.put, List.setIfInBounds_toArray, List.set_cons_zero, List.set_cons_succ]
    refine wpAnyH_take (i := 3) (oi := { dst := some 140, op := Op.move (Operand.tmp 6), type := 3, pos := "law.go:196", after := #[], guard := none }) (v := .int .i64 (j : Int)) rfl (by kernel_rfl) (by kernel_rfl) (by kernel_rfl) (fun _ _ _ h => h) (Or.inl ⟨by rfl, by intro w hSw; go_simp⟩) (by assumption) ?_
    simp only [Act.put, List.setIfInBounds_toArray, List.set_cons_zero, List.set_cons_succ]
    refine wpAnyH_take (i := 4) (oi := { dst := some 141, op := Op.nilCheck (Operand.tmp 139), type := 0, pos := "law.go:196", after := #[{ on := 2, ground := Ground.data }], guard := none }) (v := .pointer (some ⟨gb, 0, none⟩)) rfl (by kernel_rfl) (by kernel_rfl) (by kernel_rfl) (fun _ _ _ h => h) (Or.inl ⟨by rfl, by intro w hSw; go_simp⟩) (by assumption) ?_
    simp only [Act.put, List.setIfInBounds_toArray, List.set_cons_zero, List.set_cons_succ]
    refine wpAnyH_take (i := 5) (oi := { dst := some 142, op := Op.fieldAddr 68 (Operand.tmp 141) 0, type := 0, pos := "law.go:196", after := #[{ on := 4, ground := Ground.data }], guard := none }) (v := .pointer (some ⟨gb, 0, none⟩)) rfl (by kernel_rfl) (by kernel_rfl) (by kernel_rfl) (fun _ _ _ h => h) (Or.inl ⟨by rfl, by intro w hSw; go_simp⟩) (by assumption) ?_
    simp only [Act.put, List.setIfInBounds_toArray, List.set_cons_zero, List.set_cons_succ]
    refine wpAnyH_take (i := 6) (oi := { dst := some 143, op := Op.indexAddr 63 (Operand.tmp 142) (Operand.tmp 140), type := 0, pos := "law.go:196", after := #[{ on := 5, ground := Ground.data }, { on := 3, ground := Ground.data }], guard := none }) (v := .pointer (some ⟨gb, j, none⟩)) rfl (by kernel_rfl) (by kernel_rfl) (by kernel_rfl) (fun _ _ _ h => h) (Or.inl ⟨by rfl, by intro w hSw; go_simp⟩) (by assumption) ?_
    simp only [Act.put, List.setIfInBounds_toArray, List.set_cons_zero, List.set_cons_succ]
    refine wpAnyH_take (i := 9) (oi := { dst := some 146, op := Op.nilCheck (Operand.tmp 137), type := 0, pos := "law.go:196", after := #[{ on := 0, ground := Ground.data }], guard := none }) (v := .pointer (some ⟨gb, 0, none⟩)) rfl (by kernel_rfl) (by kernel_rfl) (by kernel_rfl) (fun _ _ _ h => h) (Or.inl ⟨by rfl, by intro w hSw; go_simp⟩) (by assumption) ?_
    simp only [Act.put, List.setIfInBounds_toArray, List.set_cons_zero, List.set_cons_succ]
    refine wpAnyH_take (i := 10) (oi := { dst := some 147, op := Op.fieldAddr 68 (Operand.tmp 146) 0, type := 0, pos := "law.go:196", after := #[{ on := 9, ground := Ground.data }], guard := none }) (v := .pointer (some ⟨gb, 0, none⟩)) rfl (by kernel_rfl) (by kernel_rfl) (by kernel_rfl) (fun _ _ _ h => h) (Or.inl ⟨by rfl, by intro w hSw; go_simp⟩) (by assumption) ?_
    simp only [Act.put, List.setIfInBounds_toArray, List.set_cons_zero, List.set_cons_succ]
    refine wpAnyH_ready (rs := [7]) (by kernel_rfl) (by simp) (AllReadyH.cons (o := { dst := some 144, op := Op.load 25 (Operand.tmp 143), type := 25, pos := "law.go:196", after := #[{ on := 6, ground := Ground.data }], guard := none }) rfl (fun KQ hK => ?_) AllReadyH.nil)
    (have hcc := (HSB.out.on (Below.refl _ _).drew).bn.cm j hj; go_simp)
    refine hK.out _ _ (HSB.out.on (Below.refl _ _).drew).box (fun hHeld => ?_)
    clear hK KQ
    try simp only [Act.put, List.setIfInBounds_toArray, List.set_cons_zero, List.set_cons_succ]
    refine wpAnyH_ready (rs := [8]) (by kernel_rfl) (by simp) (AllReadyH.cons (o := { dst := some 145, op := Op.call { callee := Callee.value (Operand.func 25), args := #[Operand.tmp 144], argTypes := #[25] }, type := 25, pos := "law.go:196", after := #[{ on := 7, ground := Ground.data }], guard := none }) rfl (fun KQ hK => ?_) AllReadyH.nil)
    go_simp
    refine (clone_any _ (f j) (m j) ((HSB.out.on (Below.refl _ _).drew).bn.mem j hj)).mono ?_
    rintro x wA ⟨fn, rfl, hn⟩
    simp only [ptr]
    have sbA := (HSB.out.on (Below.refl _ _).drew).on hn.below
    go_wp2_with fail
    refine hK.out _ _ sbA.box (fun hHeld => ?_)
    clear hK KQ
    try simp only [Act.put, List.setIfInBounds_toArray, List.set_cons_zero, List.set_cons_succ]
    refine wpAnyH_take (i := 11) (oi := { dst := some 148, op := Op.indexAddr 63 (Operand.tmp 147) (Operand.tmp 138), type := 0, pos := "law.go:196", after := #[{ on := 10, ground := Ground.data }, { on := 1, ground := Ground.data }, { on := 0, ground := Ground.phase }, { on := 1, ground := Ground.phase }, { on := 2, ground := Ground.phase }, { on := 3, ground := Ground.phase }, { on := 4, ground := Ground.phase }, { on := 5, ground := Ground.phase }, { on := 6, ground := Ground.phase }, { on := 7, ground := Ground.phase }, { on := 8, ground := Ground.phase }], guard := none }) (v := .pointer (some ⟨gb, i, none⟩)) rfl (by kernel_rfl) (by kernel_rfl) (by kernel_rfl) (fun _ _ _ h => h) (Or.inl ⟨by rfl, by intro w hSw; go_simp⟩) (by assumption) ?_
    simp only [Act.put, List.setIfInBounds_toArray, List.set_cons_zero, List.set_cons_succ]
    refine wpAnyH_ready (rs := [12]) (by kernel_rfl) (by simp) (AllReadyH.cons (o := { dst := none, op := Op.store 25 (Operand.tmp 148) (Operand.tmp 145), type := 0, pos := "law.go:196", after := #[{ on := 11, ground := Ground.data }, { on := 8, ground := Ground.data }, { on := 8, ground := Ground.chain }, { on := 0, ground := Ground.phase }, { on := 1, ground := Ground.phase }, { on := 2, ground := Ground.phase }, { on := 3, ground := Ground.phase }, { on := 4, ground := Ground.phase }, { on := 5, ground := Ground.phase }, { on := 6, ground := Ground.phase }, { on := 7, ground := Ground.phase }, { on := 8, ground := Ground.phase }], guard := none }) rfl (fun KQ hK => ?_) AllReadyH.nil)
    (have hcc := sbA.bn.cm i hi; have hcf := sbA.bn.cel.free i; go_simp)
    refine hK.out _ _ (sbA.box.but (ButL.setCell (G := [gb]) wA gb i _ (by simp)) (by rw [List.mem_singleton]; exact sbA.ne)) (fun hHeld => ?_)
    clear hK KQ
    try simp only [Act.put]
    refine wpAnyH_done (by kernel_rfl) ?_ _
    clear hHeld
    have B1 := hid ((HSB.out.on (Below.refl _ _).drew).bn.newM i hi hn (HSB.out.bn.pos j hj).1)
    have BX1 := hid (sbA.box.but (ButL.setCell (G := [gb]) wA gb i (.pointer (some ⟨fn.gm, 0, none⟩)) (by simp)) (by rw [List.mem_singleton]; exact sbA.ne))
    have PJ := hid (HSB.out.bn.pos j hj).2
    clear sbA hn HSB y0 y1 y2 y7
    generalize wA.setCell _ _ = Y at *
    go_wp2_with fail
    refine wp_region_held_drew (S := fun x => Cel x g3 72 q.cs) (by kernel_rfl) (BX1.out.on (Below.refl _ _).drew) (fun hHeld => ?_)
    refine wpAnyH_take (i := 0) (oi := { dst := some 149, op := Op.move (Operand.tmp 0), type := 62, pos := "law.go:197", after := #[], guard := none }) (v := .pointer (some ⟨gb, 0, none⟩)) rfl (by kernel_rfl) (by kernel_rfl) (by kernel_rfl) (fun _ _ _ h => h) (Or.inl ⟨by rfl, by intro w hSw; go_simp⟩) (by assumption) ?_
    simp only [Act.put, List.setIfInBounds_toArray, List.set_cons_zero, List.set_cons_succ]
    refine wpAnyH_take (i := 1) (oi := { dst := some 150, op := Op.move (Operand.tmp 5), type := 3, pos := "law.go:197", after := #[], guard := none }) (v := .int .i64 (i : Int)) rfl (by kernel_rfl) (by kernel_rfl) (by kernel_rfl) (fun _ _ _ h => h) (Or.inl ⟨by rfl, by intro w hSw; go_simp⟩) (by assumption) ?_
    simp only [Act.put, List.setIfInBounds_toArray, List.set_cons_zero, List.set_cons_succ]
    refine wpAnyH_take (i := 2) (oi := { dst := some 151, op := Op.move (Operand.tmp 0), type := 62, pos := "law.go:197", after := #[], guard := none }) (v := .pointer (some ⟨gb, 0, none⟩)) rfl (by kernel_rfl) (by kernel_rfl) (by kernel_rfl) (fun _ _ _ h => h) (Or.inl ⟨by rfl, by intro w hSw; go_simp⟩) (by assumption) ?_
    simp only [Act.put, List.setIfInBounds_toArray, List.set_cons_zero, List.set_cons_succ]
    refine wpAnyH_take (i := 3) (oi := { dst := some 152, op := Op.move (Operand.tmp 6), type := 3, pos := "law.go:197", after := #[], guard := none }) (v := .int .i64 (j : Int)) rfl (by kernel_rfl) (by kernel_rfl) (by kernel_rfl) (fun _ _ _ h => h) (Or.inl ⟨by rfl, by intro w hSw; go_simp⟩) (by assumption) ?_
    simp only [Act.put, List.setIfInBounds_toArray, List.set_cons_zero, List.set_cons_succ]
    refine wpAnyH_take (i := 4) (oi := { dst := some 153, op := Op.nilCheck (Operand.tmp 151), type := 0, pos := "law.go:197", after := #[{ on := 2, ground := Ground.data }], guard := none }) (v := .pointer (some ⟨gb, 0, none⟩)) rfl (by kernel_rfl) (by kernel_rfl) (by kernel_rfl) (fun _ _ _ h => h) (Or.inl ⟨by rfl, by intro w hSw; go_simp⟩) (by assumption) ?_
    simp only [Act.put, List.setIfInBounds_toArray, List.set_cons_zero, List.set_cons_succ]
    refine wpAnyH_take (i := 5) (oi := { dst := some 154, op := Op.fieldAddr 68 (Operand.tmp 153) 1, type := 0, pos := "law.go:197", after := #[{ on := 4, ground := Ground.data }], guard := none }) (v := .pointer (some ⟨gb, 4, none⟩)) rfl (by kernel_rfl) (by kernel_rfl) (by kernel_rfl) (fun _ _ _ h => h) (Or.inl ⟨by rfl, by intro w hSw; go_simp⟩) (by assumption) ?_
    simp only [Act.put, List.setIfInBounds_toArray, List.set_cons_zero, List.set_cons_succ]
    refine wpAnyH_take (i := 6) (oi := { dst := some 155, op := Op.indexAddr 65 (Operand.tmp 154) (Operand.tmp 152), type := 0, pos := "law.go:197", after := #[{ on := 5, ground := Ground.data }, { on := 3, ground := Ground.data }], guard := none }) (v := .pointer (some ⟨gb, 4 + j, none⟩)) rfl (by kernel_rfl) (by kernel_rfl) (by kernel_rfl) (fun _ _ _ h => h) (Or.inl ⟨by rfl, by intro w hSw; go_simp⟩) (by assumption) ?_
    simp only [Act.put, List.setIfInBounds_toArray, List.set_cons_zero, List.set_cons_succ]
    refine wpAnyH_take (i := 9) (oi := { dst := some 158, op := Op.nilCheck (Operand.tmp 149), type := 0, pos := "law.go:197", after := #[{ on := 0, ground := Ground.data }], guard := none }) (v := .pointer (some ⟨gb, 0, none⟩)) rfl (by kernel_rfl) (by kernel_rfl) (by kernel_rfl) (fun _ _ _ h => h) (Or.inl ⟨by rfl, by intro w hSw; go_simp⟩) (by assumption) ?_
    simp only [Act.put, List.setIfInBounds_toArray, List.set_cons_zero, List.set_cons_succ]
    refine wpAnyH_take (i := 10) (oi := { dst := some 159, op := Op.fieldAddr 68 (Operand.tmp 158) 1, type := 0, pos := "law.go:197", after := #[{ on := 9, ground := Ground.data }], guard := none }) (v := .pointer (some ⟨gb, 4, none⟩)) rfl (by kernel_rfl) (by kernel_rfl) (by kernel_rfl) (fun _ _ _ h => h) (Or.inl ⟨by rfl, by intro w hSw; go_simp⟩) (by assumption) ?_
    simp only [Act.put, List.setIfInBounds_toArray, List.set_cons_zero, List.set_cons_succ]
    refine wpAnyH_ready (rs := [7]) (by kernel_rfl) (by simp) (AllReadyH.cons (o := { dst := some 156, op := Op.load 64 (Operand.tmp 155), type := 64, pos := "law.go:197", after := #[{ on := 6, ground := Ground.data }], guard := none }) rfl (fun KQ hK => ?_) AllReadyH.nil)
    (have hcc := (B1.out.on (Below.refl _ _).drew).cr j hj; go_simp)
    refine hK.out _ _ (BX1.out.on (Below.refl _ _).drew) (fun hHeld => ?_)
    clear hK KQ
    try simp only [Act.put, List.setIfInBounds_toArray, List.set_cons_zero, List.set_cons_succ]
    refine wpAnyH_ready (rs := [8]) (by kernel_rfl) (by simp) (AllReadyH.cons (o := { dst := some 157, op := Op.call { callee := Callee.value (Operand.func 46), args := #[Operand.tmp 156], argTypes := #[64] }, type := 64, pos := "law.go:197", after := #[{ on := 7, ground := Ground.data }], guard := none }) rfl (fun KQ hK => ?_) AllReadyH.nil)
    go_simp
    refine (rclone_any _ (r j) (m j) ((B1.out.on (Below.refl _ _).drew).rmem j hj) PJ.out).mono ?_
    rintro x wB ⟨rn, rfl, hn⟩
    simp only [ptr]
    have bB := (B1.out.on (Below.refl _ _).drew).on hn.below
    have xB := (BX1.out.on (Below.refl _ _).drew).on hn.below
    go_wp2_with fail
    refine hK.out _ _ xB (fun hHeld => ?_)
    clear hK KQ
    try simp only [Act.put, List.setIfInBounds_toArray, List.set_cons_zero, List.set_cons_succ]
    refine wpAnyH_take (i := 11) (oi := { dst := some 160, op := Op.indexAddr 65 (Operand.tmp 159) (Operand.tmp 150), type := 0, pos := "law.go:197", after := #[{ on := 10, ground := Ground.data }, { on := 1, ground := Ground.data }, { on := 0, ground := Ground.phase }, { on := 1, ground := Ground.phase }, { on := 2, ground := Ground.phase }, { on := 3, ground := Ground.phase }, { on := 4, ground := Ground.phase }, { on := 5, ground := Ground.phase }, { on := 6, ground := Ground.phase }, { on := 7, ground := Ground.phase }, { on := 8, ground := Ground.phase }], guard := none }) (v := .pointer (some ⟨gb, 4 + i, none⟩)) rfl (by kernel_rfl) (by kernel_rfl) (by kernel_rfl) (fun _ _ _ h => h) (Or.inl ⟨by rfl, by intro w hSw; go_simp⟩) (by assumption) ?_
    simp only [Act.put, List.setIfInBounds_toArray, List.set_cons_zero, List.set_cons_succ]
    refine wpAnyH_ready (rs := [12]) (by kernel_rfl) (by simp) (AllReadyH.cons (o := { dst := none, op := Op.store 64 (Operand.tmp 160) (Operand.tmp 157), type := 0, pos := "law.go:197", after := #[{ on := 11, ground := Ground.data }, { on := 8, ground := Ground.data }, { on := 8, ground := Ground.chain }, { on := 0, ground := Ground.phase }, { on := 1, ground := Ground.phase }, { on := 2, ground := Ground.phase }, { on := 3, ground := Ground.phase }, { on := 4, ground := Ground.phase }, { on := 5, ground := Ground.phase }, { on := 6, ground := Ground.phase }, { on := 7, ground := Ground.phase }, { on := 8, ground := Ground.phase }], guard := none }) rfl (fun KQ hK => ?_) AllReadyH.nil)
    (have hcc := bB.cr i hi; have hcf := bB.cel.free (4 + i); go_simp)
    refine hK.out _ _ (xB.but (ButL.setCell (G := [gb]) wB gb (4 + i) _ (by simp)) (by rw [List.mem_singleton]; exact box_ne xB bB)) (fun hHeld => ?_)
    clear hK KQ
    try simp only [Act.put]
    refine wpAnyH_done (by kernel_rfl) ?_ _
    clear hHeld
    have HFIN := hid ((B1.out.on (Below.refl _ _).drew).newR i hi hn PJ.out)
    clear hn bB xB B1 BX1
    generalize wB.setCell _ _ = Z at *
    have yz := HFIN.out.cm i hi
    rw [upd_same] at yz
    go_wp2_with fail
    go_ret
    exact ⟨rfl, _, _, _, _, lv, HFIN.out, by omega, H4.out⟩
  by_cases k48 : q.k = 4 ∨ q.k = 5 ∨ q.k = 6 ∨ q.k = 7 ∨ q.k = 8
  · have HR : Hid (X.rangeAt g3 0 q.cs) := hid HSB.out.box.range
    have HWH := hid (whole_any HLY.out HSB.out.bn H4.out HN.out q HQ.out i hi)
    rcases k48 with k | k | k | k | k
    all_goals rw [k] at y0
    all_goals go_wp2_with (first | (refine wpList_load_mid rfl 72 _ rfl g3 0 rfl q.cs _ HR.out under72 rfl size72 ?_))
    all_goals refine HWH.out.mono ?_
    all_goals rintro x w2 ⟨rfl, hst⟩
    all_goals have HST := hid hst
    all_goals clear hst
    all_goals go_wp2_with fail
    all_goals go_ret
    all_goals exact ⟨rfl, HST.out⟩
  · have k4 : ¬ q.k = 4 := fun e => k48 (.inl e)
    have k5 : ¬ q.k = 5 := fun e => k48 (.inr (.inl e))
    have k6 : ¬ q.k = 6 := fun e => k48 (.inr (.inr (.inl e)))
    have k7 : ¬ q.k = 7 := fun e => k48 (.inr (.inr (.inr (.inl e))))
    have k8 : ¬ q.k = 8 := fun e => k48 (.inr (.inr (.inr (.inr e))))
    clear k48
    go_wp2_with fail
    go_ret
    exact ⟨rfl, _, _, _, _, lv, HSB.out.bn, by omega, H4.out⟩
end Go.Proofs.Ytnmdhnbgikbpoaa
