/- The law's whole 44. -/
import Derived.Test.YtnmdhnbgikbpoaaQ7
namespace Go.Proofs.Ytnmdhnbgikbpoaa
open Go.RowKit
theorem len_read (m : MS) (s : Bool) (p o : Int) : (m.read s p o).P.length = m.P.length := by
  unfold MS.read; split
  · rfl
  · split <;> rfl
theorem len_write (m : MS) (s : Bool) (p o v : Int) : (m.write s p o v).P.length = m.P.length := by
  unfold MS.write; split
  · rfl
  · split
    · simp
    · rfl
theorem len_zero (m : MS) (s : Bool) (p : Int) : (m.zero s p).P.length = m.P.length := by
  unfold MS.zero; split
  · rfl
  · simp
theorem len_copy (m : MS) (s : Bool) (p : Int) (t : Bool) (q : Int) : (m.copy s p t q).P.length = m.P.length := by
  unfold MS.copy; split
  · simp
  · rfl
theorem len_tk (m : MS) (s : Bool) (p n : Int) : (m.tk s p n).P.length = m.P.length := by
  unfold MS.tk; split <;> rfl
theorem len_lay (m : MS) (s : Bool) (p : Int) (L : List Int) : (m.lay s p L).P.length = m.P.length := by
  unfold MS.lay; split
  · rfl
  · split
    · simp
    · rfl
theorem Cel.rangeF {w : World} {g : Nat} {q : Oq} (h : Cel w g 72 q.cs) : w.rangeAt g 3 [.bool q.s, .int .i64 q.p] := fun j v hv => by
  have hj : j < 2 := (List.getElem?_eq_some_iff.1 hv).1
  rw [h.cell (3 + j)]
  match j, hj with
  | 0, _ => exact hv
  | 1, _ => exact hv
theorem Cel.rangeG {w : World} {g : Nat} {q : Oq} (h : Cel w g 72 q.cs) : w.rangeAt g 5 [.bool q.t, .int .i64 q.u] := fun j v hv => by
  have hj : j < 2 := (List.getElem?_eq_some_iff.1 hv).1
  rw [h.cell (5 + j)]
  match j, hj with
  | 0, _ => exact hv
  | 1, _ => exact hv
/-- The bench, its cells as they were, and a step in a box. -/
structure SB (W wr : World) (gb : Nat) (f : Nat → Fp) (r : Nat → Rf) (mf mr : Nat → MS) (vL : Value) (lv : List Value) (BC : List Value) (g3 : Nat) (q : Oq) : Prop where
  bn : Bn W wr gb f r mf mr vL lv
  bc : Cel wr gb 68 BC
  box : Cel wr g3 72 q.cs
def SS (gb : Nat) (BC : List Value) (g3 : Nat) (q : Oq) (x : World) : Prop := Cel x gb 68 BC ∧ Cel x g3 72 q.cs
section
variable {W wr : World} {gb : Nat} {f : Nat → Fp} {r : Nat → Rf} {mf mr : Nat → MS} {vL : Value} {lv : List Value} {BC : List Value} {g3 : Nat} {q : Oq} (h : SB W wr gb f r mf mr vL lv BC g3 q)
include h
theorem SB.s : SS gb BC g3 q wr := ⟨h.bc, h.box⟩
theorem SB.on {w' : World} (hb : Below wr.heap.size wr w') : SB W w' gb f r mf mr vL lv BC g3 q := ⟨h.bn.on hb, h.bc.on hb, h.box.on hb⟩
theorem SB.fst {w' : World} (i : Nat) (hi : i < 4) {m' : MS} (hb : ButL (f i).w wr w') (hm : Mem w' (f i) m') (hp : m'.P.length = (mf i).P.length) : SB W w' gb f r (upd mf i m') mr vL lv BC g3 q :=
  ⟨h.bn.fst i hi hb hm (by rw [hp]; exact (h.bn.pos i hi).1), h.bn.fstay i hi hb h.bc (by decide) (by decide) (by decide), h.bn.fstay i hi hb h.box (by decide) (by decide) (by decide)⟩
theorem SB.rst {w' : World} (i : Nat) (hi : i < 4) {m' : MS} {r' : Rf} (hs : RSt wr w' (r i) r' m') (hp : m'.P.length = (mr i).P.length) : SB W w' gb f (upd r i r') mf (upd mr i m') vL lv BC g3 q :=
  ⟨h.bn.rst i hi hs (by rw [hp]; exact (h.bn.pos i hi).2), h.bn.rstay i hi hs.but h.bc (by decide) (by decide) (by decide), h.bn.rstay i hi hs.but h.box (by decide) (by decide) (by decide)⟩
end
theorem tk_at (m : MS) (s : Bool) (p n : Int) : (m.tk s p n).at s p = m.at s p := by unfold MS.tk; split <;> rfl
theorem tk_p (m : MS) (s : Bool) (p n : Int) (k : Nat) : (m.tk s p n).p k = m.p k := by unfold MS.tk; split <;> rfl
/-- A list of words that belongs to nobody's memory. -/
def LS (w W : World) (r : Nat → Rf) (lv : List Value) (g : Nat) (L : List Int) : Prop := Cel w g 32 (u32s L) ∧ Loose w W g r lv
theorem LS.on {w w' W : World} {r : Nat → Rf} {lv : List Value} {g : Nat} {L : List Int} (h : LS w W r lv g L) (hb : Below w.heap.size w w') : LS w' W r lv g L := ⟨h.1.on hb, h.2.but (G := []) (.of hb) (by simp)⟩
theorem LS.r {w w' W : World} {r : Nat → Rf} {lv : List Value} {g : Nat} {L : List Int} (h : LS w W r lv g L) (i : Nat) (hi : i < 4) (hb : ButL (r i).all w w') : LS w' W r lv g L := ⟨h.1.but hb (h.2.nr i hi), h.2.but hb (h.2.nr i hi)⟩
theorem LS.f {w w' W : World} {gb : Nat} {f : Nat → Fp} {r : Nat → Rf} {mf mr : Nat → MS} {vL : Value} {lv : List Value} {g : Nat} {L : List Int} (h : LS w W r lv g L) (hB : Bn W w gb f r mf mr vL lv) (i : Nat) (hi : i < 4) (hb : ButL (f i).w w w') : LS w' W r lv g L :=
  ⟨hB.fstay i hi hb h.1 (by decide) (by decide) (by decide), h.2.but hb (fun hk => (hB.mem i hi).no h.2.ty (by decide) (by decide) (by decide) (Fp.w_all' hk))⟩
theorem LS.src {w W : World} {r : Nat → Rf} {lv : List Value} {g : Nat} {L : List Int} (h : LS w W r lv g L) : SrcL w (some ⟨g, 0, none⟩) L := .inr ⟨g, 0, rfl, h.1.lt, fun j u hu => by rw [Nat.zero_add, h.1.cell j]; exact hu⟩
theorem lsame_self (w : World) (ao bo : Option Addr) (A : List Int) (ha : SrcL w ao A) (hb : SrcL w bo A) (c c' : Nat) (na : A.length ≤ 140737488355328) :
    Calls Try.prog 57 #[.slice ao A.length c, .slice bo A.length c'] w fun x w' => x = .returned (.bool true) ∧ Below w.heap.size w w' := by
  have h := lsame_any w ao bo A A ha hb c c' na na
  have e : decide (A = A) = true := decide_eq_true rfl
  rw [e] at h
  exact h
theorem upd_id {α : Type} (r : Nat → α) (i : Nat) : upd r i (r i) = r := by funext j; unfold upd; split <;> simp_all
/-- What a step leaves. -/
def StE (W w' : World) (gb : Nat) (lv : List Value) : Prop := ∃ f r m vL lv', Bn W w' gb f r m m vL lv' ∧ lv'.length ≤ lv.length + 4 ∧ lv'.length % 4 = 0
/-- What lays promises. -/
def LaysOk : Prop := ∀ (W wr : World) (gb : Nat) (f : Nat → Fp) (r : Nat → Rf) (m : Nat → MS) (vL : Value) (lv : List Value) (_ : Bn W wr gb f r m m vL lv) (_ : lv.length % 4 = 0) (q : Oq) (_ : OqOk W q) (i : Nat) (_ : i < 4),
  Calls Try.prog 59 #[.pointer (some ⟨gb, 0, none⟩), .int .i64 (i : Int), .agg q.cs.toArray] wr fun x w' => x = .returned (.bool true) ∧ StE W w' gb lv
theorem size72 : (Try.prog.info? 72).map (·.size) = some 10 := by kernel_rfl
theorem under72 : Try.prog.underlying 72 = some (.struct (Try.prog.fieldsOf 72)) := by kernel_rfl
set_option maxRecDepth 40000 in
set_option maxHeartbeats 8000000 in
theorem whole_any (hlays : LaysOk) {W wr : World} {gb : Nat} {f : Nat → Fp} {r : Nat → Rf} {m : Nat → MS} {vL : Value} {lv : List Value} (h : Bn W wr gb f r m m vL lv) (h4 : lv.length % 4 = 0) (hN : (lv.length + 4) * 24 ≤ 140737488355328) (q : Oq) (hq : OqOk W q) (i : Nat) (hi : i < 4) :
    Calls Try.prog 44 #[.pointer (some ⟨gb, 0, none⟩), .int .i64 (i : Int), .agg q.cs.toArray] wr fun x w' => x = .returned (.bool true) ∧ StE W w' gb lv := by
  have i4 : (i : Int) < 4 := by omega
  have HSB : Hid (SB W (wr.alloc (.cells q.cs.toArray 72)) gb f r m m vL lv (benC f r vL) wr.heap.size q) := hid ⟨h.on (below_one _ _), h.cel.on (below_one _ _), Cel.new wr 72 q.cs⟩
  have HLY : Hid LaysOk := hid hlays
  have H4 := hid h4
  have HN := hid hN
  have HQ := hid hq
  have HI := hid hi
  have y0 := HSB.out.box.cell 0
  have y1 := HSB.out.bn.cm i hi
  have y2 := HSB.out.bn.cr i hi
  clear h hq h4 hN hlays
  have y0' : (wr.alloc (.cells q.cs.toArray 72)).cell? ⟨wr.heap.size, 0, none⟩ = some (.int .i64 q.k) := y0
  clear y0
  have HP1 := hid (HSB.out.bn.pos i hi)
  generalize hqc : q.cs.toArray = qa at *
  have HQC := hid hqc
  clear hqc
  go_enter Try.func44, Try.ntmps44
  by_cases k4 : q.k = 4
  · rw [k4] at y0'
    go_wp2_with fail
    generalize wr.alloc _ = X at *
    clear y0' y1 y2
    generalize wr.heap.size = g3 at *
    refine wp_region_held_drew (S := SS gb (benC f r vL) g3 q) (by kernel_rfl) (HSB.out.on (Below.refl _ _).drew).s (fun hHeld => ?_)
    refine wpAnyH_take (i := 0) (oi := { dst := some 35, op := Op.move (Operand.tmp 7), type := 25, pos := "law.go:157", after := #[], guard := none }) (v := .pointer (some ⟨(f i).gm, 0, none⟩)) rfl (by kernel_rfl) (by kernel_rfl) (by kernel_rfl) (fun _ _ _ h => h) (Or.inl ⟨by rfl, by intro w hSw; go_simp⟩) (by assumption) ?_
    simp only [Act.put, List.setIfInBounds_toArray, List.set_cons_zero, List.set_cons_succ]
    refine wpAnyH_take (i := 1) (oi := { dst := some 36, op := Op.fieldAddr 72 (Operand.tmp 5) 3, type := 0, pos := "law.go:157", after := #[], guard := none }) (v := .pointer (some ⟨g3, 3, none⟩)) rfl (by kernel_rfl) (by kernel_rfl) (by kernel_rfl) (fun _ _ _ h => h) (Or.inl ⟨by rfl, by intro w hSw; go_simp⟩) (by assumption) ?_
    simp only [Act.put, List.setIfInBounds_toArray, List.set_cons_zero, List.set_cons_succ]
    refine wpAnyH_take (i := 2) (oi := { dst := some 37, op := Op.load 23 (Operand.tmp 36), type := 23, pos := "law.go:157", after := #[{ on := 1, ground := Ground.data }], guard := none }) (v := .agg #[.bool q.s, .int .i64 q.p]) rfl (by kernel_rfl) (by kernel_rfl) (by kernel_rfl) (fun _ _ _ h => h) (yieldsIf_load_mid (by rfl) _ _ rfl _ _ rfl _ _ (fun w hSw => (Cel.rangeF hSw.2)) under23 rfl size23) (by assumption) ?_
    simp only [Act.put, List.setIfInBounds_toArray, List.set_cons_zero, List.set_cons_succ]
    refine wpAnyH_take (i := 5) (oi := { dst := some 40, op := Op.move (Operand.tmp 8), type := 64, pos := "law.go:157", after := #[], guard := none }) (v := .pointer (some ⟨(r i).g, 0, none⟩)) rfl (by kernel_rfl) (by kernel_rfl) (by kernel_rfl) (fun _ _ _ h => h) (Or.inl ⟨by rfl, by intro w hSw; go_simp⟩) (by assumption) ?_
    simp only [Act.put, List.setIfInBounds_toArray, List.set_cons_zero, List.set_cons_succ]
    refine wpAnyH_take (i := 6) (oi := { dst := some 41, op := Op.fieldAddr 72 (Operand.tmp 5) 3, type := 0, pos := "law.go:157", after := #[], guard := none }) (v := .pointer (some ⟨g3, 3, none⟩)) rfl (by kernel_rfl) (by kernel_rfl) (by kernel_rfl) (fun _ _ _ h => h) (Or.inl ⟨by rfl, by intro w hSw; go_simp⟩) (by assumption) ?_
    simp only [Act.put, List.setIfInBounds_toArray, List.set_cons_zero, List.set_cons_succ]
    refine wpAnyH_take (i := 7) (oi := { dst := some 42, op := Op.load 23 (Operand.tmp 41), type := 23, pos := "law.go:157", after := #[{ on := 6, ground := Ground.data }], guard := none }) (v := .agg #[.bool q.s, .int .i64 q.p]) rfl (by kernel_rfl) (by kernel_rfl) (by kernel_rfl) (fun _ _ _ h => h) (yieldsIf_load_mid (by rfl) _ _ rfl _ _ rfl _ _ (fun w hSw => (Cel.rangeF hSw.2)) under23 rfl size23) (by assumption) ?_
    simp only [Act.put, List.setIfInBounds_toArray, List.set_cons_zero, List.set_cons_succ]
    refine wpAnyH_ready (rs := [3]) (by kernel_rfl) (by simp) (AllReadyH.cons (o := { dst := some 38, op := Op.call { callee := Callee.value (Operand.func 13), args := #[Operand.tmp 35, Operand.tmp 37], argTypes := #[25, 23] }, type := 26, pos := "law.go:157", after := #[{ on := 0, ground := Ground.data }, { on := 2, ground := Ground.data }], guard := none }) rfl (fun KQ hK => ?_) AllReadyH.nil)
    go_simp
    refine (zero_any _ (f i) (m i) (((HSB.out.on (Below.refl _ _).drew)).bn.mem i hi) q.s q.p).mono ?_
    rintro x wA ⟨rfl, hmA, hbA⟩
    have sbA := ((HSB.out.on (Below.refl _ _).drew)).fst i hi hbA hmA (len_zero _ _ _)
    go_wp2_with fail
    refine hK.out _ _ sbA.s (fun hHeld => ?_)
    clear hK KQ
    try simp only [Act.put, List.setIfInBounds_toArray, List.set_cons_zero, List.set_cons_succ]
    refine wpAnyH_ready (rs := [4]) (by kernel_rfl) (by simp) (AllReadyH.cons (o := { dst := some 39, op := Op.call { callee := Callee.value (Operand.func 8), args := #[Operand.tmp 38], argTypes := #[26] }, type := 3, pos := "law.go:157", after := #[{ on := 3, ground := Ground.data }, { on := 3, ground := Ground.chain }], guard := none }) rfl (fun KQ hK => ?_) AllReadyH.nil)
    go_simp
    refine (num_any _ _).mono ?_
    rintro x wn ⟨rfl, rfl⟩
    go_wp2_with fail
    refine hK.out _ _ sbA.s (fun hHeld => ?_)
    clear hK KQ
    try simp only [Act.put, List.setIfInBounds_toArray, List.set_cons_zero, List.set_cons_succ]
    refine wpAnyH_ready (rs := [8]) (by kernel_rfl) (by simp) (AllReadyH.cons (o := { dst := some 43, op := Op.call { callee := Callee.value (Operand.func 42), args := #[Operand.tmp 42], argTypes := #[23] }, type := 95, pos := "law.go:157", after := #[{ on := 7, ground := Ground.data }, { on := 4, ground := Ground.chain }], guard := none }) rfl (fun KQ hK => ?_) AllReadyH.nil)
    go_simp
    refine (doc_any _ q.s q.p).mono ?_
    rintro x wB ⟨rfl, hbB⟩
    have sbB := (sbA).on hbB
    simp only [fr]
    go_wp2_with fail
    refine hK.out _ _ sbB.s (fun hHeld => ?_)
    clear hK KQ
    try simp only [Act.put, List.setIfInBounds_toArray, List.set_cons_zero, List.set_cons_succ]
    refine wpAnyH_ready (rs := [9]) (by kernel_rfl) (by simp) (AllReadyH.cons (o := { dst := some 44, op := Op.call { callee := Callee.value (Operand.func 54), args := #[Operand.tmp 40, Operand.tmp 43], argTypes := #[64, 95] }, type := 3, pos := "law.go:157", after := #[{ on := 5, ground := Ground.data }, { on := 8, ground := Ground.data }, { on := 8, ground := Ground.chain }], guard := none }) rfl (fun KQ hK => ?_) AllReadyH.nil)
    go_simp
    refine (rzero_any _ (r i) (m i) ((sbB).bn.rmem i hi) q.s q.p).mono ?_
    rintro x wC ⟨rfl, rC, hrC⟩
    have sbC := (sbB).rst i hi hrC (len_zero _ _ _)
    go_wp2_with fail
    refine hK.out _ _ sbC.s (fun hHeld => ?_)
    clear hK KQ
    try simp only [Act.put, List.setIfInBounds_toArray, List.set_cons_zero, List.set_cons_succ]
    refine wpAnyH_take (i := 10) (oi := { dst := some 45, op := Op.binOp BinOp.eql 3 (Operand.tmp 39) (Operand.tmp 44) 3, type := 4, pos := "law.go:157", after := #[{ on := 4, ground := Ground.data }, { on := 9, ground := Ground.data }], guard := none }) (v := .bool true) rfl (by kernel_rfl) (by kernel_rfl) (by kernel_rfl) (fun _ _ _ h => h) (Or.inl ⟨by rfl, by intro w hSw; go_simp⟩) (by assumption) ?_
    simp only [Act.put, List.setIfInBounds_toArray, List.set_cons_zero, List.set_cons_succ]
    refine wpAnyH_ready (rs := [11]) (by kernel_rfl) (by simp) (AllReadyH.cons (o := { dst := some 6, op := Op.assign (Operand.tmp 45), type := 4, pos := "law.go:157", after := #[{ on := 10, ground := Ground.data }, { on := 9, ground := Ground.chain }, { on := 0, ground := Ground.phase }, { on := 1, ground := Ground.phase }, { on := 2, ground := Ground.phase }, { on := 3, ground := Ground.phase }, { on := 4, ground := Ground.phase }, { on := 5, ground := Ground.phase }, { on := 6, ground := Ground.phase }, { on := 7, ground := Ground.phase }, { on := 8, ground := Ground.phase }, { on := 9, ground := Ground.phase }, { on := 10, ground := Ground.phase }], guard := none }) rfl (fun KQ hK => ?_) AllReadyH.nil)
    go_simp
    refine hK.out _ _ sbC.s (fun hHeld => ?_)
    clear hK KQ
    try simp only [Act.put, List.setIfInBounds_toArray, List.set_cons_zero, List.set_cons_succ]
    refine wpAnyH_done (by kernel_rfl) ?_ _
    clear hHeld
    have HFIN := hid sbC
    go_wp2_with fail
    go_ret
    exact ⟨by simp, _, _, _, _, lv, HFIN.out.bn, by omega, H4.out⟩
  by_cases k5 : q.k = 5
  · rw [k5] at y0'
    go_wp2_with fail
    generalize wr.alloc _ = X at *
    clear y0' y1 y2
    generalize wr.heap.size = g3 at *
    refine wp_region_held_drew (S := SS gb (benC f r vL) g3 q) (by kernel_rfl) (HSB.out.on (Below.refl _ _).drew).s (fun hHeld => ?_)
    refine wpAnyH_take (i := 0) (oi := { dst := some 48, op := Op.move (Operand.tmp 7), type := 25, pos := "law.go:159", after := #[], guard := none }) (v := .pointer (some ⟨(f i).gm, 0, none⟩)) rfl (by kernel_rfl) (by kernel_rfl) (by kernel_rfl) (fun _ _ _ h => h) (Or.inl ⟨by rfl, by intro w hSw; go_simp⟩) (by assumption) ?_
    simp only [Act.put, List.setIfInBounds_toArray, List.set_cons_zero, List.set_cons_succ]
    refine wpAnyH_take (i := 1) (oi := { dst := some 49, op := Op.fieldAddr 72 (Operand.tmp 5) 3, type := 0, pos := "law.go:159", after := #[], guard := none }) (v := .pointer (some ⟨g3, 3, none⟩)) rfl (by kernel_rfl) (by kernel_rfl) (by kernel_rfl) (fun _ _ _ h => h) (Or.inl ⟨by rfl, by intro w hSw; go_simp⟩) (by assumption) ?_
    simp only [Act.put, List.setIfInBounds_toArray, List.set_cons_zero, List.set_cons_succ]
    refine wpAnyH_take (i := 2) (oi := { dst := some 50, op := Op.load 23 (Operand.tmp 49), type := 23, pos := "law.go:159", after := #[{ on := 1, ground := Ground.data }], guard := none }) (v := .agg #[.bool q.s, .int .i64 q.p]) rfl (by kernel_rfl) (by kernel_rfl) (by kernel_rfl) (fun _ _ _ h => h) (yieldsIf_load_mid (by rfl) _ _ rfl _ _ rfl _ _ (fun w hSw => (Cel.rangeF hSw.2)) under23 rfl size23) (by assumption) ?_
    simp only [Act.put, List.setIfInBounds_toArray, List.set_cons_zero, List.set_cons_succ]
    refine wpAnyH_take (i := 3) (oi := { dst := some 51, op := Op.fieldAddr 72 (Operand.tmp 5) 4, type := 0, pos := "law.go:159", after := #[], guard := none }) (v := .pointer (some ⟨g3, 5, none⟩)) rfl (by kernel_rfl) (by kernel_rfl) (by kernel_rfl) (fun _ _ _ h => h) (Or.inl ⟨by rfl, by intro w hSw; go_simp⟩) (by assumption) ?_
    simp only [Act.put, List.setIfInBounds_toArray, List.set_cons_zero, List.set_cons_succ]
    refine wpAnyH_take (i := 4) (oi := { dst := some 52, op := Op.load 23 (Operand.tmp 51), type := 23, pos := "law.go:159", after := #[{ on := 3, ground := Ground.data }], guard := none }) (v := .agg #[.bool q.t, .int .i64 q.u]) rfl (by kernel_rfl) (by kernel_rfl) (by kernel_rfl) (fun _ _ _ h => h) (yieldsIf_load_mid (by rfl) _ _ rfl _ _ rfl _ _ (fun w hSw => (Cel.rangeG hSw.2)) under23 rfl size23) (by assumption) ?_
    simp only [Act.put, List.setIfInBounds_toArray, List.set_cons_zero, List.set_cons_succ]
    refine wpAnyH_take (i := 7) (oi := { dst := some 55, op := Op.move (Operand.tmp 8), type := 64, pos := "law.go:159", after := #[], guard := none }) (v := .pointer (some ⟨(r i).g, 0, none⟩)) rfl (by kernel_rfl) (by kernel_rfl) (by kernel_rfl) (fun _ _ _ h => h) (Or.inl ⟨by rfl, by intro w hSw; go_simp⟩) (by assumption) ?_
    simp only [Act.put, List.setIfInBounds_toArray, List.set_cons_zero, List.set_cons_succ]
    refine wpAnyH_take (i := 8) (oi := { dst := some 56, op := Op.fieldAddr 72 (Operand.tmp 5) 3, type := 0, pos := "law.go:159", after := #[], guard := none }) (v := .pointer (some ⟨g3, 3, none⟩)) rfl (by kernel_rfl) (by kernel_rfl) (by kernel_rfl) (fun _ _ _ h => h) (Or.inl ⟨by rfl, by intro w hSw; go_simp⟩) (by assumption) ?_
    simp only [Act.put, List.setIfInBounds_toArray, List.set_cons_zero, List.set_cons_succ]
    refine wpAnyH_take (i := 9) (oi := { dst := some 57, op := Op.load 23 (Operand.tmp 56), type := 23, pos := "law.go:159", after := #[{ on := 8, ground := Ground.data }], guard := none }) (v := .agg #[.bool q.s, .int .i64 q.p]) rfl (by kernel_rfl) (by kernel_rfl) (by kernel_rfl) (fun _ _ _ h => h) (yieldsIf_load_mid (by rfl) _ _ rfl _ _ rfl _ _ (fun w hSw => (Cel.rangeF hSw.2)) under23 rfl size23) (by assumption) ?_
    simp only [Act.put, List.setIfInBounds_toArray, List.set_cons_zero, List.set_cons_succ]
    refine wpAnyH_take (i := 11) (oi := { dst := some 59, op := Op.fieldAddr 72 (Operand.tmp 5) 4, type := 0, pos := "law.go:159", after := #[], guard := none }) (v := .pointer (some ⟨g3, 5, none⟩)) rfl (by kernel_rfl) (by kernel_rfl) (by kernel_rfl) (fun _ _ _ h => h) (Or.inl ⟨by rfl, by intro w hSw; go_simp⟩) (by assumption) ?_
    simp only [Act.put, List.setIfInBounds_toArray, List.set_cons_zero, List.set_cons_succ]
    refine wpAnyH_take (i := 12) (oi := { dst := some 60, op := Op.load 23 (Operand.tmp 59), type := 23, pos := "law.go:159", after := #[{ on := 11, ground := Ground.data }], guard := none }) (v := .agg #[.bool q.t, .int .i64 q.u]) rfl (by kernel_rfl) (by kernel_rfl) (by kernel_rfl) (fun _ _ _ h => h) (yieldsIf_load_mid (by rfl) _ _ rfl _ _ rfl _ _ (fun w hSw => (Cel.rangeG hSw.2)) under23 rfl size23) (by assumption) ?_
    simp only [Act.put, List.setIfInBounds_toArray, List.set_cons_zero, List.set_cons_succ]
    refine wpAnyH_ready (rs := [5]) (by kernel_rfl) (by simp) (AllReadyH.cons (o := { dst := some 53, op := Op.call { callee := Callee.value (Operand.func 14), args := #[Operand.tmp 48, Operand.tmp 50, Operand.tmp 52], argTypes := #[25, 23, 23] }, type := 26, pos := "law.go:159", after := #[{ on := 0, ground := Ground.data }, { on := 2, ground := Ground.data }, { on := 4, ground := Ground.data }], guard := none }) rfl (fun KQ hK => ?_) AllReadyH.nil)
    go_simp
    refine (copy_any _ (f i) (m i) (((HSB.out.on (Below.refl _ _).drew)).bn.mem i hi) q.s q.p q.t q.u).mono ?_
    rintro x wA ⟨rfl, hmA, hbA⟩
    have sbA := ((HSB.out.on (Below.refl _ _).drew)).fst i hi hbA hmA (len_copy _ _ _ _ _)
    go_wp2_with fail
    refine hK.out _ _ sbA.s (fun hHeld => ?_)
    clear hK KQ
    try simp only [Act.put, List.setIfInBounds_toArray, List.set_cons_zero, List.set_cons_succ]
    refine wpAnyH_ready (rs := [6]) (by kernel_rfl) (by simp) (AllReadyH.cons (o := { dst := some 54, op := Op.call { callee := Callee.value (Operand.func 8), args := #[Operand.tmp 53], argTypes := #[26] }, type := 3, pos := "law.go:159", after := #[{ on := 5, ground := Ground.data }, { on := 5, ground := Ground.chain }], guard := none }) rfl (fun KQ hK => ?_) AllReadyH.nil)
    go_simp
    refine (num_any _ _).mono ?_
    rintro x wn ⟨rfl, rfl⟩
    go_wp2_with fail
    refine hK.out _ _ sbA.s (fun hHeld => ?_)
    clear hK KQ
    try simp only [Act.put, List.setIfInBounds_toArray, List.set_cons_zero, List.set_cons_succ]
    refine wpAnyH_ready (rs := [10]) (by kernel_rfl) (by simp) (AllReadyH.cons (o := { dst := some 58, op := Op.call { callee := Callee.value (Operand.func 42), args := #[Operand.tmp 57], argTypes := #[23] }, type := 95, pos := "law.go:159", after := #[{ on := 9, ground := Ground.data }, { on := 6, ground := Ground.chain }], guard := none }) rfl (fun KQ hK => ?_) AllReadyH.nil)
    go_simp
    refine (doc_any _ q.s q.p).mono ?_
    rintro x wB ⟨rfl, hbB⟩
    have sbB := (sbA).on hbB
    simp only [fr]
    go_wp2_with fail
    refine hK.out _ _ sbB.s (fun hHeld => ?_)
    clear hK KQ
    try simp only [Act.put, List.setIfInBounds_toArray, List.set_cons_zero, List.set_cons_succ]
    refine wpAnyH_ready (rs := [13]) (by kernel_rfl) (by simp) (AllReadyH.cons (o := { dst := some 61, op := Op.call { callee := Callee.value (Operand.func 42), args := #[Operand.tmp 60], argTypes := #[23] }, type := 95, pos := "law.go:159", after := #[{ on := 12, ground := Ground.data }, { on := 10, ground := Ground.chain }], guard := none }) rfl (fun KQ hK => ?_) AllReadyH.nil)
    go_simp
    refine (doc_any _ q.t q.u).mono ?_
    rintro x wD ⟨rfl, hbD⟩
    have sbD := (sbB).on hbD
    simp only [fr]
    go_wp2_with fail
    refine hK.out _ _ sbD.s (fun hHeld => ?_)
    clear hK KQ
    try simp only [Act.put, List.setIfInBounds_toArray, List.set_cons_zero, List.set_cons_succ]
    refine wpAnyH_ready (rs := [14]) (by kernel_rfl) (by simp) (AllReadyH.cons (o := { dst := some 62, op := Op.call { callee := Callee.value (Operand.func 55), args := #[Operand.tmp 55, Operand.tmp 58, Operand.tmp 61], argTypes := #[64, 95, 95] }, type := 3, pos := "law.go:159", after := #[{ on := 7, ground := Ground.data }, { on := 10, ground := Ground.data }, { on := 13, ground := Ground.data }, { on := 13, ground := Ground.chain }], guard := none }) rfl (fun KQ hK => ?_) AllReadyH.nil)
    go_simp
    refine (rcopy_any _ (r i) (m i) ((sbD).bn.rmem i hi) q.s q.p q.t q.u).mono ?_
    rintro x wC ⟨rfl, rC, hrC⟩
    have sbC := (sbD).rst i hi hrC (len_copy _ _ _ _ _)
    go_wp2_with fail
    refine hK.out _ _ sbC.s (fun hHeld => ?_)
    clear hK KQ
    try simp only [Act.put, List.setIfInBounds_toArray, List.set_cons_zero, List.set_cons_succ]
    refine wpAnyH_take (i := 15) (oi := { dst := some 63, op := Op.binOp BinOp.eql 3 (Operand.tmp 54) (Operand.tmp 62) 3, type := 4, pos := "law.go:159", after := #[{ on := 6, ground := Ground.data }, { on := 14, ground := Ground.data }], guard := none }) (v := .bool true) rfl (by kernel_rfl) (by kernel_rfl) (by kernel_rfl) (fun _ _ _ h => h) (Or.inl ⟨by rfl, by intro w hSw; go_simp⟩) (by assumption) ?_
    simp only [Act.put, List.setIfInBounds_toArray, List.set_cons_zero, List.set_cons_succ]
    refine wpAnyH_ready (rs := [16]) (by kernel_rfl) (by simp) (AllReadyH.cons (o := { dst := some 6, op := Op.assign (Operand.tmp 63), type := 4, pos := "law.go:159", after := #[{ on := 15, ground := Ground.data }, { on := 14, ground := Ground.chain }, { on := 0, ground := Ground.phase }, { on := 1, ground := Ground.phase }, { on := 2, ground := Ground.phase }, { on := 3, ground := Ground.phase }, { on := 4, ground := Ground.phase }, { on := 5, ground := Ground.phase }, { on := 6, ground := Ground.phase }, { on := 7, ground := Ground.phase }, { on := 8, ground := Ground.phase }, { on := 9, ground := Ground.phase }, { on := 10, ground := Ground.phase }, { on := 11, ground := Ground.phase }, { on := 12, ground := Ground.phase }, { on := 13, ground := Ground.phase }, { on := 14, ground := Ground.phase }, { on := 15, ground := Ground.phase }], guard := none }) rfl (fun KQ hK => ?_) AllReadyH.nil)
    go_simp
    refine hK.out _ _ sbC.s (fun hHeld => ?_)
    clear hK KQ
    try simp only [Act.put, List.setIfInBounds_toArray, List.set_cons_zero, List.set_cons_succ]
    refine wpAnyH_done (by kernel_rfl) ?_ _
    clear hHeld
    have HFIN := hid sbC
    go_wp2_with fail
    go_ret
    exact ⟨by simp, _, _, _, _, lv, HFIN.out.bn, by omega, H4.out⟩
  by_cases k6 : q.k = 6
  · rw [k6] at y0'
    have HPE : Hid (((m i).tk q.s q.p 1024).perr q.s q.p = (m i).perr q.s q.p) := hid (by unfold MS.perr; rw [tk_at])
    have HFL : Hid (∀ k, (m i).at q.s q.p = some k → ((m i).p k).length = 1024) := hid (fun k hk => (HSB.out.bn.mem i hi).full k (MS.at_lt (HSB.out.bn.mem i hi).ns0 hk))
    cases hat : (m i).at q.s q.p with
    | none =>
      have HAT := hid hat
      clear hat HFL
      have HR := hid HSB.out.box.rangeF
      go_wp2_with (first | (refine wpList_load_mid rfl 23 _ rfl wr.heap.size 3 rfl [.bool q.s, .int .i64 q.p] _ HR.out under23 rfl size23 ?_))
      refine (page_any _ (f i) (m i) (HSB.out.bn.mem i hi) q.s q.p).mono ?_
      rintro x wA ⟨v1, rfl, hv1, hm1, hb1⟩
      have SA := hid (HSB.out.fst i hi hb1 hm1 (len_tk _ _ _ _))
      unfold PageIs at hv1
      rw [HAT.out] at hv1
      subst hv1
      clear hm1 hb1 HR
      clear y1 y2
      have HR := hid SA.out.box.rangeF
      go_wp2_with (first | (refine wpList_load_mid rfl 23 _ rfl wr.heap.size 3 rfl [.bool q.s, .int .i64 q.p] _ HR.out under23 rfl size23 ?_))
      refine (doc_any _ q.s q.p).mono ?_
      rintro x wB ⟨rfl, hbd⟩
      have SBb := hid (SA.out.on hbd)
      simp only [fr]
      clear hbd HR
      go_wp2_with fail
      refine (rpage_any _ (r i) (m i) (SBb.out.bn.rmem i hi) q.s q.p).mono ?_
      rintro x wC ⟨v2, rfl, hv2, hr2⟩
      have SC := hid (SBb.out.rst i hi hr2 (len_tk _ _ _ _))
      rw [upd_id] at SC
      unfold PageIs at hv2
      rw [HAT.out] at hv2
      subst hv2
      clear hr2
      have HR := hid SC.out.box.rangeF
      go_wp2_with (first | (refine wpList_load_mid rfl 23 _ rfl wr.heap.size 3 rfl [.bool q.s, .int .i64 q.p] _ HR.out under23 rfl size23 ?_))
      have hM3 := SC.out.bn.mem i hi
      rw [upd_same] at hM3
      refine (page_any _ (f i) _ hM3 q.s q.p).mono ?_
      rintro x wD ⟨v3, rfl, hv3, hm3, hb3⟩
      have SD := hid (SC.out.fst i hi hb3 hm3 (by rw [upd_same]; exact len_tk _ _ _ _))
      rw [HPE.out]
      unfold PageIs at hv3
      rw [tk_at, HAT.out] at hv3
      subst hv3
      clear hm3 hb3 hM3 HR
      have HR := hid SD.out.box.rangeF
      go_wp2_with (first | (refine wpList_load_mid rfl 23 _ rfl wr.heap.size 3 rfl [.bool q.s, .int .i64 q.p] _ HR.out under23 rfl size23 ?_))
      refine (doc_any _ q.s q.p).mono ?_
      rintro x wE ⟨rfl, hbd⟩
      have SE := hid (SD.out.on hbd)
      simp only [fr]
      clear hbd HR
      go_wp2_with fail
      have hM4 := SE.out.bn.rmem i hi
      rw [upd_same] at hM4
      refine (rpage_any _ (r i) _ hM4 q.s q.p).mono ?_
      rintro x wF ⟨v4, rfl, hv4, hr4⟩
      have SF := hid (SE.out.rst i hi hr4 (by rw [upd_same]; exact len_tk _ _ _ _))
      rw [upd_id] at SF
      rw [HPE.out]
      clear hr4 hM4 hv4
      go_wp2_with fail
      have SM1 := lsame_self wF none none [] (.inl rfl) (.inl rfl) 0 0 (by decide)
      refine SM1.mono ?_
      rintro x wG ⟨rfl, hbG⟩
      have SG := hid (SF.out.on hbG)
      clear hbG SM1
      go_wp2_with fail
      refine (num_any _ _).mono ?_
      rintro x wn ⟨rfl, rfl⟩
      go_wp2_with fail
      have SM2 := lsame_self wn none none [] (.inl rfl) (.inl rfl) 0 0 (by decide)
      refine SM2.mono ?_
      rintro x wH ⟨rfl, hbH⟩
      have SH := hid (SG.out.on hbH)
      clear hbH SM2
      go_wp2_with fail
      refine (num_any _ _).mono ?_
      rintro x wn ⟨rfl, rfl⟩
      go_wp2_with fail
      refine (hold_nil SH.out.bn H4.out HN.out).mono ?_
      rintro x wI ⟨rfl, vL2, lv2, hb2, hl2⟩
      have HFIN := hid hb2
      have HLL := hid hl2
      clear hb2 hl2
      go_wp2_with fail
      go_ret
      exact ⟨rfl, _, _, _, _, lv2, HFIN.out, by have := HLL.out; omega, by have := HLL.out; have := H4.out; omega⟩
    | some k =>
      have HAT := hid hat
      rw [hat] at HFL
      clear hat
      have HR := hid HSB.out.box.rangeF
      go_wp2_with (first | (refine wpList_load_mid rfl 23 _ rfl wr.heap.size 3 rfl [.bool q.s, .int .i64 q.p] _ HR.out under23 rfl size23 ?_))
      refine (page_any _ (f i) (m i) (HSB.out.bn.mem i hi) q.s q.p).mono ?_
      rintro x wA ⟨v1, rfl, hv1, hm1, hb1⟩
      have SA := hid (HSB.out.fst i hi hb1 hm1 (len_tk _ _ _ _))
      unfold PageIs at hv1
      rw [HAT.out] at hv1
      obtain ⟨g1, hg1, rfl, hc1⟩ := hv1
      have A1 : Hid (LS wA W r lv g1 ((m i).p k)) := hid ⟨hc1, HSB.out.bn.loose hc1.tyAt hg1⟩
      clear hc1 hg1 hm1 hb1 HR
      clear y1 y2
      have HR := hid SA.out.box.rangeF
      go_wp2_with (first | (refine wpList_load_mid rfl 23 _ rfl wr.heap.size 3 rfl [.bool q.s, .int .i64 q.p] _ HR.out under23 rfl size23 ?_))
      refine (doc_any _ q.s q.p).mono ?_
      rintro x wB ⟨rfl, hbd⟩
      have SBb := hid (SA.out.on hbd)
      simp only [fr]
      have A2 := hid (A1.out.on hbd)
      clear hbd HR
      go_wp2_with fail
      refine (rpage_any _ (r i) (m i) (SBb.out.bn.rmem i hi) q.s q.p).mono ?_
      rintro x wC ⟨v2, rfl, hv2, hr2⟩
      have SC := hid (SBb.out.rst i hi hr2 (len_tk _ _ _ _))
      rw [upd_id] at SC
      unfold PageIs at hv2
      rw [HAT.out] at hv2
      obtain ⟨g2, hg2, rfl, hc2⟩ := hv2
      have B1 : Hid (LS wC W r lv g2 ((m i).p k)) := hid ⟨hc2, SBb.out.bn.loose hc2.tyAt hg2⟩
      have A3 := hid (A2.out.r i hi hr2.but)
      clear hc2 hg2 hr2
      have HR := hid SC.out.box.rangeF
      go_wp2_with (first | (refine wpList_load_mid rfl 23 _ rfl wr.heap.size 3 rfl [.bool q.s, .int .i64 q.p] _ HR.out under23 rfl size23 ?_))
      have hM3 := SC.out.bn.mem i hi
      rw [upd_same] at hM3
      refine (page_any _ (f i) _ hM3 q.s q.p).mono ?_
      rintro x wD ⟨v3, rfl, hv3, hm3, hb3⟩
      have SD := hid (SC.out.fst i hi hb3 hm3 (by rw [upd_same]; exact len_tk _ _ _ _))
      rw [HPE.out]
      unfold PageIs at hv3
      rw [tk_at, HAT.out] at hv3
      obtain ⟨g3p, hg3p, rfl, hc3⟩ := hv3
      rw [tk_p] at hc3
      have C1 : Hid (LS wD W r lv g3p ((m i).p k)) := hid ⟨hc3, SC.out.bn.loose hc3.tyAt hg3p⟩
      have A4 := hid (A3.out.f SC.out.bn i hi hb3)
      have B2 := hid (B1.out.f SC.out.bn i hi hb3)
      have NE : Hid (g1 ≠ g3p) := hid (by have := A3.out.1.lt; omega)
      clear hc3 hg3p hm3 hb3 hM3 HR
      have HR := hid SD.out.box.rangeF
      go_wp2_with (first | (refine wpList_load_mid rfl 23 _ rfl wr.heap.size 3 rfl [.bool q.s, .int .i64 q.p] _ HR.out under23 rfl size23 ?_))
      refine (doc_any _ q.s q.p).mono ?_
      rintro x wE ⟨rfl, hbd⟩
      have SE := hid (SD.out.on hbd)
      simp only [fr]
      have A5 := hid (A4.out.on hbd)
      have B3 := hid (B2.out.on hbd)
      have C2 := hid (C1.out.on hbd)
      clear hbd HR
      go_wp2_with fail
      have hM4 := SE.out.bn.rmem i hi
      rw [upd_same] at hM4
      refine (rpage_any _ (r i) _ hM4 q.s q.p).mono ?_
      rintro x wF ⟨v4, rfl, hv4, hr4⟩
      have SF := hid (SE.out.rst i hi hr4 (by rw [upd_same]; exact len_tk _ _ _ _))
      rw [upd_id] at SF
      have A6 := hid (A5.out.r i hi hr4.but)
      have B4 := hid (B3.out.r i hi hr4.but)
      have C3 := hid (C2.out.r i hi hr4.but)
      rw [HPE.out]
      clear hr4 hM4 hv4
      go_wp2_with fail
      have HLN := HFL.out k rfl
      have SM1 := lsame_self wF (some ⟨g1, 0, none⟩) (some ⟨g2, 0, none⟩) ((m i).p k) A6.out.src B4.out.src 1024 1024 (by rw [HLN]; decide)
      rw [HLN] at SM1
      refine SM1.mono ?_
      rintro x wG ⟨rfl, hbG⟩
      have SG := hid (SF.out.on hbG)
      have A7 := hid (A6.out.on hbG)
      have B5 := hid (B4.out.on hbG)
      have C4 := hid (C3.out.on hbG)
      clear hbG SM1
      go_wp2_with fail
      refine (num_any _ _).mono ?_
      rintro x wn ⟨rfl, rfl⟩
      go_wp2_with fail
      have SM2 := lsame_self _ (some ⟨g3p, 0, none⟩) (some ⟨g2, 0, none⟩) ((m i).p k) C4.out.src B5.out.src 1024 1024 (by rw [HLN]; decide)
      rw [HLN] at SM2
      refine SM2.mono ?_
      rintro x wH ⟨rfl, hbH⟩
      have SH := hid (SG.out.on hbH)
      have A8 := hid (A7.out.on hbH)
      have C5 := hid (C4.out.on hbH)
      clear hbH SM2
      go_wp2_with fail
      refine (num_any _ _).mono ?_
      rintro x wn ⟨rfl, rfl⟩
      go_wp2_with fail
      refine (hold_blk SH.out.bn H4.out HN.out g1 g3p ⟨⟨_, HLN, A8.out.1⟩, A8.out.2⟩ ⟨⟨_, HLN, C5.out.1⟩, C5.out.2⟩ NE.out).mono ?_
      rintro x wI ⟨rfl, vL2, lv2, hb2, hl2⟩
      have HFIN := hid hb2
      have HLL := hid hl2
      clear hb2 hl2
      go_wp2_with fail
      go_ret
      exact ⟨rfl, _, _, _, _, lv2, HFIN.out, by have := HLL.out; omega, by have := HLL.out; have := H4.out; omega⟩
  by_cases k7 : q.k = 7
  · rw [k7] at y0'
    have HR : Hid ((wr.alloc (.cells qa 72)).rangeAt wr.heap.size 0 q.cs) := hid HSB.out.box.range
    go_wp2_with (first | (refine wpList_load_mid rfl 72 _ rfl wr.heap.size 0 rfl q.cs _ HR.out under72 rfl size72 ?_))
    refine (HLY.out _ _ _ _ _ _ _ _ HSB.out.bn H4.out q HQ.out i hi).mono ?_
    rintro x w2 ⟨rfl, hst⟩
    have HST := hid hst
    clear hst
    go_wp2_with fail
    go_ret
    exact ⟨rfl, HST.out⟩
  have HR := hid HSB.out.box.rangeF
  go_wp2_with (first | (refine wpList_load_mid rfl 23 _ rfl wr.heap.size 3 rfl [.bool q.s, .int .i64 q.p] _ HR.out under23 rfl size23 ?_))
  refine (blank_any _ (f i) (m i) (HSB.out.bn.mem i hi) q.s q.p).mono ?_
  rintro x wA ⟨rfl, hm1, hb1⟩
  have SA := hid (HSB.out.fst i hi hb1 hm1 (len_tk _ _ _ _))
  clear hm1 hb1 HR y1 y2 y0'
  have HR := hid SA.out.box.rangeF
  go_wp2_with (first | (refine wpList_load_mid rfl 23 _ rfl wr.heap.size 3 rfl [.bool q.s, .int .i64 q.p] _ HR.out under23 rfl size23 ?_))
  refine (doc_any _ q.s q.p).mono ?_
  rintro x wB ⟨rfl, hbd⟩
  have SBb := hid (SA.out.on hbd)
  simp only [fr]
  clear hbd HR
  go_wp2_with fail
  refine (rblank_any _ (r i) (m i) (SBb.out.bn.rmem i hi) q.s q.p).mono ?_
  rintro x wC ⟨rfl, hr2⟩
  have SC := hid (SBb.out.rst i hi hr2 (len_tk _ _ _ _))
  clear hr2
  go_wp2_with fail
  refine (num_any _ _).mono ?_
  rintro x wn ⟨rfl, rfl⟩
  go_wp2_with fail
  go_ret
  exact ⟨by simp, _, _, _, _, lv, SC.out.bn, by omega, H4.out⟩

end Go.Proofs.Ytnmdhnbgikbpoaa
