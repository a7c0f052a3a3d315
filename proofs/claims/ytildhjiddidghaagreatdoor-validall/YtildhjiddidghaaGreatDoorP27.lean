import Derived.Test.YtildhjiddidghaaGreatDoorP26
import Derived.Test.YtildhjiddidghaaGreatDoorP08
import Derived.Test.YtildhjiddidghaaGreatDoorP23
import Derived.Test.YtildhjiddidghaaGreatDoorP15
import Derived.Laws.BitsAllLaws
namespace Go.Proofs.YtildhjiddidghaaGreatDoor
open Go.RowKit
set_option maxHeartbeats 4000000
set_option maxRecDepth 100000
def MS.U (m : MS) : Prop := ∀ k j, 0 ≤ wd (m.p k) j ∧ wd (m.p k) j < 4294967296
theorem MS.U.word {m : MS} (h : m.U) (s : Bool) (p off : Int) : 0 ≤ m.word s p off ∧ m.word s p off < 4294967296 := by
  unfold MS.word
  split
  · decide
  · split
    · exact h _ _
    · decide
def DS.w (d : DS) (k off : Nat) : Int := d.m.word true (k : Int) (off : Int)
def DS.like (d : DS) (k j : Nat) : Bool := ((d.at j).t == 1) && (d.w j 1 == d.w k 1)
def DS.born1 (d : DS) (k : Nat) : Bool := !((List.range k).any (d.like k)) && (decide (d.w k 1 < d.b) && decide (d.w k 2 ≤ 4096))
theorem any_yes {k j : Nat} {f : Nat → Bool} (h : j < k) (hf : f j = true) : (List.range k).any f = true := List.any_eq_true.2 ⟨j, List.mem_range.2 h, hf⟩
theorem any_no {k : Nat} {f : Nat → Bool} (h : ∀ j, j < k → f j = false) : (List.range k).any f = false := by
  rw [List.any_eq_false]
  intro j hj
  rw [h j (List.mem_range.1 hj)]
  decide
theorem bornAlone_v (w : World) (v : Vp) (p : Dp) (d : DS) (h : VS w v p d) (k : Nat) (hk : k < d.m.ns) :
    Calls Tryz.prog 99 #[.pointer (some ⟨v.g, 0, none⟩), .int .i64 (k : Int)] w fun e w' => e = .returned (.bool (d.born1 k)) ∧ Below w.heap.size w w' := by
  have HV := hid h
  have HW1 : Hid (∀ w (j : Nat), VS w v p d → Calls Tryz.prog 143 #[.pointer (some ⟨v.g, 0, none⟩), .int .i64 (j : Int), .int .i64 1] w fun e w' => e = .returned (.int .u32 (d.w j 1)) ∧ Below w.heap.size w w') := hid (fun w j h => word_v w v p d h (j : Int) 1)
  have HW2 : Hid (∀ w (j : Nat), VS w v p d → Calls Tryz.prog 143 #[.pointer (some ⟨v.g, 0, none⟩), .int .i64 (j : Int), .int .i64 2] w fun e w' => e = .returned (.int .u32 (d.w j 2)) ∧ Below w.heap.size w w') := hid (fun w j h => word_v w v p d h (j : Int) 2)
  have HBr := hid (fun w (h : VS w v p d) => births_any w p d h.db)
  have HC2 := hid (fun w (h : VS w v p d) => h.c2)
  have HC0 := hid (fun w (h : VS w v p d) => h.c0)
  have HRw := hid (fun w (h : VS w v p d) j hj => (h.row j hj).1)
  have n64 := h.db.ok.n64
  have HK := hid (And.intro hk n64)
  have b0 := h.db.ok.b0
  have b1 := h.db.ok.b1
  have wb : IntKind.wrap .u32 d.b = d.b := wr32 d.b b0 (by omega)
  have HBo : Hid (d.born1 k = (!((List.range k).any (d.like k)) && (decide (d.w k 1 < d.b) && decide (d.w k 2 ≤ 4096)))) := hid rfl
  have HLk : Hid (∀ j, d.like k j = (((d.at j).t == 1) && (d.w j 1 == d.w k 1))) := hid (fun _ => rfl)
  clear h hk n64
  generalize d.born1 k = z at *
  generalize hA : d.like k = A at *
  clear hA
  simp only [ptr] at *
  go_enter Tryz.func99, Tryz.ntmps99
  go_upto_region 3 with (go_at_call 143; refine (HW1.out _ k HV.out).mono ?_; rintro e w1 ⟨rfl, hb⟩; have B1 := hid hb; clear hb)
  generalize hu : d.w k 1 = u at *
  clear hu
  go_loopw [11] (fun i wr => ∃ j : Nat, j ≤ k ∧ i = .int .i64 (j : Int) ∧ Hid (Below w.heap.size w wr ∧ ∀ q, q < j → A q = false)) (fun i _ => k - (intOf i).toNat)
  case atStart => exact ⟨0, Nat.zero_le _, rfl, hid ⟨B1.out, by intro q hq; omega⟩⟩
  case round =>
    obtain ⟨j, hj, rfl, HQ⟩ := hrel
    clear B1
    have HVj := hid (HV.out.on HQ.out.1)
    have x2 := HC2.out _ HVj.out
    have hkn := HK.out
    by_cases hlt : j < k
    · have q1 : (j : Int) < (k : Int) := by omega
      have q2 : (j : Int) < (d.m.ns : Int) := by omega
      have q3 : (j : Int) ≤ 64 := by omega
      have x3 := HRw.out _ HVj.out j (by omega)
      have HLj := hid (HLk.out j)
      have HJ := hid hlt
      have HWj := hid (HW1.out · j ·)
      clear hlt hj hkn
      generalize d.m.ns = n at *
      generalize (d.at j).t = t at *
      generalize hy : d.w j 1 = y at *
      clear hy
      cases ht : (t == 1)
      · have hA : A j = false := by rw [HLj.out, ht]; rfl
        have HAj := hid hA
        clear hA
        go_wp2_with fail
        go_roundw
        case measure => have := HJ.out; simp [intOf] <;> omega
        case rel => exact ⟨j + 1, HJ.out, by simp, hid ⟨HQ.out.1, fun q hq => by
          by_cases e : q = j
          · rw [e]; exact HAj.out
          · exact HQ.out.2 q (by omega)⟩⟩
      · cases hyu : (y == u)
        · have hA : A j = false := by rw [HLj.out, ht, hyu]; rfl
          have HAj := hid hA
          clear hA
          go_wp2_with (go_at_call 143; refine (HWj.out _ HVj.out).mono ?_; rintro e w2 ⟨rfl, hb⟩; have B2 := hid (below_on HQ.out.1 hb); clear hb)
          go_roundw
          case measure => have := HJ.out; simp [intOf] <;> omega
          case rel => exact ⟨j + 1, HJ.out, by simp, hid ⟨B2.out, fun q hq => by
            by_cases e : q = j
            · rw [e]; exact HAj.out
            · exact HQ.out.2 q (by omega)⟩⟩
        · have hA : A j = true := by rw [HLj.out, ht, hyu]; rfl
          have HZ : Hid (z = false) := hid (by rw [HBo.out, any_yes HJ.out hA]; rfl)
          clear hA
          go_wp2_with (go_at_call 143; refine (HWj.out _ HVj.out).mono ?_; rintro e w2 ⟨rfl, hb⟩; have B2 := hid (below_on HQ.out.1 hb); clear hb)
          go_ret
          rw [HZ.out]
          exact ⟨rfl, B2.out⟩
    · have hjk : j = k := by omega
      have HZ : Hid (z = (decide (u < d.b) && decide (d.w k 2 ≤ 4096))) := hid (by rw [HBo.out, any_no (fun q hq => HQ.out.2 q (by omega))]; rfl)
      subst hjk
      have x0 := HC0.out _ HVj.out
      have HW3 := hid (HW2.out · j ·)
      clear hlt hj x2 hkn
      generalize d.w j 2 = y at *
      by_cases hub : u < d.b
      · rw [decide_eq_true hub, Bool.true_and] at HZ
        go_wp2_with (first | (go_at_call 110; refine (HBr.out _ HVj.out).mono ?_; rintro e wx ⟨rfl, hw⟩; subst wx) | (go_at_call 143; refine (HW3.out _ HVj.out).mono ?_; rintro e w2 ⟨rfl, hb⟩; have B2 := hid (below_on HQ.out.1 hb); clear hb))
        go_ret
        rw [HZ.out]
        exact ⟨rfl, B2.out⟩
      · rw [decide_eq_false hub, Bool.false_and] at HZ
        go_wp2_with (go_at_call 110; refine (HBr.out _ HVj.out).mono ?_; rintro e wx ⟨rfl, hw⟩; subst wx)
        go_ret
        rw [HZ.out]
        exact ⟨rfl, HQ.out.1⟩
theorem isMeasured_v (w : World) (v : Vp) (p : Dp) (d : DS) (h : VS w v p d) (q : Int) :
    Calls Tryz.prog 145 #[.pointer (some ⟨v.g, 0, none⟩), .int .i64 q] w fun e w' => e = .returned (.bool (d.zr q 11 37)) ∧ Below w.heap.size w w' := by
  have HZ := hid (isZero_v w v p d h q 11 37 (by decide) (by decide))
  clear h
  generalize d.zr q 11 37 = z at *
  go_enter Tryz.func145, Tryz.ntmps145
  go_wp2_with (go_at_call 141; refine HZ.out.mono ?_; rintro e w1 ⟨rfl, hb⟩; have HB := hid hb; clear hb)
  go_ret
  exact ⟨rfl, HB.out⟩
instance decLoad (ys : List Int) : Decidable (H.LoadOk ys) := by unfold H.LoadOk; infer_instance
def DS.inb (d : DS) (q : Int) : Bool := decide (H.LoadOk (d.wds q 11 26)) && d.zr q 3 11
theorem row_wds {w : World} {g : Nat} {L : List Int} (h : Cel w g 22 (u32s L)) : H.Row w .u32 g 0 L := fun i hi => by
  rw [Nat.zero_add, h.cell, u32s, List.getElem?_map, List.getElem?_eq_getElem hi, List.getD_eq_getElem?_getD, List.getElem?_eq_getElem hi]
  rfl
theorem DS.wds_len (d : DS) (q : Int) (lo n : Nat) : (d.wds q lo n).length = n := by simp [DS.wds]
theorem wds_rg {d : DS} (hu : d.m.U) (q : Int) (lo n : Nat) : H.Wds (d.wds q lo n) := fun i => by
  unfold DS.wds
  rw [List.getD_eq_getElem?_getD, List.getElem?_map]
  cases h : (List.range n)[i]? with
  | none => exact ⟨Int.le_refl 0, (by decide : (0 : Int) < 4294967296)⟩
  | some x => exact hu.word true q _
theorem isInBuilding_v (w : World) (v : Vp) (p : Dp) (d : DS) (h : VS w v p d) (hu : d.m.U) (q : Int) :
    Calls Tryz.prog 144 #[.pointer (some ⟨v.g, 0, none⟩), .int .i64 q] w fun e w' => e = .returned (.bool (d.inb q)) ∧ Below w.heap.size w w' := by
  have HV := hid h
  have HWd := hid (words_v w v p d h q 11 26 (by decide))
  have HZ := hid (fun w h => isZero_v w v p d h q 3 11 (by decide) (by decide))
  have HL := hid (d.wds_len q 11 26)
  have HR := hid (wds_rg hu q 11 26)
  unfold DS.inb
  clear h hu
  generalize d.zr q 3 11 = z at *
  generalize d.wds q 11 26 = ys at *
  by_cases hok : H.LoadOk ys
  · rw [decide_eq_true hok, Bool.true_and]
    have HLd : Hid (∀ w g, Cel w g 22 (u32s ys) → Calls Tryz.prog 166 #[.slice (some ⟨g, 0, none⟩) 26 26] w fun e W' => Below w.heap.size w W' ∧ ∃ g, e = .returned (.tuple #[.pointer (some ⟨g, 0, none⟩), .int .i64 0])) := hid (fun w g hc => (H.load_any w g 0 26 ys HL.out HR.out (row_wds hc) hc.lt (by decide)).mono (fun e W' h => ⟨h.1, by
      rcases h.2 with ⟨_, g, _, h3, _⟩ | ⟨h3, _⟩
      · exact ⟨g, h3⟩
      · exact absurd hok h3⟩))
    clear hok HL HR
    go_enter Tryz.func144, Tryz.ntmps144
    go_wp2_with (first | (go_at_call 137; refine HWd.out.mono ?_; rintro e w1 ⟨g, rfl, hc, _, hb⟩; have C1 := hid (And.intro hc hb); clear hc hb) | (go_at_call 166; refine (HLd.out _ _ C1.out.1).mono ?_; rintro e w2 ⟨hb, g2, rfl⟩; have B2 := hid (below_on C1.out.2 hb); clear hb) | (go_at_call 141; refine (HZ.out _ (HV.out.on B2.out)).mono ?_; rintro e w3 ⟨rfl, hb⟩; have B3 := hid (below_on B2.out hb); clear hb))
    go_ret
    exact ⟨by simp, B3.out⟩
  · rw [decide_eq_false hok, Bool.false_and]
    have HLd : Hid (∀ w g, Cel w g 22 (u32s ys) → Calls Tryz.prog 166 #[.slice (some ⟨g, 0, none⟩) 26 26] w fun e W' => Below w.heap.size w W' ∧ e = .returned (.tuple #[.pointer none, .int .i64 20])) := hid (fun w g hc => (H.load_any w g 0 26 ys HL.out HR.out (row_wds hc) hc.lt (by decide)).mono (fun e W' h => ⟨h.1, by
      rcases h.2 with ⟨h3, _⟩ | ⟨_, h3⟩
      · exact absurd h3 hok
      · exact h3⟩))
    clear hok HL HR
    go_enter Tryz.func144, Tryz.ntmps144
    go_wp2_with (first | (go_at_call 137; refine HWd.out.mono ?_; rintro e w1 ⟨g, rfl, hc, _, hb⟩; have C1 := hid (And.intro hc hb); clear hc hb) | (go_at_call 166; refine (HLd.out _ _ C1.out.1).mono ?_; rintro e w2 ⟨hb, rfl⟩; have B2 := hid (below_on C1.out.2 hb); clear hb))
    go_ret
    exact ⟨rfl, B2.out⟩
def DS.fits (d : DS) (k : Nat) : Bool := d.zr (k : Int) 37 1024 && (if (d.at k).s = 1 then d.inb (k : Int) else if (d.at k).s = 2 then d.zr (k : Int) 11 37 else d.inb (k : Int) || d.zr (k : Int) 11 37)
theorem fits_v (w : World) (v : Vp) (p : Dp) (d : DS) (h : VS w v p d) (hu : d.m.U) (k : Nat) (hk : k < d.m.ns) :
    Calls Tryz.prog 100 #[.pointer (some ⟨v.g, 0, none⟩), .int .i64 (k : Int)] w fun e w' => e = .returned (.bool (d.fits k)) ∧ Below w.heap.size w w' := by
  have HV := hid h
  have HZ := hid (isZero_v w v p d h (k : Int) 37 1024 (by decide) (by decide))
  have HI := hid (fun w h => isInBuilding_v w v p d h hu (k : Int))
  have HM := hid (fun w h => isMeasured_v w v p d h (k : Int))
  have HC2 := hid (fun w (h : VS w v p d) => And.intro h.c2 (h.row k hk).2.2.2.1)
  have q1 : (k : Int) < (d.m.ns : Int) := by omega
  unfold DS.fits
  clear h hu hk
  generalize d.zr (k : Int) 11 37 = m at *
  generalize d.inb (k : Int) = i at *
  generalize d.m.ns = n at *
  generalize (d.at k).s = s at *
  cases hz : d.zr (k : Int) 37 1024
  · rw [hz] at HZ
    clear hz
    rw [Bool.false_and]
    go_enter Tryz.func100, Tryz.ntmps100
    go_wp2_with (go_at_call 141; refine HZ.out.mono ?_; rintro e w1 ⟨rfl, hb⟩; have B1 := hid hb; clear hb)
    go_ret
    exact ⟨rfl, B1.out⟩
  · rw [hz] at HZ
    clear hz
    rw [Bool.true_and]
    by_cases s1 : s = 1
    · subst s1
      rw [if_pos rfl]
      go_enter Tryz.func100, Tryz.ntmps100
      go_wp2_with (first | (go_at_call 141; refine HZ.out.mono ?_; rintro e w1 ⟨rfl, hb⟩; have B1 := hid hb; obtain ⟨x2, x3⟩ := HC2.out _ (HV.out.on hb); clear hb) | (go_at_call 144; refine (HI.out _ (HV.out.on B1.out)).mono ?_; rintro e w2 ⟨rfl, hb⟩; have B2 := hid (below_on B1.out hb); clear hb))
      go_ret
      exact ⟨rfl, B2.out⟩
    · rw [if_neg s1]
      have s1' : (s == 1) = false := by simpa using s1
      by_cases s2 : s = 2
      · subst s2
        rw [if_pos rfl]
        clear s1 s1'
        go_enter Tryz.func100, Tryz.ntmps100
        go_wp2_with (first | (go_at_call 141; refine HZ.out.mono ?_; rintro e w1 ⟨rfl, hb⟩; have B1 := hid hb; obtain ⟨x2, x3⟩ := HC2.out _ (HV.out.on hb); clear hb) | (go_at_call 145; refine (HM.out _ (HV.out.on B1.out)).mono ?_; rintro e w2 ⟨rfl, hb⟩; have B2 := hid (below_on B1.out hb); clear hb))
        go_ret
        exact ⟨rfl, B2.out⟩
      · rw [if_neg s2]
        have s2' : (s == 2) = false := by simpa using s2
        clear s1 s2
        cases i
        · go_enter Tryz.func100, Tryz.ntmps100
          go_wp2_with (first | (go_at_call 141; refine HZ.out.mono ?_; rintro e w1 ⟨rfl, hb⟩; have B1 := hid hb; obtain ⟨x2, x3⟩ := HC2.out _ (HV.out.on hb); clear hb) | (go_at_call 144; refine (HI.out _ (HV.out.on B1.out)).mono ?_; rintro e w2 ⟨rfl, hb⟩; have B2 := hid (below_on B1.out hb); clear hb) | (go_at_call 145; refine (HM.out _ (HV.out.on B2.out)).mono ?_; rintro e w3 ⟨rfl, hb⟩; have B3 := hid (below_on B2.out hb); clear hb))
          go_ret
          exact ⟨by simp, B3.out⟩
        · go_enter Tryz.func100, Tryz.ntmps100
          go_wp2_with (first | (go_at_call 141; refine HZ.out.mono ?_; rintro e w1 ⟨rfl, hb⟩; have B1 := hid hb; obtain ⟨x2, x3⟩ := HC2.out _ (HV.out.on hb); clear hb) | (go_at_call 144; refine (HI.out _ (HV.out.on B1.out)).mono ?_; rintro e w2 ⟨rfl, hb⟩; have B2 := hid (below_on B1.out hb); clear hb))
          go_ret
          exact ⟨by simp, B2.out⟩
end Go.Proofs.YtildhjiddidghaaGreatDoor
namespace Go.Proofs.YtildhjiddidghaaGreatDoor
open Go.RowKit
theorem two_nat (n : Nat) : ((2 ^ n : Nat) : Int) = 2 ^ n := by push_cast; rfl
theorem or_eq (a b : Int) (k : Nat) (ha : 0 ≤ a) (hb : 0 ≤ b) (hb2 : b < 2 ^ k) (h : a * 2 ^ k < 4294967296) (hb3 : b < 4294967296) : bits .or .u32 (a * 2 ^ k) b = a * 2 ^ k + b := by
  have hp : (0 : Int) < 2 ^ k := Int.pow_pos (by decide)
  have h0 : 0 ≤ a * 2 ^ k := Int.mul_nonneg ha (by omega)
  rw [u32_or _ _ h0 h hb hb3]
  obtain ⟨x, rfl⟩ := Int.eq_ofNat_of_zero_le ha
  obtain ⟨y, rfl⟩ := Int.eq_ofNat_of_zero_le hb
  have hy : y < 2 ^ k := by have := two_nat k; omega
  have e : ((x : Int) * 2 ^ k).toNat = 2 ^ k * x := by rw [← two_nat, ← Int.natCast_mul, Int.toNat_natCast, Nat.mul_comm]
  rw [e, Int.toNat_natCast, ← Nat.two_pow_add_eq_or_of_lt hy x]
  push_cast
  rw [Int.mul_comm]
theorem and_bit (a : Int) (k : Nat) (ha : 0 ≤ a) (h : a < 4294967296) (hk : k < 32) : bits .and .u32 a (2 ^ k) = a / 2 ^ k % 2 * 2 ^ k := by
  have hp : (0 : Int) < 2 ^ k := Int.pow_pos (by decide)
  have hq : (2 : Nat) ^ k < 2 ^ 32 := Nat.pow_lt_pow_right (by decide) hk
  have hq2 := two_nat k
  rw [u32_and _ _ ha h (by omega) (by omega)]
  obtain ⟨x, rfl⟩ := Int.eq_ofNat_of_zero_le ha
  rw [← two_nat, Int.toNat_natCast, Int.toNat_natCast]
  have hbit : x.testBit k = decide (x / 2 ^ k % 2 = 1) := Nat.testBit_eq_decide_div_mod_eq
  rcases Nat.mod_two_eq_zero_or_one (x / 2 ^ k) with h0 | h1
  · have : (x : Int) / ((2 ^ k : Nat) : Int) % 2 = 0 := by omega
    have e : x &&& 2 ^ k = 0 := by
      apply Nat.eq_of_testBit_eq
      intro i
      rw [Nat.testBit_and, Nat.testBit_two_pow]
      by_cases hi : k = i
      · subst hi; simp [hbit, h0]
      · simp [hi]
    rw [this, e]; simp
  · have : (x : Int) / ((2 ^ k : Nat) : Int) % 2 = 1 := by omega
    have e : x &&& 2 ^ k = 2 ^ k := by
      apply Nat.eq_of_testBit_eq
      intro i
      rw [Nat.testBit_and, Nat.testBit_two_pow]
      by_cases hi : k = i
      · subst hi; simp [hbit, h1]
      · simp [hi]
    rw [this, e]; simp
theorem w_below_any (W : World) (n l : Int) (b : Bool) (hb : decide (0 ≤ n ∧ n < l) = b) :
    Calls Tryz.prog 182 #[.int .i64 n, .int .i64 l] W fun x W' => x = .returned (.bool b) ∧ W' = W := by
  go_enter Tryz.func182, Tryz.ntmps182
  by_cases h : 0 ≤ n
  · by_cases h2 : n < l
    · have e : b = true := by rw [← hb]; simp [h, h2]
      subst e
      clear hb
      go_wp2_with fail
      go_ret
      exact ⟨rfl, rfl⟩
    · have e : b = false := by rw [← hb]; simp [h]; omega
      subst e
      clear hb
      go_wp2_with fail
      go_ret
      exact ⟨rfl, rfl⟩
  · have e : b = false := by rw [← hb, decide_eq_false (by omega)]
    subst e
    clear hb
    go_wp2_with fail
    go_ret
    exact ⟨rfl, rfl⟩
theorem bit_any (W : World) (s : Bool) (b : Int) :
    Calls Tryz.prog 183 #[.bool s, .int .u32 b] W fun x W' => x = .returned (.int .u32 (if s then b else 0)) ∧ W' = W := by
  cases s
  all_goals go_enter Tryz.func183, Tryz.ntmps183
  all_goals go_wp2_with fail
  all_goals go_ret
  all_goals exact ⟨rfl, rfl⟩
theorem number_any (W : World) (v : Int) (h0 : 0 ≤ v) (h1 : v < 4294967296) :
    Calls Tryz.prog 168 #[.int .u32 v] W fun x W' => x = .returned (.int .i64 (v / 256)) ∧ W' = W := by
  go_enter Tryz.func168, Tryz.ntmps168
  go_wp2_with fail
  go_ret
  exact ⟨rfl, rfl⟩
def VaOk (v : Int) : Prop := v < 1073741824 ∧ v % 4 = 0
instance (v : Int) : Decidable (VaOk v) := by unfold VaOk; exact inferInstance
def spI (v : Int) : Int := if VaOk v then v / 4194304 else 0
def spJ (v : Int) : Int := if VaOk v then v / 4096 % 1024 else 0
def spO (v : Int) : Int := if VaOk v then v / 4 % 1024 else 0
def spE (v : Int) : Int := if VaOk v then 0 else 91
def Pg (p : Int) : Prop := 0 ≤ p ∧ p < 64
instance (v : Int) : Decidable (Pg v) := by unfold Pg; exact inferInstance
def fW (p : Int) : Int := if Pg p then 256 * p + 1 else 0
def fE (p : Int) : Int := if Pg p then 0 else 4
theorem first_any (W : World) (p : Int) :
    Calls Tryz.prog 169 #[.int .i64 p] W fun x W' => x = .returned (.tuple #[.int .u32 (fW p), .int .i64 (fE p)]) ∧ W' = W := by
  unfold fW fE
  by_cases h : Pg p
  · simp only [if_pos h]
    have HB := hid (w_below_any W p 64 true (decide_eq_true h))
    obtain ⟨h0, h1⟩ := h
    have e2 := or_eq p 1 8 h0 (by decide) (by decide) (by omega) (by decide)
    simp only [Int.reducePow] at e2
    have e3 : p * 256 + 1 = 256 * p + 1 := by omega
    rw [e3] at e2
    clear e3
    go_enter Tryz.func169, Tryz.ntmps169
    go_wp2_with (first | (go_at_call 182; refine HB.out.mono ?_; rintro x w1 ⟨rfl, rfl⟩))
    go_returns
    simp
  · simp only [if_neg h]
    have HB := hid (w_below_any W p 64 false (decide_eq_false h))
    clear h
    go_enter Tryz.func169, Tryz.ntmps169
    go_wp2_with (first | (go_at_call 182; refine HB.out.mono ?_; rintro x w1 ⟨rfl, rfl⟩))
    go_returns
    exact ⟨rfl, rfl⟩
def JoinOk (i j o : Int) : Prop := (0 ≤ i ∧ i < 256) ∧ (0 ≤ j ∧ j < 1024) ∧ (0 ≤ o ∧ o < 1024)
instance (i j o : Int) : Decidable (JoinOk i j o) := by unfold JoinOk; exact inferInstance
def jW (i j o : Int) : Int := if JoinOk i j o then i * 4194304 + j * 4096 + o * 4 else 0
def jE (i j o : Int) : Int := if JoinOk i j o then 0 else 4
set_option maxHeartbeats 4000000 in
def PfOk (v : Int) : Prop := Pg (v / 256) ∧ 256 * (v / 256) + 1 = v
instance (v : Int) : Decidable (PfOk v) := by unfold PfOk; exact inferInstance
def pfE (v : Int) : Int := if v = 0 then 92 else if PfOk v then 0 else 90
def pf (v : Int) : Int := if PfOk v then v / 256 else 0
def fnV (k : Nat) : Value := .func (.func k) #[] #[]
set_option maxHeartbeats 4000000 in
theorem told_any (W : World) (v : Int) (h0 : 0 ≤ v) (h1 : v < 4294967296) :
    Calls Tryz.prog 167 #[.int .u32 v, fnV 168, fnV 169] W fun x W' => x = .returned (.tuple #[.int .i64 (pf v), .int .i64 (pfE v)]) ∧ W' = W := by
  have HN := hid (number_any W v h0 h1)
  have HF := hid (first_any W (v / 256))
  unfold pf pfE
  unfold fnV
  by_cases hv : v = 0
  · subst hv
    clear HN HF h0 h1
    rw [if_neg (by unfold PfOk; decide), if_pos rfl]
    go_enter Tryz.func167, Tryz.ntmps167
    go_wp2_with fail
    go_returns
    exact ⟨rfl, rfl⟩
  · rw [if_neg hv]
    unfold fW fE at HF
    by_cases hp : Pg (v / 256)
    · simp only [if_pos hp] at HF
      by_cases he : 256 * (v / 256) + 1 = v
      · simp only [if_pos (show PfOk v from ⟨hp, he⟩)]
        rw [he] at HF
        clear hp
        go_enter Tryz.func167, Tryz.ntmps167
        go_wp2_with fail
        refine HN.out.mono ?_
        rintro x w1 ⟨rfl, rfl⟩
        go_wp2_with fail
        refine HF.out.mono ?_
        rintro x w1 ⟨rfl, rfl⟩
        go_wp2_with fail
        go_returns
        exact ⟨rfl, rfl⟩
      · simp only [if_neg (show ¬ PfOk v from fun h => he h.2)]
        obtain ⟨p1, p2⟩ := hp
        go_enter Tryz.func167, Tryz.ntmps167
        go_wp2_with fail
        refine HN.out.mono ?_
        rintro x w1 ⟨rfl, rfl⟩
        go_wp2_with fail
        refine HF.out.mono ?_
        rintro x w1 ⟨rfl, rfl⟩
        go_wp2_with fail
        go_returns
        exact ⟨rfl, rfl⟩
    · simp only [if_neg hp] at HF
      simp only [if_neg (show ¬ PfOk v from fun h => hp h.1)]
      clear hp
      go_enter Tryz.func167, Tryz.ntmps167
      go_wp2_with fail
      refine HN.out.mono ?_
      rintro x w1 ⟨rfl, rfl⟩
      go_wp2_with fail
      refine HF.out.mono ?_
      rintro x w1 ⟨rfl, rfl⟩
      go_wp2_with fail
      go_returns
      exact ⟨rfl, rfl⟩
theorem pf_any (W : World) (v : Int) (h0 : 0 ≤ v) (h1 : v < 4294967296) :
    Calls Tryz.prog 148 #[.int .u32 v] W fun x W' => x = .returned (.tuple #[.int .i64 (pf v), .int .i64 (pfE v)]) ∧ W' = W := by
  have HT := hid (told_any W v h0 h1)
  unfold fnV at HT
  generalize pf v = A at *
  generalize pfE v = B at *
  go_enter Tryz.func148, Tryz.ntmps148
  go_wp2_with fail
  refine HT.out.mono ?_
  rintro x w1 ⟨rfl, rfl⟩
  go_wp2_with fail
  go_returns
  exact ⟨rfl, rfl⟩
end Go.Proofs.YtildhjiddidghaaGreatDoor
