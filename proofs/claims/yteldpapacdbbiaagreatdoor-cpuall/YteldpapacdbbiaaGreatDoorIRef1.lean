/- The document's side: has (36), within (35), Shape (21), doc (25). -/
import Derived.Test.YteldpapacdbbiaaGreatDoorIDec
import Derived.Test.YteldpapacdbbiaaGreatDoorIMat5
namespace Go.Proofs.YteldpapacdbbiaaGreatDoor.I
open Go.RowKit

/-- The document's table of shapes lies where its initialiser laid it. -/
def RShapes (W : World) : Prop := ∀ n : Nat, n < 25 → W.cell? ⟨2, n, none⟩ = some (.string (shp n))
theorem RShapes.below {W w : World} {B : Nat} (h : RShapes W) (hb : Below B W w) (hB : 3 < B) : RShapes w := fun n hn => (hb.cell (p := ⟨2, n, none⟩) (by show 2 < B; omega)).trans (h n hn)
instance (u : Bool) (v lo hi : Int) : Decidable (Wi u v lo hi) := by unfold Wi; exact inferInstance

theorem contains_take (s : ByteArray) (c : Nat) (k : Nat) (h : k < s.size) : ((ltr s).take (k + 1)).contains c = (((ltr s).take k).contains c || (s[k].toNat == c)) := by
  rw [ltr_snoc s k h, Bool.eq_iff_iff]
  simp only [List.contains_iff_mem, List.mem_append, List.mem_singleton, Bool.or_eq_true, beq_iff_eq]
  constructor
  · rintro (h | h); exact .inl h; exact .inr h.symm
  · rintro (h | h); exact .inl h; exact .inr h.symm
theorem has_any (W : World) (s : ByteArray) (c : Nat) (C : Int) (hC : C = (c : Int)) (hs : (s.size : Int) ≤ 3) : Calls Tryz.prog 60 #[.string s, .int .u8 C] W fun e W' => e = .returned (.bool ((ltr s).contains c)) ∧ W = W' := by
  obtain ⟨r, hr⟩ : ∃ r, (ltr s).contains c = r := ⟨_, rfl⟩
  have HR : Hid ((ltr s).contains c = r) := hr
  rw [hr]
  subst hC
  clear hr
  go_enter Tryz.func60, Tryz.ntmps60
  go_wp2_with fail
  go_loopw [5] (fun i wr => ∃ k : Nat, k ≤ s.size ∧ i = .int .i64 k ∧ Hid (((ltr s).take k).contains c = false) ∧ W = wr) (fun i _ => s.size - (intOf i).toNat)
  case atStart => exact ⟨0, Nat.zero_le _, rfl, rfl, rfl⟩
  case round =>
    obtain ⟨k, hk, rfl, HN, rfl⟩ := hrel
    by_cases hk2 : k < s.size
    · have c1 : (k : Int) < (s.size : Int) := by omega
      obtain ⟨l, hlk⟩ : ∃ l, s[k].toNat = l := ⟨_, rfl⟩
      have e := contains_take s c k hk2
      rw [HN.out, hlk, Bool.false_or] at e
      by_cases hc : l = c
      · subst hc
        have HF : Hid (true = r) := (show true = r by
          rw [← HR.out]
          exact (List.contains_iff_mem.2 (List.mem_iff_getElem.2 ⟨k, by rw [ltr_len]; exact hk2, by rw [ltr_get s k hk2, hlk]⟩)).symm)
        clear e HN
        go_wp2_with fail
        go_ret
        exact ⟨ret_bool HF.out, rfl⟩
      · have q : ((l : Int) == (c : Int)) = false := by simp; omega
        have HN2 : Hid (((ltr s).take (k + 1)).contains c = false) := (show _ = false by rw [e]; simpa using hc)
        clear e HN hc
        go_wp2_with fail
        go_roundw
        case measure => simp [intOf]; omega
        case rel => exact ⟨k + 1, by omega, by go_num, HN2, trivial⟩
    · obtain rfl : k = s.size := by omega
      have HF : Hid (false = r) := (show false = r by have := HN.out; rw [show (ltr s).take s.size = ltr s by rw [← ltr_len, List.take_length], HR.out] at this; exact this.symm)
      clear hk hk2
      go_wp2_with fail
      go_ret
      exact ⟨ret_bool HF.out, rfl⟩
theorem within_any (W : World) (u : Bool) (v lo hi : Int) : Calls Tryz.prog 106 #[.bool u, .int .i64 v, .int .i64 lo, .int .i64 hi] W fun e W' => e = .returned (.bool (decide (Wi u v lo hi))) ∧ W = W' := by
  cases u with
  | false =>
    go_enter Tryz.func106, Tryz.ntmps106
    go_wp2
    go_ret
    exact ⟨ret_bool (by rw [Bool.eq_iff_iff]; simp [Wi]), rfl⟩
  | true =>
    by_cases h : lo ≤ v
    · go_enter Tryz.func106, Tryz.ntmps106
      go_wp2
      go_ret
      exact ⟨ret_bool (by simp [Wi, h]), rfl⟩
    · have h' : v < lo := by omega
      clear h
      go_enter Tryz.func106, Tryz.ntmps106
      go_wp2
      go_ret
      exact ⟨ret_bool (by simp [Wi]; omega), rfl⟩
theorem rshape_any (W : World) (hR : RShapes W) (op : Int) : Calls Tryz.prog 59 #[.int .i64 op] W fun e W' => e = .returned (.string (shpI op)) ∧ W = W' := by
  by_cases h : 1 ≤ op ∧ op < 25
  · have hc := hR op.toNat (by omega)
    have HR : Hid (shp op.toNat = shpI op) := (if_pos h).symm
    generalize shp op.toNat = s at *
    obtain ⟨o0, o1⟩ := h
    have o2 : 0 ≤ op := by omega
    clear hR
    go_enter Tryz.func59, Tryz.ntmps59
    go_wp2_with fail
    go_ret
    exact ⟨congrArg (fun x => Ending.returned (.string x)) HR.out, rfl⟩
  · have HR : Hid (⟨#[]⟩ = shpI op) := (if_neg h).symm
    by_cases h1 : op < 1
    · clear hR h
      go_enter Tryz.func59, Tryz.ntmps59
      go_wp2_with fail
      go_ret
      exact ⟨congrArg (fun x => Ending.returned (.string x)) HR.out, rfl⟩
    · have h2 : 25 ≤ op := by omega
      have h3 : 1 ≤ op := by omega
      clear hR h h1
      go_enter Tryz.func59, Tryz.ntmps59
      go_wp2_with fail
      go_ret
      exact ⟨congrArg (fun x => Ending.returned (.string x)) HR.out, rfl⟩
/-- An instruction as the document has it. -/
def Ins.r (i : Ins) : Value := .agg #[.int .i64 i.op, .int .i64 i.cond, .int .i64 i.a, .int .i64 i.b, .int .i64 i.c, .int .i64 i.imm]
theorem size57 : (Tryz.prog.info? 85).map (·.size) = some 6 := by kernel_rfl
end Go.Proofs.YteldpapacdbbiaaGreatDoor.I
