import Derived.Test.YtncnogndopgknaaGreatDoorP07
namespace Go.Proofs.YtncnogndopgknaaGreatDoor

def nine : List (List Nat) := [[97, 117], [97, 98], [97, 98, 99], [97, 98, 115], [97, 115], [107, 111], [111], [97], [117]]
theorem ltr_nine : ∀ n < 25, 1 ≤ n → ltr (shp n) ∈ nine := by decide +kernel
def Wi (u : Bool) (v lo hi : Int) : Prop := if u then lo ≤ v ∧ v ≤ hi else v = 0
def Im (L : List Nat) (v : Int) : Prop := if L.contains 117 then 0 ≤ v ∧ v ≤ 65535 else if L.contains 115 || L.contains 111 then -32768 ≤ v ∧ v ≤ 32767 else v = 0
def Good (i : Ins) (L : List Nat) : Prop := Wi (L.contains 97) i.a 0 14 ∧ Wi (L.contains 98) i.b 0 14 ∧ Wi (L.contains 99) i.c 0 14 ∧ Wi (L.contains 107) i.cond 0 6 ∧ Im L i.imm
theorem good_iff (i : Ins) (L : List Nat) (h : L ∈ nine) : ((∀ l ∈ L, okAt i l) ∧ clr i L = Ins.z) ↔ Good i L := by
  obtain ⟨op, cond, a, b, c, imm⟩ := i
  simp only [nine, List.mem_cons, List.not_mem_nil, or_false] at h
  rcases h with rfl | rfl | rfl | rfl | rfl | rfl | rfl | rfl | rfl
  all_goals
    simp [okAt, clr, fl, Ins.num, Ins.put, Ins.z, Good, Wi, Im]
    try omega
theorem chk_zero {i : Ins} (h : chk i = 0) : ∃ n : Nat, i.op = (n : Int) ∧ 1 ≤ n ∧ n < 25 ∧ ltr (shp n) ∈ nine ∧ Good i (ltr (shp n)) := by
  unfold chk at h
  split at h
  · rename_i h1
    refine ⟨i.op.toNat, by omega, by omega, by omega, ltr_nine _ (by omega) (by omega), ?_⟩
    split at h
    · rename_i h2
      exact (good_iff _ _ (ltr_nine _ (by omega) (by omega))).1 h2
    · exact absurd h (by decide)
  · exact absurd h (by decide)
def sumW (i : Ins) : Int := i.op * 67108864 + (i.a + i.cond) * 4194304 + i.b * 262144 + i.c * 16384 + i.imm % 65536
theorem encL_eq (i : Ins) (L : List Nat) (h : L ∈ nine) (h0 : 1 ≤ i.op) (h1 : i.op < 25) (hg : Good i L) : encL i L = sumW i := by
  obtain ⟨op, cond, a, b, c, imm⟩ := i
  simp only [nine, List.mem_cons, List.not_mem_nil, or_false] at h
  rcases h with rfl | rfl | rfl | rfl | rfl | rfl | rfl | rfl | rfl
  all_goals
    simp [Good, Wi, Im] at hg
    simp [encL, sumW, fl, Ins.num, M.SetF, M.Fld] at h0 h1 ⊢
    omega
theorem enc_eq {i : Ins} (h : chk i = 0) : enc i = sumW i := by
  obtain ⟨n, hn, h1, h2, h3, h4⟩ := chk_zero h
  unfold enc encW
  rw [if_pos h, hn, Int.toNat_natCast]
  exact encL_eq i _ h3 (by omega) (by omega) h4
theorem good_bounds {i : Ins} {L : List Nat} (h : L ∈ nine) (hg : Good i L) : 0 ≤ i.a ∧ i.a ≤ 14 ∧ 0 ≤ i.b ∧ i.b ≤ 14 ∧ 0 ≤ i.c ∧ i.c ≤ 14 ∧ 0 ≤ i.cond ∧ i.cond ≤ 6 ∧ -32768 ≤ i.imm ∧ i.imm ≤ 65535 ∧ (i.a = 0 ∨ i.cond = 0) := by
  simp only [nine, List.mem_cons, List.not_mem_nil, or_false] at h
  rcases h with rfl | rfl | rfl | rfl | rfl | rfl | rfl | rfl | rfl
  all_goals
    simp [Good, Wi, Im] at hg
    omega
theorem enc_bounds (i : Ins) : 0 ≤ enc i ∧ enc i < 4294967296 := by
  by_cases h : chk i = 0
  · obtain ⟨n, hn, h1, h2, h3, h4⟩ := chk_zero h
    have := good_bounds h3 h4
    rw [enc_eq h]
    unfold sumW
    omega
  · unfold enc; rw [if_neg h]; decide
theorem decL_eq (i : Ins) (L : List Nat) (h : L ∈ nine) (h0 : 1 ≤ i.op) (h1 : i.op < 25) (hg : Good i L) : decL (sumW i) L = i := by
  obtain ⟨op, cond, a, b, c, imm⟩ := i
  simp only [nine, List.mem_cons, List.not_mem_nil, or_false] at h
  rcases h with rfl | rfl | rfl | rfl | rfl | rfl | rfl | rfl | rfl
  all_goals
    simp [Good, Wi, Im] at hg
    simp [decL, sumW, fl, rd, Ins.put, M.Ext, M.Fld] at h0 h1 ⊢
    (repeat' apply And.intro) <;> (first | omega | (split <;> omega))
theorem fld_op {i : Ins} (h : chk i = 0) : M.Fld (sumW i) 26 6 = i.op := by
  obtain ⟨n, hn, h1, h2, h3, h4⟩ := chk_zero h
  have := good_bounds h3 h4
  unfold M.Fld sumW
  simp only [Int.reducePow]
  omega
theorem dec_enc {i : Ins} (h : chk i = 0) : decI (enc i) = i ∧ decOk (enc i) := by
  have e : decI (enc i) = i := by
    obtain ⟨n, hn, h1, h2, h3, h4⟩ := chk_zero h
    unfold decI
    rw [enc_eq h, fld_op h, shpI, if_pos (by omega), hn, Int.toNat_natCast]
    exact decL_eq i _ h3 (by omega) (by omega) h4
  exact ⟨e, by unfold decOk; rw [e]; exact ⟨h, rfl⟩⟩
theorem dec_back {i : Ins} (h : chk i = 0) : dec (enc i) = i ∧ decE (enc i) = 0 := by
  obtain ⟨a, b⟩ := dec_enc h
  unfold dec decE
  rw [if_pos b, if_pos b]
  exact ⟨a, rfl⟩
theorem dec_yes {w : Int} (h : decE w = 0) : enc (dec w) = w ∧ chk (dec w) = 0 := by
  by_cases b : decOk w
  · have c : chk (decI w) = 0 ∧ enc (decI w) = w := b
    unfold dec
    rw [if_pos b]
    exact ⟨c.2, c.1⟩
  · unfold decE at h; rw [if_neg b] at h; exact absurd h (by decide)
end Go.Proofs.YtncnogndopgknaaGreatDoor
namespace Go.Proofs.YtncnogndopgknaaGreatDoor
open Go.RowKit
structure Tabs (W : World) : Prop where
  f : Forms W
  t : Tab W
  z : 5 < W.heap.size
theorem Tabs.on {W w : World} (h : Tabs W) (hb : Below W.heap.size W w) : Tabs w := ⟨h.f.below hb (by have := h.z; omega), h.t.below hb h.z, by have := hb.size; have := h.z; omega⟩
end Go.Proofs.YtncnogndopgknaaGreatDoor
namespace Go.Proofs.YtncnogndopgknaaGreatDoor
open Go.RowKit

def RShapes (W : World) : Prop := ∀ n : Nat, n < 25 → W.cell? ⟨6, n, none⟩ = some (.string (shp n))
theorem RShapes.below {W w : World} {B : Nat} (h : RShapes W) (hb : Below B W w) (hB : 6 < B) : RShapes w := fun n hn => (hb.cell (p := ⟨6, n, none⟩) hB).trans (h n hn)
instance (u : Bool) (v lo hi : Int) : Decidable (Wi u v lo hi) := by unfold Wi; exact inferInstance

def Ins.r (i : Ins) : Value := .agg #[.int .i64 i.op, .int .i64 i.cond, .int .i64 i.a, .int .i64 i.b, .int .i64 i.c, .int .i64 i.imm]
end Go.Proofs.YtncnogndopgknaaGreatDoor
namespace Go.Proofs.YtncnogndopgknaaGreatDoor
open Go.RowKit
def condT : List (List UInt8) := [[97, 108], [101, 113], [110, 101], [108, 116], [103, 101], [108, 111], [104, 115]]
def cnd (n : Nat) : ByteArray := ⟨(condT.getD n []).toArray⟩
def FNames (W : World) : Prop := ∀ n : Nat, n < 25 → W.cell? ⟨1, n * 2, none⟩ = some (.string (nam n))
def RNames (W : World) : Prop := ∀ n : Nat, n < 25 → W.cell? ⟨5, n, none⟩ = some (.string (nam n))
def CNames (W : World) : Prop := ∀ n : Nat, n < 7 → W.cell? ⟨0, n, none⟩ = some (.string (cnd n))
def RConds (W : World) : Prop := ∀ n : Nat, n < 7 → W.cell? ⟨10, n, none⟩ = some (.string (cnd n))
def Fnd (f : Nat → ByteArray) (lo hi : Nat) (s : ByteArray) (r e : Int) : Prop :=
  (∃ k : Nat, lo ≤ k ∧ k < hi ∧ f k = s ∧ (∀ j : Nat, lo ≤ j → j < k → f j ≠ s) ∧ r = (k : Int) ∧ e = 0) ∨ ((∀ j : Nat, lo ≤ j → j < hi → f j ≠ s) ∧ r = 0 ∧ e = 50)
theorem fnd_or (f : Nat → ByteArray) (lo : Nat) (s : ByteArray) : ∀ hi : Nat, (∃ k : Nat, lo ≤ k ∧ k < hi ∧ f k = s ∧ ∀ j : Nat, lo ≤ j → j < k → f j ≠ s) ∨ ∀ j : Nat, lo ≤ j → j < hi → f j ≠ s
  | 0 => .inr fun j _ h => by omega
  | hi + 1 => by
    rcases fnd_or f lo s hi with ⟨k, h1, h2, h3, h4⟩ | h
    · exact .inl ⟨k, h1, by omega, h3, h4⟩
    · by_cases hk : lo ≤ hi ∧ f hi = s
      · exact .inl ⟨hi, hk.1, by omega, hk.2, h⟩
      · refine .inr fun j h1 h2 h3 => ?_
        rcases Nat.lt_or_ge j hi with h4 | h4
        · exact h j h1 h4 h3
        · obtain rfl : j = hi := by omega
          exact hk ⟨h1, h3⟩
theorem fnd_ex (f : Nat → ByteArray) (lo hi : Nat) (s : ByteArray) : ∃ r e, Fnd f lo hi s r e := by
  rcases fnd_or f lo s hi with ⟨k, h1, h2, h3, h4⟩ | h
  · exact ⟨k, 0, .inl ⟨k, h1, h2, h3, h4, rfl, rfl⟩⟩
  · exact ⟨0, 50, .inr ⟨h, rfl, rfl⟩⟩
theorem toList_ne {t s : ByteArray} (h : t ≠ s) : (t.toList == s.toList) = false := by
  rw [ByteArray.toList_eq t, ByteArray.toList_eq s]
  simp only [beq_eq_false_iff_ne, ne_eq]
  intro e
  apply h
  cases t
  cases s
  congr
  exact Array.toList_inj.1 e

theorem named_any (W : World) (hF : FNames W) (s : ByteArray) (r e : Int) (h : Fnd nam 1 25 s r e) : Calls Tryz.prog 119 #[.string s] W fun x W' => x = .returned (.tuple #[.int .i64 r, .int .i64 e]) ∧ W = W' := by
  have HF : Hid (FNames W) := hF
  clear hF
  rcases h with ⟨K, h1, h2, h3, h4, rfl, rfl⟩ | ⟨h4, rfl, rfl⟩
  · have H4 : Hid (∀ j : Nat, 1 ≤ j → j < K → nam j ≠ s) := h4
    have H3 : Hid (nam K = s) := h3
    have k1 : (K : Int) < 25 := by omega
    clear h4 h3
    go_enter Tryz.func119, Tryz.ntmps119
    go_wp2_with fail
    go_loopw [4] (fun i wr => ∃ k : Nat, 1 ≤ k ∧ k ≤ K ∧ i = .int .i64 k ∧ W = wr) (fun i _ => K - (intOf i).toNat)
    case atStart => exact ⟨1, Nat.le_refl _, h1, rfl, rfl⟩
    case round =>
      obtain ⟨k, ka, kb, rfl, rfl⟩ := hrel
      have c1 : (k : Int) < 25 := by omega
      have hc := HF.out k (by omega)
      by_cases hk : k = K
      · subst hk
        rw [H3.out] at hc
        clear ka kb h1 h2
        go_wp2_with fail
        go_ret2
        exact ⟨rfl, rfl⟩
      · have q := toList_ne (H4.out k ka (by omega))
        generalize nam k = t at *
        have hlt : k < K := by omega
        clear ka hk
        go_wp2_with fail
        go_roundw
        case measure => simp [intOf]; omega
        case rel => exact ⟨k + 1, by omega, by omega, by go_num, trivial⟩
  · have H4 : Hid (∀ j : Nat, 1 ≤ j → j < 25 → nam j ≠ s) := h4
    clear h4
    go_enter Tryz.func119, Tryz.ntmps119
    go_wp2_with fail
    go_loopw [4] (fun i wr => ∃ k : Nat, 1 ≤ k ∧ k ≤ 25 ∧ i = .int .i64 k ∧ W = wr) (fun i _ => 25 - (intOf i).toNat)
    case atStart => exact ⟨1, Nat.le_refl _, by decide, rfl, rfl⟩
    case round =>
      obtain ⟨k, ka, kb, rfl, rfl⟩ := hrel
      by_cases hk : k < 25
      · have c1 : (k : Int) < 25 := by omega
        have hc := HF.out k hk
        have q := toList_ne (H4.out k ka hk)
        generalize nam k = t at *
        clear ka
        go_wp2_with fail
        go_roundw
        case measure => simp [intOf]; omega
        case rel => exact ⟨k + 1, by omega, by omega, by go_num, trivial⟩
      · obtain rfl : k = 25 := by omega
        clear ka kb hk
        go_wp2_with fail
        go_ret2
        exact ⟨rfl, rfl⟩

theorem cnamed_any (W : World) (hF : CNames W) (s : ByteArray) (r e : Int) (h : Fnd cnd 0 7 s r e) : Calls Tryz.prog 160 #[.string s] W fun x W' => x = .returned (.tuple #[.int .i64 r, .int .i64 e]) ∧ W = W' := by
  have HF : Hid (CNames W) := hF
  clear hF
  rcases h with ⟨K, h1, h2, h3, h4, rfl, rfl⟩ | ⟨h4, rfl, rfl⟩
  · have H4 : Hid (∀ j : Nat, 0 ≤ j → j < K → cnd j ≠ s) := h4
    have H3 : Hid (cnd K = s) := h3
    have k1 : (K : Int) < 7 := by omega
    clear h4 h3
    go_enter Tryz.func160, Tryz.ntmps160
    go_wp2_with fail
    go_loopw [5] (fun i wr => ∃ k : Nat, 0 ≤ k ∧ k ≤ K ∧ i = .int .i64 k ∧ W = wr) (fun i _ => K - (intOf i).toNat)
    case atStart => exact ⟨0, Nat.le_refl _, h1, rfl, rfl⟩
    case round =>
      obtain ⟨k, ka, kb, rfl, rfl⟩ := hrel
      have c1 : (k : Int) < 7 := by omega
      have hc := HF.out k (by omega)
      by_cases hk : k = K
      · subst hk
        rw [H3.out] at hc
        clear ka kb h1 h2
        go_wp2_with fail
        go_ret2
        exact ⟨rfl, rfl⟩
      · have q := toList_ne (H4.out k ka (by omega))
        generalize cnd k = t at *
        have hlt : k < K := by omega
        clear ka hk
        go_wp2_with fail
        go_roundw
        case measure => simp [intOf]; omega
        case rel => exact ⟨k + 1, by omega, by omega, by go_num, trivial⟩
  · have H4 : Hid (∀ j : Nat, 0 ≤ j → j < 7 → cnd j ≠ s) := h4
    clear h4
    go_enter Tryz.func160, Tryz.ntmps160
    go_wp2_with fail
    go_loopw [5] (fun i wr => ∃ k : Nat, 0 ≤ k ∧ k ≤ 7 ∧ i = .int .i64 k ∧ W = wr) (fun i _ => 7 - (intOf i).toNat)
    case atStart => exact ⟨0, Nat.le_refl _, by decide, rfl, rfl⟩
    case round =>
      obtain ⟨k, ka, kb, rfl, rfl⟩ := hrel
      by_cases hk : k < 7
      · have c1 : (k : Int) < 7 := by omega
        have hc := HF.out k hk
        have q := toList_ne (H4.out k ka hk)
        generalize cnd k = t at *
        clear ka
        go_wp2_with fail
        go_roundw
        case measure => simp [intOf]; omega
        case rel => exact ⟨k + 1, by omega, by omega, by go_num, trivial⟩
      · obtain rfl : k = 7 := by omega
        clear ka kb hk
        go_wp2_with fail
        go_ret2
        exact ⟨rfl, rfl⟩

def namI (op : Int) : ByteArray := if 1 ≤ op ∧ op < 25 then nam op.toNat else ⟨#[]⟩
def cndI (op : Int) : ByteArray := if 0 ≤ op ∧ op < 7 then cnd op.toNat else ⟨#[]⟩

theorem cname_any (W : World) (hF : CNames W) (op : Int) : Calls Tryz.prog 27 #[.int .i64 op] W fun x W' => x = .returned (.string (cndI op)) ∧ W = W' := by
  by_cases h : 0 ≤ op ∧ op < 7
  · have hc := hF op.toNat (by omega)
    have HR : Hid (cnd op.toNat = cndI op) := (if_pos h).symm
    generalize cnd op.toNat = s at *
    obtain ⟨o0, o1⟩ := h
    have o2 : 0 ≤ op := by omega
    clear hF
    go_enter Tryz.func27, Tryz.ntmps27
    go_wp2_with fail
    go_ret
    exact ⟨congrArg (fun x => Ending.returned (.string x)) HR.out, rfl⟩
  · have HR : Hid (⟨#[]⟩ = cndI op) := (if_neg h).symm
    by_cases h1 : op < 0
    · clear hF h
      go_enter Tryz.func27, Tryz.ntmps27
      go_wp2_with fail
      go_ret
      exact ⟨congrArg (fun x => Ending.returned (.string x)) HR.out, rfl⟩
    · have h2 : 7 ≤ op := by omega
      have h3 : 0 ≤ op := by omega
      clear hF h h1
      go_enter Tryz.func27, Tryz.ntmps27
      go_wp2_with fail
      go_ret
      exact ⟨congrArg (fun x => Ending.returned (.string x)) HR.out, rfl⟩

end Go.Proofs.YtncnogndopgknaaGreatDoor
