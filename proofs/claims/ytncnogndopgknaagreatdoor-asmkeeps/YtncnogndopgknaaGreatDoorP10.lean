import Derived.Test.YtncnogndopgknaaGreatDoorP09
import Derived.Test.YtncnogndopgknaaGreatDoorP01
import Derived.Test.YtncnogndopgknaaGreatDoorP03
namespace Go.Proofs.YtncnogndopgknaaGreatDoor
open Go.RowKit
def condT : List (List UInt8) := [[97, 108], [101, 113], [110, 101], [108, 116], [103, 101], [108, 111], [104, 115]]
def cnd (n : Nat) : ByteArray := ⟨(condT.getD n []).toArray⟩
def FNames (W : World) : Prop := ∀ n : Nat, n < 25 → W.cell? ⟨1, n * 2, none⟩ = some (.string (nam n))
def RNames (W : World) : Prop := ∀ n : Nat, n < 25 → W.cell? ⟨5, n, none⟩ = some (.string (nam n))
def CNames (W : World) : Prop := ∀ n : Nat, n < 7 → W.cell? ⟨0, n, none⟩ = some (.string (cnd n))
def RConds (W : World) : Prop := ∀ n : Nat, n < 7 → W.cell? ⟨10, n, none⟩ = some (.string (cnd n))
def Fnd (f : Nat → ByteArray) (lo hi : Nat) (s : ByteArray) (r e : Int) : Prop :=
  (∃ k : Nat, lo ≤ k ∧ k < hi ∧ f k = s ∧ (∀ j : Nat, lo ≤ j → j < k → f j ≠ s) ∧ r = (k : Int) ∧ e = 0) ∨ ((∀ j : Nat, lo ≤ j → j < hi → f j ≠ s) ∧ r = 0 ∧ e = 50)
theorem fnd_or (f : Nat → ByteArray) (lo : Nat) (s : ByteArray) : ∀ hi : Nat, (∃ k : Nat, lo ≤ k ∧ k < hi ∧ f k = s ∧ ∀ j : Nat, lo ≤ j → j < k → f j ≠ s) ∨ ∀ j : Nat, lo ≤ j → j < hi → f j ≠ s
  | 0 => .inr fun j _ h => by omega
  | hi + 1 => by
    rcases fnd_or f lo s hi with ⟨k, h1, h2, h3, h4⟩ | h
    · exact .inl ⟨k, h1, by omega, h3, h4⟩
    · by_cases hk : lo ≤ hi ∧ f hi = s
      · exact .inl ⟨hi, hk.1, by omega, hk.2, h⟩
      · refine .inr fun j h1 h2 h3 => ?_
        rcases Nat.lt_or_ge j hi with h4 | h4
        · exact h j h1 h4 h3
        · obtain rfl : j = hi := by omega
          exact hk ⟨h1, h3⟩
theorem fnd_ex (f : Nat → ByteArray) (lo hi : Nat) (s : ByteArray) : ∃ r e, Fnd f lo hi s r e := by
  rcases fnd_or f lo s hi with ⟨k, h1, h2, h3, h4⟩ | h
  · exact ⟨k, 0, .inl ⟨k, h1, h2, h3, h4, rfl, rfl⟩⟩
  · exact ⟨0, 50, .inr ⟨h, rfl, rfl⟩⟩
theorem toList_ne {t s : ByteArray} (h : t ≠ s) : (t.toList == s.toList) = false := by
  rw [ByteArray.toList_eq t, ByteArray.toList_eq s]
  simp only [beq_eq_false_iff_ne, ne_eq]
  intro e
  apply h
  cases t
  cases s
  congr
  exact Array.toList_inj.1 e

theorem named_any (W : World) (hF : FNames W) (s : ByteArray) (r e : Int) (h : Fnd nam 1 25 s r e) : Calls Tryz.prog 119 #[.string s] W fun x W' => x = .returned (.tuple #[.int .i64 r, .int .i64 e]) ∧ W = W' := by
  have HF : Hid (FNames W) := hF
  clear hF
  rcases h with ⟨K, h1, h2, h3, h4, rfl, rfl⟩ | ⟨h4, rfl, rfl⟩
  · have H4 : Hid (∀ j : Nat, 1 ≤ j → j < K → nam j ≠ s) := h4
    have H3 : Hid (nam K = s) := h3
    have k1 : (K : Int) < 25 := by omega
    clear h4 h3
    go_enter Tryz.func119, Tryz.ntmps119
    go_wp2_with fail
    go_loopw [4] (fun i wr => ∃ k : Nat, 1 ≤ k ∧ k ≤ K ∧ i = .int .i64 k ∧ W = wr) (fun i _ => K - (intOf i).toNat)
    case atStart => exact ⟨1, Nat.le_refl _, h1, rfl, rfl⟩
    case round =>
      obtain ⟨k, ka, kb, rfl, rfl⟩ := hrel
      have c1 : (k : Int) < 25 := by omega
      have hc := HF.out k (by omega)
      by_cases hk : k = K
      · subst hk
        rw [H3.out] at hc
        clear ka kb h1 h2
        go_wp2_with fail
        go_ret2
        exact ⟨rfl, rfl⟩
      · have q := toList_ne (H4.out k ka (by omega))
        generalize nam k = t at *
        have hlt : k < K := by omega
        clear ka hk
        go_wp2_with fail
        go_roundw
        case measure => simp [intOf]; omega
        case rel => exact ⟨k + 1, by omega, by omega, by go_num, trivial⟩
  · have H4 : Hid (∀ j : Nat, 1 ≤ j → j < 25 → nam j ≠ s) := h4
    clear h4
    go_enter Tryz.func119, Tryz.ntmps119
    go_wp2_with fail
    go_loopw [4] (fun i wr => ∃ k : Nat, 1 ≤ k ∧ k ≤ 25 ∧ i = .int .i64 k ∧ W = wr) (fun i _ => 25 - (intOf i).toNat)
    case atStart => exact ⟨1, Nat.le_refl _, by decide, rfl, rfl⟩
    case round =>
      obtain ⟨k, ka, kb, rfl, rfl⟩ := hrel
      by_cases hk : k < 25
      · have c1 : (k : Int) < 25 := by omega
        have hc := HF.out k hk
        have q := toList_ne (H4.out k ka hk)
        generalize nam k = t at *
        clear ka
        go_wp2_with fail
        go_roundw
        case measure => simp [intOf]; omega
        case rel => exact ⟨k + 1, by omega, by omega, by go_num, trivial⟩
      · obtain rfl : k = 25 := by omega
        clear ka kb hk
        go_wp2_with fail
        go_ret2
        exact ⟨rfl, rfl⟩

theorem cnamed_any (W : World) (hF : CNames W) (s : ByteArray) (r e : Int) (h : Fnd cnd 0 7 s r e) : Calls Tryz.prog 160 #[.string s] W fun x W' => x = .returned (.tuple #[.int .i64 r, .int .i64 e]) ∧ W = W' := by
  have HF : Hid (CNames W) := hF
  clear hF
  rcases h with ⟨K, h1, h2, h3, h4, rfl, rfl⟩ | ⟨h4, rfl, rfl⟩
  · have H4 : Hid (∀ j : Nat, 0 ≤ j → j < K → cnd j ≠ s) := h4
    have H3 : Hid (cnd K = s) := h3
    have k1 : (K : Int) < 7 := by omega
    clear h4 h3
    go_enter Tryz.func160, Tryz.ntmps160
    go_wp2_with fail
    go_loopw [5] (fun i wr => ∃ k : Nat, 0 ≤ k ∧ k ≤ K ∧ i = .int .i64 k ∧ W = wr) (fun i _ => K - (intOf i).toNat)
    case atStart => exact ⟨0, Nat.le_refl _, h1, rfl, rfl⟩
    case round =>
      obtain ⟨k, ka, kb, rfl, rfl⟩ := hrel
      have c1 : (k : Int) < 7 := by omega
      have hc := HF.out k (by omega)
      by_cases hk : k = K
      · subst hk
        rw [H3.out] at hc
        clear ka kb h1 h2
        go_wp2_with fail
        go_ret2
        exact ⟨rfl, rfl⟩
      · have q := toList_ne (H4.out k ka (by omega))
        generalize cnd k = t at *
        have hlt : k < K := by omega
        clear ka hk
        go_wp2_with fail
        go_roundw
        case measure => simp [intOf]; omega
        case rel => exact ⟨k + 1, by omega, by omega, by go_num, trivial⟩
  · have H4 : Hid (∀ j : Nat, 0 ≤ j → j < 7 → cnd j ≠ s) := h4
    clear h4
    go_enter Tryz.func160, Tryz.ntmps160
    go_wp2_with fail
    go_loopw [5] (fun i wr => ∃ k : Nat, 0 ≤ k ∧ k ≤ 7 ∧ i = .int .i64 k ∧ W = wr) (fun i _ => 7 - (intOf i).toNat)
    case atStart => exact ⟨0, Nat.le_refl _, by decide, rfl, rfl⟩
    case round =>
      obtain ⟨k, ka, kb, rfl, rfl⟩ := hrel
      by_cases hk : k < 7
      · have c1 : (k : Int) < 7 := by omega
        have hc := HF.out k hk
        have q := toList_ne (H4.out k ka hk)
        generalize cnd k = t at *
        clear ka
        go_wp2_with fail
        go_roundw
        case measure => simp [intOf]; omega
        case rel => exact ⟨k + 1, by omega, by omega, by go_num, trivial⟩
      · obtain rfl : k = 7 := by omega
        clear ka kb hk
        go_wp2_with fail
        go_ret2
        exact ⟨rfl, rfl⟩

def namI (op : Int) : ByteArray := if 1 ≤ op ∧ op < 25 then nam op.toNat else ⟨#[]⟩
def cndI (op : Int) : ByteArray := if 0 ≤ op ∧ op < 7 then cnd op.toNat else ⟨#[]⟩

theorem iname_any (W : World) (hF : FNames W) (op : Int) : Calls Tryz.prog 52 #[.int .i64 op] W fun x W' => x = .returned (.string (namI op)) ∧ W = W' := by
  by_cases h : 1 ≤ op ∧ op < 25
  · have hc := hF op.toNat (by omega)
    have HR : Hid (nam op.toNat = namI op) := (if_pos h).symm
    generalize nam op.toNat = s at *
    obtain ⟨o0, o1⟩ := h
    have o2 : 0 ≤ op := by omega
    clear hF
    go_enter Tryz.func52, Tryz.ntmps52
    go_wp2_with (go_at_call 69; refine (isOp_any _ _).mono ?_; rintro e w' ⟨rfl, rfl⟩)
    go_ret
    exact ⟨congrArg (fun x => Ending.returned (.string x)) HR.out, rfl⟩
  · have HR : Hid (⟨#[]⟩ = namI op) := (if_neg h).symm
    have HO : Hid (∀ w, Calls Tryz.prog 69 #[.int .i64 op] w fun e W' => e = .returned (.bool false) ∧ w = W') := fun w => by have := isOp_any w op; rwa [decide_eq_false h] at this
    clear hF h
    go_enter Tryz.func52, Tryz.ntmps52
    go_wp2_with (go_at_call 69; refine (HO.out _).mono ?_; rintro e w' ⟨rfl, rfl⟩)
    go_ret
    exact ⟨congrArg (fun x => Ending.returned (.string x)) HR.out, rfl⟩

theorem cname_any (W : World) (hF : CNames W) (op : Int) : Calls Tryz.prog 27 #[.int .i64 op] W fun x W' => x = .returned (.string (cndI op)) ∧ W = W' := by
  by_cases h : 0 ≤ op ∧ op < 7
  · have hc := hF op.toNat (by omega)
    have HR : Hid (cnd op.toNat = cndI op) := (if_pos h).symm
    generalize cnd op.toNat = s at *
    obtain ⟨o0, o1⟩ := h
    have o2 : 0 ≤ op := by omega
    clear hF
    go_enter Tryz.func27, Tryz.ntmps27
    go_wp2_with fail
    go_ret
    exact ⟨congrArg (fun x => Ending.returned (.string x)) HR.out, rfl⟩
  · have HR : Hid (⟨#[]⟩ = cndI op) := (if_neg h).symm
    by_cases h1 : op < 0
    · clear hF h
      go_enter Tryz.func27, Tryz.ntmps27
      go_wp2_with fail
      go_ret
      exact ⟨congrArg (fun x => Ending.returned (.string x)) HR.out, rfl⟩
    · have h2 : 7 ≤ op := by omega
      have h3 : 0 ≤ op := by omega
      clear hF h h1
      go_enter Tryz.func27, Tryz.ntmps27
      go_wp2_with fail
      go_ret
      exact ⟨congrArg (fun x => Ending.returned (.string x)) HR.out, rfl⟩

end Go.Proofs.YtncnogndopgknaaGreatDoor
namespace Go.Proofs.YtncnogndopgknaaGreatDoor
namespace T
structure Wd where
  text : List UInt8
  quoted : Bool
  col : Nat
deriving DecidableEq
def cons (w : Wd) : Nat ⊕ List Wd → Nat ⊕ List Wd
  | .inl x => .inl x
  | .inr l => .inr (w :: l)
def pre (ws : List Wd) : Nat ⊕ List Wd → Nat ⊕ List Wd
  | .inl x => .inl x
  | .inr l => .inr (ws ++ l)
theorem pre_nil (r : Nat ⊕ List Wd) : pre [] r = r := by cases r <;> rfl
theorem pre_cons (ws : List Wd) (w : Wd) (r : Nat ⊕ List Wd) : pre ws (cons w r) = pre (ws ++ [w]) r := by cases r <;> simp [pre, cons]
def plainN (l : List UInt8) : Nat := (l.takeWhile fun c => !isGap c).length
theorem plainN_le (l : List UInt8) : plainN l ≤ l.length := by
  induction l with
  | nil => simp [plainN]
  | cons c t ih => simp only [plainN, List.takeWhile_cons]; split <;> simp [plainN] at * <;> omega
def parted (l : List UInt8) : Bool := match l with
  | [] => true
  | c :: _ => isGap c
def rd (l : List UInt8) (p : Nat) : Nat ⊕ List Wd :=
  match l with
  | [] => .inr []
  | c :: t =>
    if isGap c then rd t (p + 1)
    else if c.toNat = 35 then .inr []
    else if c.toNat = 34 then
      match unq t with
      | .inl x => .inl (p + 1 + x)
      | .inr (b, n) => if parted (t.drop n) then cons ⟨b, true, p + 1⟩ (rd (t.drop n) (p + 1 + n)) else .inl (p + 1 + n)
    else cons ⟨(c :: t).take (plainN (c :: t)), false, p + 1⟩ (rd (t.drop (plainN (c :: t) - 1)) (p + plainN (c :: t)))
termination_by l.length
decreasing_by all_goals simp <;> omega
theorem rd_nil (p : Nat) : rd [] p = .inr [] := by rw [rd]
theorem rd_gap {c : UInt8} (t : List UInt8) (p : Nat) (h : isGap c = true) : rd (c :: t) p = rd t (p + 1) := by rw [rd]; simp [h]
theorem rd_hash {c : UInt8} (t : List UInt8) (p : Nat) (h : isGap c = false) (h2 : c.toNat = 35) : rd (c :: t) p = .inr [] := by rw [rd]; simp [h, h2]
theorem rd_bad {c : UInt8} (t : List UInt8) (p x : Nat) (h : isGap c = false) (h2 : c.toNat = 34) (hu : unq t = .inl x) : rd (c :: t) p = .inl (p + 1 + x) := by rw [rd]; simp [h, h2, hu]
theorem rd_joined {c : UInt8} (t b : List UInt8) (p n : Nat) (h : isGap c = false) (h2 : c.toNat = 34) (hu : unq t = .inr (b, n)) (hp : parted (t.drop n) = false) : rd (c :: t) p = .inl (p + 1 + n) := by rw [rd]; simp [h, h2, hu, hp]
theorem rd_quoted {c : UInt8} (t b : List UInt8) (p n : Nat) (h : isGap c = false) (h2 : c.toNat = 34) (hu : unq t = .inr (b, n)) (hp : parted (t.drop n) = true) : rd (c :: t) p = cons ⟨b, true, p + 1⟩ (rd (t.drop n) (p + 1 + n)) := by rw [rd]; simp [h, h2, hu, hp]
theorem plainN_pos {c : UInt8} (t : List UInt8) (h : isGap c = false) : plainN (c :: t) = plainN t + 1 := by simp [plainN, h]
theorem rd_plain {c : UInt8} (t : List UInt8) (p : Nat) (h : isGap c = false) (h2 : c.toNat ≠ 35) (h3 : c.toNat ≠ 34) : rd (c :: t) p = cons ⟨(c :: t).take (plainN (c :: t)), false, p + 1⟩ (rd ((c :: t).drop (plainN (c :: t))) (p + plainN (c :: t))) := by
  rw [rd]
  simp only [h, h2, h3, if_false]
  rw [plainN_pos t h]
  simp
def words (l : List UInt8) : Nat ⊕ List Wd := rd l 0
end T
end Go.Proofs.YtncnogndopgknaaGreatDoor
namespace Go.Proofs.YtncnogndopgknaaGreatDoor
namespace T

def dv (c : UInt8) : Nat := c.toNat - 48
def step (n : Nat) (c : UInt8) : Nat := n * 10 + dv c
def val (l : List UInt8) : Nat := l.foldl step 0
theorem val_snoc (l : List UInt8) (c : UInt8) : val (l ++ [c]) = val l * 10 + dv c := by simp [val, step]
theorem foldl_lt (l : List UInt8) (h : l.all isDig = true) : ∀ n, l.foldl step n < (n + 1) * 10 ^ l.length := by
  induction l with
  | nil => intro n; simp
  | cons c l ih =>
    intro n
    simp only [List.all_cons, Bool.and_eq_true] at h
    have h1 := h.1
    simp [isDig] at h1
    have := ih h.2 (step n c)
    rw [List.foldl_cons, List.length_cons, Nat.pow_succ]
    refine Nat.lt_of_lt_of_le this ?_
    rw [Nat.mul_comm (10 ^ l.length) 10, ← Nat.mul_assoc]
    exact Nat.mul_le_mul_right _ (by simp [step, dv]; omega)
theorem val_lt (l : List UInt8) (h : l.all isDig = true) : val l < 10 ^ l.length := by
  have := foldl_lt l h 0
  rw [Nat.zero_add, Nat.one_mul] at this
  exact this
def tens (s : List UInt8) (most : Nat) : Option Nat :=
  if s.length = 0 ∨ 10 < s.length ∨ (s.headD 0).toNat = 48 ∧ 1 < s.length then none
  else if s.all isDig then (if val s ≤ most then some (val s) else none) else none
def hstep (r : Option Nat) (c : UInt8) : Option Nat := match r, hexV c with
  | some n, some d => some (n * 16 + d)
  | _, _ => none
def hval (l : List UInt8) : Option Nat := l.foldl hstep (some 0)
theorem hval_snoc (l : List UInt8) (c : UInt8) : hval (l ++ [c]) = hstep (hval l) c := by simp [hval]
theorem hfold_none (l : List UInt8) : l.foldl hstep none = none := by
  induction l with
  | nil => rfl
  | cons c l ih => rw [List.foldl_cons]; exact ih
theorem hval_append (l m : List UInt8) : hval (l ++ m) = m.foldl hstep (hval l) := by simp [hval]
theorem hfold_lt (l : List UInt8) : ∀ n v, l.foldl hstep (some n) = some v → v < (n + 1) * 16 ^ l.length := by
  induction l with
  | nil => intro n v h; simp at h; simp; omega
  | cons c l ih =>
    intro n v h
    rw [List.foldl_cons] at h
    cases hc : hexV c with
    | none =>
      simp only [hstep, hc] at h
      rw [hfold_none] at h
      cases h
    | some d =>
      simp only [hstep, hc] at h
      have := ih _ _ h
      have hd := (hexV_lt hc).1
      rw [List.length_cons, Nat.pow_succ]
      refine Nat.lt_of_lt_of_le this ?_
      rw [Nat.mul_comm (16 ^ l.length) 16, ← Nat.mul_assoc]
      exact Nat.mul_le_mul_right _ (by omega)
theorem hval_lt {l : List UInt8} {v : Nat} (h : hval l = some v) : v < 16 ^ l.length := by
  have := hfold_lt l 0 v h
  rw [Nat.zero_add, Nat.one_mul] at this
  exact this
def hexed (l : List UInt8) : Option Nat := if l.length = 0 ∨ 8 < l.length then none else hval l
def number (s : List UInt8) : Option Nat := if [48, 120].isPrefixOf s then hexed (s.drop 2) else tens s 4294967295
def signed (s : List UInt8) : Option Int :=
  if [45].isPrefixOf s then (match tens (s.drop 1) 2147483648 with
    | some n => if n = 0 then none else some (-(n : Int))
    | none => none)
  else (match tens s 2147483647 with
    | some n => some (n : Int)
    | none => none)
end T
end Go.Proofs.YtncnogndopgknaaGreatDoor
namespace Go.Proofs.YtncnogndopgknaaGreatDoor
open Go.RowKit
namespace T
def okc (c : UInt8) : Bool := isLet c || isDig c || c.toNat == 95
def name (l : List UInt8) : Bool := decide (1 ≤ l.length) && decide (l.length ≤ 24) && isLet (l.headD 0) && l.all okc
end T
theorem take_snoc (s : ByteArray) (k : Nat) (h : k < s.size) : s.data.toList.take (k + 1) = s.data.toList.take k ++ [s[k]] := by
  rw [List.take_succ_eq_append_getElem (by simpa using h)]; rfl
theorem take_size (s : ByteArray) : s.data.toList.take s.size = s.data.toList := List.take_length
theorem ne_nil (s : ByteArray) (h : 0 < s.size) : (¬ s.toList = []) ∧ s.toList.isEmpty = false ∧ s.data.toList.headD 0 = s[0] := by
  have hd := drop_get s 0 h
  rw [List.drop_zero] at hd
  refine ⟨?_, ?_, ?_⟩
  · rw [ByteArray.toList_eq s, hd]; simp
  · rw [ByteArray.toList_eq s, hd]; rfl
  · rw [hd]; rfl
theorem emp (s : ByteArray) (h : s.size = 0) : s = ⟨#[]⟩ := by
  cases s with
  | mk d => congr; exact Array.eq_empty_of_size_eq_zero h

set_option maxHeartbeats 1000000 in
theorem name_any (W : World) (s : ByteArray) (hs : s.size ≤ 1000000000) :
    Calls Tryz.prog 87 #[.string s] W fun e W' => e = .returned (.int .i64 (if T.name s.data.toList then 0 else 42)) ∧ W = W' := by
  generalize hr0 : (if T.name s.data.toList then (0 : Int) else 42) = r0
  by_cases h0 : s.size = 0
  · have hse := emp s h0
    have HR : Hid (r0 = 42) := hid (by rw [← hr0, hse]; rfl)
    clear hr0 hs h0
    subst hse
    go_enter Tryz.func87, Tryz.ntmps87
    go_wp2_with fail
    go_ret
    exact ⟨ret_int HR.out.symm, rfl⟩
  · have hlt : 0 < s.size := by omega
    obtain ⟨n1, n2, n3⟩ := ne_nil s hlt
    have b1 : (0 : Int) < (s.size : Int) := by omega
    by_cases h24 : s.size ≤ 24
    · have b2 : (s.size : Int) ≤ 24 := by omega
      have HC := letter_any s[0]
      cases hl : T.isLet s[0] with
      | false =>
        have HR : Hid (r0 = 42) := hid (by rw [← hr0, if_neg]; unfold T.name; rw [n3, hl]; simp)
        rw [hl] at HC
        clear hr0 h0 n3 hl
        go_enter Tryz.func87, Tryz.ntmps87
        go_wp2_with fail
        refine (HC _).mono ?_
        rintro e w' ⟨rfl, rfl⟩
        go_wp2_with fail
        go_ret
        exact ⟨ret_int HR.out.symm, rfl⟩
      | true =>
        rw [hl] at HC
        have HR : Hid (r0 = if s.data.toList.all T.okc then 0 else 42) := hid (by
          rw [← hr0]
          congr 1
          unfold T.name
          rw [n3, hl, size_list, decide_eq_true h24, decide_eq_true (show 1 ≤ s.size by omega)]
          simp)
        clear hr0 h0 n3 hl
        go_enter Tryz.func87, Tryz.ntmps87
        go_wp2_with fail
        refine (HC _).mono ?_
        rintro e w' ⟨rfl, rfl⟩
        go_wp2_with fail
        clear HC
        go_loopw [3, 4, 20] (fun _ _ i wr => ∃ k : Nat, k ≤ s.size ∧ i = .int .i64 k ∧ (s.data.toList.take k).all T.okc = true ∧ W = wr) (fun _ _ i _ => s.size - (intOf i).toNat)
        case atStart => exact ⟨0, Nat.zero_le _, rfl, by simp, rfl⟩
        case round =>
          obtain ⟨k, hk, rfl, ha, rfl⟩ := hrel
          by_cases hk2 : k < s.size
          · have c1 : (k : Int) < (s.size : Int) := by omega
            have HL := letter_any s[k]
            have HD := digit_any s[k]
            have hsn := take_snoc s k hk2
            have HS : Hid ((s.data.toList.take (k + 1)).all T.okc = T.okc s[k]) := hid (by rw [hsn, List.all_append, ha]; simp)
            have HE : Hid (T.okc s[k] = false → r0 = 42) := hid (by
              intro h
              rw [HR.out, if_neg]
              intro h2
              rw [List.all_eq_true] at h2
              have := h2 s[k] (by
                have : s.data.toList.drop k = s[k] :: _ := drop_get s k hk2
                have h3 : s[k] ∈ s.data.toList.drop k := by rw [this]; simp
                exact List.mem_of_mem_drop h3)
              rw [h] at this
              cases this)
            clear hsn ha HR
            cases hL : T.isLet s[k] with
            | true =>
              have HK : Hid (T.okc s[k] = true) := hid (by simp [T.okc, hL])
              rw [hL] at HL
              clear hL
              go_wp2_with fail
              refine (HL _).mono ?_
              rintro e w' ⟨rfl, rfl⟩
              go_wp2_with fail
              go_roundw
              case rel => exact ⟨k + 1, by omega, by go_num, by rw [HS.out]; exact HK.out, trivial⟩
              case measure => simp [intOf]; omega
            | false =>
              rw [hL] at HL
              cases hD : T.isDig s[k] with
              | true =>
                have HK : Hid (T.okc s[k] = true) := hid (by simp [T.okc, hD])
                rw [hD] at HD
                clear hL hD
                go_wp2_with fail
                refine (HL _).mono ?_
                rintro e w' ⟨rfl, rfl⟩
                go_wp2_with fail
                refine (HD _).mono ?_
                rintro e w' ⟨rfl, rfl⟩
                go_wp2_with fail
                go_roundw
                case rel => exact ⟨k + 1, by omega, by go_num, by rw [HS.out]; exact HK.out, trivial⟩
                case measure => simp [intOf]; omega
              | false =>
                rw [hD] at HD
                by_cases h95 : s[k].toNat = 95
                · have HK : Hid (T.okc s[k] = true) := hid (by simp [T.okc, h95])
                  have e95 : ((s[k].toNat : Int) != 95) = false := by rw [h95]; rfl
                  clear hL hD h95
                  go_wp2_with fail
                  refine (HL _).mono ?_
                  rintro e w' ⟨rfl, rfl⟩
                  go_wp2_with fail
                  refine (HD _).mono ?_
                  rintro e w' ⟨rfl, rfl⟩
                  go_wp2_with fail
                  go_roundw
                  case rel => exact ⟨k + 1, by omega, by go_num, by rw [HS.out]; exact HK.out, trivial⟩
                  case measure => simp [intOf]; omega
                · have HK : Hid (T.okc s[k] = false) := hid (by simp [T.okc, hL, hD, h95])
                  have e95 : ((s[k].toNat : Int) != 95) = true := by rw [bne_iff_ne]; omega
                  clear hL hD h95
                  go_wp2_with fail
                  refine (HL _).mono ?_
                  rintro e w' ⟨rfl, rfl⟩
                  go_wp2_with fail
                  refine (HD _).mono ?_
                  rintro e w' ⟨rfl, rfl⟩
                  go_wp2_with fail
                  go_ret
                  exact ⟨ret_int (HE.out HK.out).symm, rfl⟩
          · obtain rfl : k = s.size := by omega
            rw [take_size] at ha
            have HF : Hid (r0 = 0) := hid (by rw [HR.out, if_pos ha])
            clear ha HR
            go_wp2_with fail
            go_ret
            exact ⟨ret_int HF.out.symm, rfl⟩
    · have b2 : (24 : Int) < (s.size : Int) := by omega
      have HR : Hid (r0 = 42) := hid (by rw [← hr0]; simp [T.name, h24])
      clear hr0 h0 n3
      go_enter Tryz.func87, Tryz.ntmps87
      go_wp2_with fail
      go_ret
      exact ⟨ret_int HR.out.symm, rfl⟩

end Go.Proofs.YtncnogndopgknaaGreatDoor
