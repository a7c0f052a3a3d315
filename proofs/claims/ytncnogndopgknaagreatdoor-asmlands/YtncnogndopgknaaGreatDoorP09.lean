import Derived.Test.YtncnogndopgknaaGreatDoorP01
import Derived.Test.YtncnogndopgknaaGreatDoorP02
import Derived.Lib.SplitLaws
import Derived.Test.YtncnogndopgknaaGreatDoorP08
namespace Go.Proofs.YtncnogndopgknaaGreatDoor
namespace T
structure Wd where
  text : List UInt8
  quoted : Bool
  col : Nat
deriving DecidableEq
def cons (w : Wd) : Nat ⊕ List Wd → Nat ⊕ List Wd
  | .inl x => .inl x
  | .inr l => .inr (w :: l)
def pre (ws : List Wd) : Nat ⊕ List Wd → Nat ⊕ List Wd
  | .inl x => .inl x
  | .inr l => .inr (ws ++ l)
theorem pre_nil (r : Nat ⊕ List Wd) : pre [] r = r := by cases r <;> rfl
theorem pre_cons (ws : List Wd) (w : Wd) (r : Nat ⊕ List Wd) : pre ws (cons w r) = pre (ws ++ [w]) r := by cases r <;> simp [pre, cons]
def plainN (l : List UInt8) : Nat := (l.takeWhile fun c => !isGap c).length
theorem plainN_le (l : List UInt8) : plainN l ≤ l.length := by
  induction l with
  | nil => simp [plainN]
  | cons c t ih => simp only [plainN, List.takeWhile_cons]; split <;> simp [plainN] at * <;> omega
def parted (l : List UInt8) : Bool := match l with
  | [] => true
  | c :: _ => isGap c
def rd (l : List UInt8) (p : Nat) : Nat ⊕ List Wd :=
  match l with
  | [] => .inr []
  | c :: t =>
    if isGap c then rd t (p + 1)
    else if c.toNat = 35 then .inr []
    else if c.toNat = 34 then
      match unq t with
      | .inl x => .inl (p + 1 + x)
      | .inr (b, n) => if parted (t.drop n) then cons ⟨b, true, p + 1⟩ (rd (t.drop n) (p + 1 + n)) else .inl (p + 1 + n)
    else cons ⟨(c :: t).take (plainN (c :: t)), false, p + 1⟩ (rd (t.drop (plainN (c :: t) - 1)) (p + plainN (c :: t)))
termination_by l.length
decreasing_by all_goals simp <;> omega
theorem rd_nil (p : Nat) : rd [] p = .inr [] := by rw [rd]
theorem rd_gap {c : UInt8} (t : List UInt8) (p : Nat) (h : isGap c = true) : rd (c :: t) p = rd t (p + 1) := by rw [rd]; simp [h]
theorem rd_hash {c : UInt8} (t : List UInt8) (p : Nat) (h : isGap c = false) (h2 : c.toNat = 35) : rd (c :: t) p = .inr [] := by rw [rd]; simp [h, h2]
theorem rd_bad {c : UInt8} (t : List UInt8) (p x : Nat) (h : isGap c = false) (h2 : c.toNat = 34) (hu : unq t = .inl x) : rd (c :: t) p = .inl (p + 1 + x) := by rw [rd]; simp [h, h2, hu]
theorem rd_joined {c : UInt8} (t b : List UInt8) (p n : Nat) (h : isGap c = false) (h2 : c.toNat = 34) (hu : unq t = .inr (b, n)) (hp : parted (t.drop n) = false) : rd (c :: t) p = .inl (p + 1 + n) := by rw [rd]; simp [h, h2, hu, hp]
theorem rd_quoted {c : UInt8} (t b : List UInt8) (p n : Nat) (h : isGap c = false) (h2 : c.toNat = 34) (hu : unq t = .inr (b, n)) (hp : parted (t.drop n) = true) : rd (c :: t) p = cons ⟨b, true, p + 1⟩ (rd (t.drop n) (p + 1 + n)) := by rw [rd]; simp [h, h2, hu, hp]
theorem plainN_pos {c : UInt8} (t : List UInt8) (h : isGap c = false) : plainN (c :: t) = plainN t + 1 := by simp [plainN, h]
theorem rd_plain {c : UInt8} (t : List UInt8) (p : Nat) (h : isGap c = false) (h2 : c.toNat ≠ 35) (h3 : c.toNat ≠ 34) : rd (c :: t) p = cons ⟨(c :: t).take (plainN (c :: t)), false, p + 1⟩ (rd ((c :: t).drop (plainN (c :: t))) (p + plainN (c :: t))) := by
  rw [rd]
  simp only [h, h2, h3, if_false]
  rw [plainN_pos t h]
  simp
def words (l : List UInt8) : Nat ⊕ List Wd := rd l 0
end T
end Go.Proofs.YtncnogndopgknaaGreatDoor
namespace Go.Proofs.YtncnogndopgknaaGreatDoor
namespace T

def dv (c : UInt8) : Nat := c.toNat - 48
def step (n : Nat) (c : UInt8) : Nat := n * 10 + dv c
def val (l : List UInt8) : Nat := l.foldl step 0
theorem val_snoc (l : List UInt8) (c : UInt8) : val (l ++ [c]) = val l * 10 + dv c := by simp [val, step]
theorem foldl_lt (l : List UInt8) (h : l.all isDig = true) : ∀ n, l.foldl step n < (n + 1) * 10 ^ l.length := by
  induction l with
  | nil => intro n; simp
  | cons c l ih =>
    intro n
    simp only [List.all_cons, Bool.and_eq_true] at h
    have h1 := h.1
    simp [isDig] at h1
    have := ih h.2 (step n c)
    rw [List.foldl_cons, List.length_cons, Nat.pow_succ]
    refine Nat.lt_of_lt_of_le this ?_
    rw [Nat.mul_comm (10 ^ l.length) 10, ← Nat.mul_assoc]
    exact Nat.mul_le_mul_right _ (by simp [step, dv]; omega)
theorem val_lt (l : List UInt8) (h : l.all isDig = true) : val l < 10 ^ l.length := by
  have := foldl_lt l h 0
  rw [Nat.zero_add, Nat.one_mul] at this
  exact this
def tens (s : List UInt8) (most : Nat) : Option Nat :=
  if s.length = 0 ∨ 10 < s.length ∨ (s.headD 0).toNat = 48 ∧ 1 < s.length then none
  else if s.all isDig then (if val s ≤ most then some (val s) else none) else none
def hstep (r : Option Nat) (c : UInt8) : Option Nat := match r, hexV c with
  | some n, some d => some (n * 16 + d)
  | _, _ => none
def hval (l : List UInt8) : Option Nat := l.foldl hstep (some 0)
theorem hval_snoc (l : List UInt8) (c : UInt8) : hval (l ++ [c]) = hstep (hval l) c := by simp [hval]
theorem hfold_none (l : List UInt8) : l.foldl hstep none = none := by
  induction l with
  | nil => rfl
  | cons c l ih => rw [List.foldl_cons]; exact ih
theorem hval_append (l m : List UInt8) : hval (l ++ m) = m.foldl hstep (hval l) := by simp [hval]
theorem hfold_lt (l : List UInt8) : ∀ n v, l.foldl hstep (some n) = some v → v < (n + 1) * 16 ^ l.length := by
  induction l with
  | nil => intro n v h; simp at h; simp; omega
  | cons c l ih =>
    intro n v h
    rw [List.foldl_cons] at h
    cases hc : hexV c with
    | none =>
      simp only [hstep, hc] at h
      rw [hfold_none] at h
      cases h
    | some d =>
      simp only [hstep, hc] at h
      have := ih _ _ h
      have hd := (hexV_lt hc).1
      rw [List.length_cons, Nat.pow_succ]
      refine Nat.lt_of_lt_of_le this ?_
      rw [Nat.mul_comm (16 ^ l.length) 16, ← Nat.mul_assoc]
      exact Nat.mul_le_mul_right _ (by omega)
theorem hval_lt {l : List UInt8} {v : Nat} (h : hval l = some v) : v < 16 ^ l.length := by
  have := hfold_lt l 0 v h
  rw [Nat.zero_add, Nat.one_mul] at this
  exact this
def hexed (l : List UInt8) : Option Nat := if l.length = 0 ∨ 8 < l.length then none else hval l
def number (s : List UInt8) : Option Nat := if [48, 120].isPrefixOf s then hexed (s.drop 2) else tens s 4294967295
def signed (s : List UInt8) : Option Int :=
  if [45].isPrefixOf s then (match tens (s.drop 1) 2147483648 with
    | some n => if n = 0 then none else some (-(n : Int))
    | none => none)
  else (match tens s 2147483647 with
    | some n => some (n : Int)
    | none => none)
end T
end Go.Proofs.YtncnogndopgknaaGreatDoor
namespace Go.Proofs.YtncnogndopgknaaGreatDoor
open Go.RowKit
namespace T
def okc (c : UInt8) : Bool := isLet c || isDig c || c.toNat == 95
def name (l : List UInt8) : Bool := decide (1 ≤ l.length) && decide (l.length ≤ 24) && isLet (l.headD 0) && l.all okc
end T
theorem take_snoc (s : ByteArray) (k : Nat) (h : k < s.size) : s.data.toList.take (k + 1) = s.data.toList.take k ++ [s[k]] := by
  rw [List.take_succ_eq_append_getElem (by simpa using h)]; rfl
theorem take_size (s : ByteArray) : s.data.toList.take s.size = s.data.toList := List.take_length
theorem ne_nil (s : ByteArray) (h : 0 < s.size) : (¬ s.toList = []) ∧ s.toList.isEmpty = false ∧ s.data.toList.headD 0 = s[0] := by
  have hd := drop_get s 0 h
  rw [List.drop_zero] at hd
  refine ⟨?_, ?_, ?_⟩
  · rw [ByteArray.toList_eq s, hd]; simp
  · rw [ByteArray.toList_eq s, hd]; rfl
  · rw [hd]; rfl
theorem emp (s : ByteArray) (h : s.size = 0) : s = ⟨#[]⟩ := by
  cases s with
  | mk d => congr; exact Array.eq_empty_of_size_eq_zero h

set_option maxHeartbeats 1000000 in
theorem name_any (W : World) (s : ByteArray) (hs : s.size ≤ 1000000000) :
    Calls Tryz.prog 87 #[.string s] W fun e W' => e = .returned (.int .i64 (if T.name s.data.toList then 0 else 42)) ∧ W = W' := by
  generalize hr0 : (if T.name s.data.toList then (0 : Int) else 42) = r0
  by_cases h0 : s.size = 0
  · have hse := emp s h0
    have HR : Hid (r0 = 42) := hid (by rw [← hr0, hse]; rfl)
    clear hr0 hs h0
    subst hse
    go_enter Tryz.func87, Tryz.ntmps87
    go_wp2_with fail
    go_ret
    exact ⟨ret_int HR.out.symm, rfl⟩
  · have hlt : 0 < s.size := by omega
    obtain ⟨n1, n2, n3⟩ := ne_nil s hlt
    have b1 : (0 : Int) < (s.size : Int) := by omega
    by_cases h24 : s.size ≤ 24
    · have b2 : (s.size : Int) ≤ 24 := by omega
      have HC := letter_any s[0]
      cases hl : T.isLet s[0] with
      | false =>
        have HR : Hid (r0 = 42) := hid (by rw [← hr0, if_neg]; unfold T.name; rw [n3, hl]; simp)
        rw [hl] at HC
        clear hr0 h0 n3 hl
        go_enter Tryz.func87, Tryz.ntmps87
        go_wp2_with fail
        refine (HC _).mono ?_
        rintro e w' ⟨rfl, rfl⟩
        go_wp2_with fail
        go_ret
        exact ⟨ret_int HR.out.symm, rfl⟩
      | true =>
        rw [hl] at HC
        have HR : Hid (r0 = if s.data.toList.all T.okc then 0 else 42) := hid (by
          rw [← hr0]
          congr 1
          unfold T.name
          rw [n3, hl, size_list, decide_eq_true h24, decide_eq_true (show 1 ≤ s.size by omega)]
          simp)
        clear hr0 h0 n3 hl
        go_enter Tryz.func87, Tryz.ntmps87
        go_wp2_with fail
        refine (HC _).mono ?_
        rintro e w' ⟨rfl, rfl⟩
        go_wp2_with fail
        clear HC
        go_loopw [3, 4, 20] (fun _ _ i wr => ∃ k : Nat, k ≤ s.size ∧ i = .int .i64 k ∧ (s.data.toList.take k).all T.okc = true ∧ W = wr) (fun _ _ i _ => s.size - (intOf i).toNat)
        case atStart => exact ⟨0, Nat.zero_le _, rfl, by simp, rfl⟩
        case round =>
          obtain ⟨k, hk, rfl, ha, rfl⟩ := hrel
          by_cases hk2 : k < s.size
          · have c1 : (k : Int) < (s.size : Int) := by omega
            have HL := letter_any s[k]
            have HD := digit_any s[k]
            have hsn := take_snoc s k hk2
            have HS : Hid ((s.data.toList.take (k + 1)).all T.okc = T.okc s[k]) := hid (by rw [hsn, List.all_append, ha]; simp)
            have HE : Hid (T.okc s[k] = false → r0 = 42) := hid (by
              intro h
              rw [HR.out, if_neg]
              intro h2
              rw [List.all_eq_true] at h2
              have := h2 s[k] (by
                have : s.data.toList.drop k = s[k] :: _ := drop_get s k hk2
                have h3 : s[k] ∈ s.data.toList.drop k := by rw [this]; simp
                exact List.mem_of_mem_drop h3)
              rw [h] at this
              cases this)
            clear hsn ha HR
            cases hL : T.isLet s[k] with
            | true =>
              have HK : Hid (T.okc s[k] = true) := hid (by simp [T.okc, hL])
              rw [hL] at HL
              clear hL
              go_wp2_with fail
              refine (HL _).mono ?_
              rintro e w' ⟨rfl, rfl⟩
              go_wp2_with fail
              go_roundw
              case rel => exact ⟨k + 1, by omega, by go_num, by rw [HS.out]; exact HK.out, trivial⟩
              case measure => simp [intOf]; omega
            | false =>
              rw [hL] at HL
              cases hD : T.isDig s[k] with
              | true =>
                have HK : Hid (T.okc s[k] = true) := hid (by simp [T.okc, hD])
                rw [hD] at HD
                clear hL hD
                go_wp2_with fail
                refine (HL _).mono ?_
                rintro e w' ⟨rfl, rfl⟩
                go_wp2_with fail
                refine (HD _).mono ?_
                rintro e w' ⟨rfl, rfl⟩
                go_wp2_with fail
                go_roundw
                case rel => exact ⟨k + 1, by omega, by go_num, by rw [HS.out]; exact HK.out, trivial⟩
                case measure => simp [intOf]; omega
              | false =>
                rw [hD] at HD
                by_cases h95 : s[k].toNat = 95
                · have HK : Hid (T.okc s[k] = true) := hid (by simp [T.okc, h95])
                  have e95 : ((s[k].toNat : Int) != 95) = false := by rw [h95]; rfl
                  clear hL hD h95
                  go_wp2_with fail
                  refine (HL _).mono ?_
                  rintro e w' ⟨rfl, rfl⟩
                  go_wp2_with fail
                  refine (HD _).mono ?_
                  rintro e w' ⟨rfl, rfl⟩
                  go_wp2_with fail
                  go_roundw
                  case rel => exact ⟨k + 1, by omega, by go_num, by rw [HS.out]; exact HK.out, trivial⟩
                  case measure => simp [intOf]; omega
                · have HK : Hid (T.okc s[k] = false) := hid (by simp [T.okc, hL, hD, h95])
                  have e95 : ((s[k].toNat : Int) != 95) = true := by rw [bne_iff_ne]; omega
                  clear hL hD h95
                  go_wp2_with fail
                  refine (HL _).mono ?_
                  rintro e w' ⟨rfl, rfl⟩
                  go_wp2_with fail
                  refine (HD _).mono ?_
                  rintro e w' ⟨rfl, rfl⟩
                  go_wp2_with fail
                  go_ret
                  exact ⟨ret_int (HE.out HK.out).symm, rfl⟩
          · obtain rfl : k = s.size := by omega
            rw [take_size] at ha
            have HF : Hid (r0 = 0) := hid (by rw [HR.out, if_pos ha])
            clear ha HR
            go_wp2_with fail
            go_ret
            exact ⟨ret_int HF.out.symm, rfl⟩
    · have b2 : (24 : Int) < (s.size : Int) := by omega
      have HR : Hid (r0 = 42) := hid (by rw [← hr0]; simp [T.name, h24])
      clear hr0 h0 n3
      go_enter Tryz.func87, Tryz.ntmps87
      go_wp2_with fail
      go_ret
      exact ⟨ret_int HR.out.symm, rfl⟩

end Go.Proofs.YtncnogndopgknaaGreatDoor
namespace Go.Proofs.YtncnogndopgknaaGreatDoor
namespace T
open Go.Lib
def cutL : List UInt8 → List (List UInt8)
  | [] => [[]]
  | c :: t => if c = 10 then [] :: cutL t else match cutL t with
    | h :: r => (c :: h) :: r
    | [] => [[c]]
theorem cutL_ne (l : List UInt8) : cutL l ≠ [] := by
  cases l with
  | nil => simp [cutL]
  | cons c t =>
    simp only [cutL]
    split
    · simp
    · split <;> simp
theorem splitK_cut (l : List UInt8) : splitK [10] 0 (count l [10]) l = cutL l := by
  induction l with
  | nil => rw [count_miss (by simp [index])]; rfl
  | cons c t ih =>
    by_cases hc : c = 10
    · subst hc
      have hix : index (10 :: t) [10] = ((0 : Nat) : Int) := by rw [index]; simp [List.isPrefixOf]
      rw [count_cons_eq, Nat.add_comm 1, splitK, hix]
      simp only [cutL, if_true]
      rw [← ih]
      simp
    · have hp : ([10] : List UInt8).isPrefixOf (c :: t) = false := by simp [List.isPrefixOf, Ne.symm hc]
      have hix : index (c :: t) [10] = if index t [10] == -1 then -1 else index t [10] + 1 := by rw [index, hp]; simp
      rw [count_cons_ne c 10 t hc]
      simp only [cutL, if_neg hc]
      by_cases hm : index t [10] = -1
      · rw [count_miss hm] at ih ⊢
        rw [← ih]
        rfl
      · have hge := index_ge t [10]
        obtain ⟨j, hj⟩ : ∃ j : Nat, index t [10] = j := ⟨(index t [10]).toNat, by omega⟩
        have hix' : index (c :: t) [10] = ((j + 1 : Nat) : Int) := by rw [hix, if_neg (fun e => hm (beq_iff_eq.1 e)), hj]; omega
        have hcnt := count_hit (s := t) (sub := [10]) (by simp) hj
        obtain ⟨k, hk⟩ : ∃ k, count t [10] = k + 1 := ⟨count (t.drop (j + [10].length)) [10], by rw [hcnt]; omega⟩
        rw [hk] at ih ⊢
        rw [splitK, hj] at ih
        rw [splitK, hix']
        have n1 : ¬ ((j : Int) == -1) = true := by first | (simp; done) | (simp; omega)
        have n2 : ¬ (((j + 1 : Nat) : Int) == -1) = true := by first | (simp; done) | (simp; omega)
        rw [if_neg n1] at ih
        rw [if_neg n2, ← ih]
        simp
def lines (l : List UInt8) : List (List UInt8) := if (cutL l).getLast (cutL_ne l) = [] then (cutL l).dropLast else cutL l
theorem cutL_append (l m : List UInt8) (h : ∀ c ∈ l, c ≠ 10) : cutL (l ++ m) = match cutL m with
    | x :: r => (l ++ x) :: r
    | [] => [l] := by
  induction l with
  | nil => cases hm : cutL m with
    | nil => exact absurd hm (cutL_ne m)
    | cons x r => simp [hm]
  | cons c t ih =>
    have ih' := ih (fun x hx => h x (by simp [hx]))
    simp only [List.cons_append, cutL, if_neg (h c (by simp)), ih']
    cases hm : cutL m with
    | nil => exact absurd hm (cutL_ne m)
    | cons x r => simp
theorem cutL_line (l m : List UInt8) (h : ∀ c ∈ l, c ≠ 10) : cutL (l ++ 10 :: m) = l :: cutL m := by
  rw [cutL_append l _ h]; simp [cutL]
end T
end Go.Proofs.YtncnogndopgknaaGreatDoor
namespace Go.Proofs.YtncnogndopgknaaGreatDoor
namespace S
structure Opn where
  val : Nat
  lab : List UInt8
  col : Nat
deriving DecidableEq
structure Kd where
  name : List UInt8
  shape : List UInt8
  least : Nat
  op : Nat
deriving DecidableEq
structure Lt where
  k : Kd
  ops : List Opn
  at' : Nat
  place : Nat
  line : Nat
structure St where
  ws : List Nat
  labs : List (List UInt8 × Nat)
  lat : List Lt
def find1 (f : Nat → List UInt8) (lo : Nat) : Nat → List UInt8 → Option Nat
  | 0, _ => none
  | n + 1, s => match find1 f lo n s with
    | some k => some k
    | none => if lo ≤ n ∧ f n = s then some n else none
def opOf (s : List UInt8) : Option Nat := find1 (fun n => nameT.getD n []) 1 25 s
def condOf (s : List UInt8) : Option Nat := find1 (fun n => condT.getD n []) 0 7 s
def wordN : List UInt8 := [119, 111, 114, 100]
def liN : List UInt8 := [108, 105]
def zeroN : List UInt8 := [122, 101, 114, 111]
def kindOf (s : List UInt8) : Option Kd :=
  if s = wordN then some ⟨s, [120], 1, 0⟩ else if s = liN then some ⟨s, [97, 120], 2, 0⟩ else if s = zeroN then some ⟨s, [110], 0, 0⟩
  else (opOf s).map fun n => ⟨s, shapeT.getD n [], 1, n⟩
def upTo (s : List UInt8) (most : Nat) : Option Nat := match T.number s with | some n => if n ≤ most then some n else none | none => none
def u32 (v : Int) : Nat := (v % 4294967296).toNat
def between (s : List UInt8) (least most : Int) : Option Nat := match T.signed s with | some v => if least ≤ v ∧ v ≤ most then some (u32 v) else none | none => none
def register (s : List UInt8) : Option Nat := if [114].isPrefixOf s then between (s.drop 1) 0 14 else none
def readNumber (l : Nat) (s : List UInt8) : Option Nat :=
  if l = 97 ∨ l = 98 ∨ l = 99 then register s else if l = 107 then condOf s else if l = 117 then upTo s 65535 else if l = 115 ∨ l = 111 then between s (-32768) 32767
  else if l = 110 then upTo s 2048 else match upTo s 4294967295 with | some n => some n | none => between s (-2147483648) 2147483647
def readOperand (l : Nat) (w : T.Wd) : Option Opn :=
  if w.quoted then none else if (l = 111 ∨ l = 120) ∧ T.name w.text = true then some ⟨0, w.text, w.col⟩ else (readNumber l w.text).map fun v => ⟨v, [], 0⟩
def rdOps (nc : Nat) : List Nat → List T.Wd → (Int × Nat) ⊕ List Opn
  | [], [] => .inr []
  | [], w :: _ => .inl (62, w.col)
  | _ :: _, [] => .inl (62, nc)
  | l :: ls, w :: ws => match readOperand l w with
    | none => .inl (61, w.col)
    | some o => match rdOps nc ls ws with
      | .inl f => .inl f
      | .inr os => .inr (o :: os)
def i32 (v : Nat) : Int := if v < 2147483648 then v else (v : Int) - 4294967296
def half (op r n : Nat) : Nat := (enc ⟨op, 0, r, 0, 0, i32 n⟩).toNat
def putL (i : Ins) (l v : Nat) : Ins := if l = 97 then { i with a := v } else if l = 98 then { i with b := v } else if l = 99 then { i with c := v } else if l = 107 then { i with cond := v } else { i with imm := i32 v }
def insOf (k : Kd) (os : List Opn) : Ins := ((k.shape.map (·.toNat)).zip os).foldl (fun i x => putL i x.1 x.2.val) ⟨k.op, 0, 0, 0, 0, 0⟩
def words (k : Kd) (os : List Opn) : List Nat :=
  if k.name = wordN then [(os.getD 0 ⟨0, [], 0⟩).val] else if k.name = liN then
    [half 1 (os.getD 0 ⟨0, [], 0⟩).val ((os.getD 1 ⟨0, [], 0⟩).val % 65536), half 2 (os.getD 0 ⟨0, [], 0⟩).val ((os.getD 1 ⟨0, [], 0⟩).val / 65536)]
  else if k.name = zeroN then List.replicate (os.getD 0 ⟨0, [], 0⟩).val 0 else [(enc (insOf k os)).toNat]
def lats (k : Kd) (os : List Opn) (place line : Nat) : List Lt := ((List.range os.length).filter fun i => decide ((os.getD i ⟨0, [], 0⟩).lab ≠ [])).map fun i => ⟨k, os, i, place, line⟩
def stmt (line : Nat) (st : St) (name : T.Wd) (rest : List T.Wd) : (Int × Nat) ⊕ St :=
  match kindOf name.text with
  | none => .inl (60, name.col)
  | some k =>
    if name.quoted then .inl (60, name.col)
    else if 2048 < st.ws.length + k.least then .inl (66, name.col)
    else match rdOps name.col (k.shape.map (·.toNat)) rest with
      | .inl f => .inl f
      | .inr os => if 2048 < st.ws.length + (words k os).length then .inl (66, name.col)
        else .inr ⟨st.ws ++ words k os, st.labs, st.lat ++ lats k os st.ws.length line⟩
def isDef (w : T.Wd) : Bool := !w.quoted && Lib.hasSuffix w.text [58]
def has (labs : List (List UInt8 × Nat)) (n : List UInt8) : Bool := labs.any fun x => x.1 == n
def lay (line : Nat) (st : St) : List T.Wd → (Int × Nat) ⊕ St
  | [] => .inr st
  | w :: ws => if isDef w then
      (if T.name (Lib.trimSuffix w.text [58]) = true then
        (if has st.labs (Lib.trimSuffix w.text [58]) then .inl (63, w.col) else lay line { st with labs := st.labs ++ [(Lib.trimSuffix w.text [58], st.ws.length)] } ws)
      else .inl (60, w.col))
    else stmt line st w ws
def lines (st : St) (n : Nat) : List (List UInt8) → (Int × Nat × Nat) ⊕ St
  | [] => .inr st
  | l :: ls => match T.rd l 0 with
    | .inl x => .inl (40, n + 1, x + 1)
    | .inr ws => match lay (n + 1) st ws with
      | .inl f => .inl (f.1, n + 1, f.2)
      | .inr st' => lines st' (n + 1) ls
def look (labs : List (List UInt8 × Nat)) (n : List UInt8) : Option Nat := (labs.find? fun x => x.1 == n).map (·.2)
def meaning (base : Nat) (l target place : Nat) : Option Nat :=
  if l = 111 then (if (target : Int) - place - 1 < -32768 ∨ 32767 < (target : Int) - place - 1 then none else some (u32 ((target : Int) - place - 1))) else some ((base + 4 * target) % 4294967296)
def over (ws : List Nat) (p : Nat) (xs : List Nat) : List Nat := ws.take p ++ xs.take (ws.length - p) ++ ws.drop (p + xs.length)
def fin (base : Nat) (labs : List (List UInt8 × Nat)) : List Nat → List Lt → (Int × Nat × Nat) ⊕ List Nat
  | ws, [] => .inr ws
  | ws, t :: ts => match look labs (t.ops.getD t.at' ⟨0, [], 0⟩).lab with
    | none => .inl (64, t.line, (t.ops.getD t.at' ⟨0, [], 0⟩).col)
    | some g => match meaning base ((t.k.shape.map (·.toNat)).getD t.at' 0) g t.place with
      | none => .inl (65, t.line, (t.ops.getD t.at' ⟨0, [], 0⟩).col)
      | some v => fin base labs (over ws t.place (words t.k (t.ops.set t.at' { t.ops.getD t.at' ⟨0, [], 0⟩ with val := v }))) ts
def read (s : List UInt8) : (Int × Nat × Nat) ⊕ St := if 65536 < s.length then .inl (2, 0, 0) else lines ⟨[], [], []⟩ 0 (T.lines s)
def asm (s : List UInt8) (base : Nat) : (Int × Nat × Nat) ⊕ (List Nat × List (List UInt8 × Nat)) :=
  match read s with
  | .inl f => .inl f
  | .inr st => match fin base st.labs st.ws st.lat with
    | .inl f => .inl f
    | .inr ws => .inr (ws, st.labs)
end S
end Go.Proofs.YtncnogndopgknaaGreatDoor
namespace Go.Proofs.YtncnogndopgknaaGreatDoor
open Go.RowKit
theorem ret_val {a b : Value} (h : a = b) : Ending.returned a = .returned b := by rw [h]
def numRes (r : Option Nat) : Value := match r with
  | some v => .tuple #[.int .u32 (v : Int), .int .i64 0]
  | none => .tuple #[.int .u32 0, .int .i64 41]

theorem all_at (s : ByteArray) (f : UInt8 → Bool) (k : Nat) (h : k < s.size) (hf : f s[k] = false) : s.data.toList.all f = false := by
  rw [← List.take_append_drop k s.data.toList, List.all_append, drop_get s k h, List.all_cons, hf]
  simp

set_option maxHeartbeats 1000000 in
theorem tens_any (W : World) (s : ByteArray) (m : Nat) (hm : m ≤ 4294967295) (hs : s.size ≤ 1000000000) (M : Int) (hM : M = (m : Int)) :
    Calls Tryz.prog 172 #[.string s, .int .u64 M] W fun e W' => e = .returned (numRes (T.tens s.data.toList m)) ∧ W = W' := by
  generalize hr0 : numRes (T.tens s.data.toList m) = r0
  have m1 : (0 : Int) ≤ M := by omega
  have m2 : M ≤ 4294967295 := by omega
  have HM : Hid (M = (m : Int)) := hM
  clear hM
  by_cases h0 : s.size = 0
  · have hse := emp s h0
    have HR : Hid (.tuple #[.int .u32 0, .int .i64 41] = r0) := hid (by rw [← hr0, hse]; rfl)
    clear hr0 hs h0 hm
    subst hse
    go_enter Tryz.func172, Tryz.ntmps172
    go_wp2_with fail
    go_ret2
    exact ⟨ret_val HR.out, rfl⟩
  · have hlt : 0 < s.size := by omega
    obtain ⟨n1, n2, n3⟩ := ne_nil s hlt
    have b1 : (0 : Int) < (s.size : Int) := by omega
    by_cases h10 : s.size ≤ 10
    · have b2 : (s.size : Int) ≤ 10 := by omega
      by_cases hz : s[0].toNat = 48 ∧ 1 < s.size
      · have e1 : ((s[0].toNat : Int) == 48) = true := by rw [hz.1]; rfl
        have e2 : (1 : Int) < (s.size : Int) := by omega
        have HR : Hid (.tuple #[.int .u32 0, .int .i64 41] = r0) := hid (by
          rw [← hr0]
          unfold T.tens
          rw [if_pos (.inr (.inr (by rw [n3, size_list]; exact hz)))]
          rfl)
        clear hr0 h0 hm n3 hz
        go_enter Tryz.func172, Tryz.ntmps172
        go_wp2_with fail
        go_ret2
        exact ⟨ret_val HR.out, rfl⟩
      · have HR : Hid (numRes (if s.data.toList.all T.isDig then (if T.val s.data.toList ≤ m then some (T.val s.data.toList) else none) else none) = r0) := hid (by
          have hneg : ¬ (s.data.toList.length = 0 ∨ 10 < s.data.toList.length ∨ (s.data.toList.headD 0).toNat = 48 ∧ 1 < s.data.toList.length) := by
            rw [n3, size_list]
            omega
          rw [← hr0]
          unfold T.tens
          rw [if_neg hneg])
        have hz' : ((s[0].toNat : Int) == 48) = false ∨ (((s[0].toNat : Int) == 48) = true ∧ (s.size : Int) ≤ 1) := by
          by_cases h : s[0].toNat = 48
          · right; exact ⟨by rw [h]; rfl, by omega⟩
          · left; simp; omega
        clear hr0 h0 n3 hz
        rcases hz' with hz | ⟨hz, hz2⟩
        all_goals
          go_enter Tryz.func172, Tryz.ntmps172
          go_wp2_with fail
          go_loopw [6, 7, 27] (fun n _ i wr => ∃ (k : Nat) (a : Int), k ≤ s.size ∧ i = .int .i64 k ∧ n = .int .u64 a ∧ 0 ≤ a ∧ a < 10000000000 ∧ Hid (a = (T.val (s.data.toList.take k) : Int) ∧ (s.data.toList.take k).all T.isDig = true) ∧ W = wr) (fun _ _ i _ => s.size - (intOf i).toNat)
          case atStart => exact ⟨0, 0, Nat.zero_le _, rfl, rfl, by omega, by omega, hid ⟨by simp [T.val], by simp⟩, rfl⟩
          case round =>
            obtain ⟨k, a, hk, rfl, rfl, ha0, ha1, ha, rfl⟩ := hrel
            by_cases hk2 : k < s.size
            · have c1 : (k : Int) < (s.size : Int) := by omega
              have HD := digit_any s[k]
              cases hD : T.isDig s[k] with
              | true =>
                rw [hD] at HD
                have h1 := hD
                simp [T.isDig] at h1
                have d1 : (48 : Int) ≤ s[k].toNat := by omega
                have d2 : (s[k].toNat : Int) ≤ 57 := by omega
                have hs1 := T.val_snoc (s.data.toList.take k) s[k]
                have hall : (s.data.toList.take (k + 1)).all T.isDig = true := by rw [take_snoc s k hk2, List.all_append, ha.out.2]; simp [hD]
                have hlt1 := T.val_lt (s.data.toList.take (k + 1)) hall
                rw [List.length_take, size_list, Nat.min_eq_left (by omega)] at hlt1
                rw [← take_snoc s k hk2] at hs1
                have hpow : 10 ^ (k + 1) ≤ 10 ^ 10 := Nat.pow_le_pow_right (by decide) (by omega)
                have hnew : a * 10 + ((s[k].toNat : Int) - 48) = (T.val (s.data.toList.take (k + 1)) : Int) := by
                  rw [hs1, ha.out.1]
                  simp only [T.dv]
                  omega
                have q1 : a * 10 + ((s[k].toNat : Int) - 48) < 10000000000 := by
                  rw [hnew]
                  omega
                have HN : Hid (a * 10 + ((s[k].toNat : Int) - 48) = (T.val (s.data.toList.take (k + 1)) : Int) ∧ (s.data.toList.take (k + 1)).all T.isDig = true) := ⟨hnew, hall⟩
                clear hnew hall hlt1 hs1 hpow h1 hD ha HR
                go_wp2_with fail
                refine (HD _).mono ?_
                rintro e w' ⟨rfl, rfl⟩
                go_wp2_with fail
                go_roundw
                case rel => exact ⟨k + 1, _, by omega, by go_num, rfl, by omega, q1, HN, trivial⟩
                case measure => simp [intOf]; omega
              | false =>
                rw [hD] at HD
                have HF : Hid (.tuple #[.int .u32 0, .int .i64 41] = r0) := hid (by
                  rw [← HR.out, if_neg (by rw [all_at s _ k hk2 hD]; simp)]
                  rfl)
                clear ha HR hD
                go_wp2_with fail
                refine (HD _).mono ?_
                rintro e w' ⟨rfl, rfl⟩
                go_wp2_with fail
                go_ret2
                exact ⟨ret_val HF.out, rfl⟩
            · obtain rfl : k = s.size := by omega
              have h := ha.out
              rw [take_size] at h
              by_cases hle : a ≤ M
              · have HF : Hid (.tuple #[.int .u32 a, .int .i64 0] = r0) := hid (by
                  have hMM := HM.out
                  rw [← HR.out, if_pos h.2, if_pos (by omega), h.1]
                  rfl)
                have q1 : a ≤ 4294967295 := by omega
                clear ha HR h
                go_wp2_with fail
                go_ret2
                exact ⟨ret_val HF.out, rfl⟩
              · have HF : Hid (.tuple #[.int .u32 0, .int .i64 41] = r0) := hid (by
                  have hMM := HM.out
                  rw [← HR.out, if_pos h.2, if_neg (by omega)]
                  rfl)
                have q1 : M < a := by omega
                clear ha HR h hle
                go_wp2_with fail
                go_ret2
                exact ⟨ret_val HF.out, rfl⟩
    · have b2 : (10 : Int) < (s.size : Int) := by omega
      have HR : Hid (.tuple #[.int .u32 0, .int .i64 41] = r0) := hid (by
        rw [← hr0]
        unfold T.tens
        rw [if_pos (.inr (.inl (by rw [size_list]; omega)))]
        rfl)
      clear hr0 h0 n3 hm
      go_enter Tryz.func172, Tryz.ntmps172
      go_wp2_with fail
      go_ret2
      exact ⟨ret_val HR.out, rfl⟩
end Go.Proofs.YtncnogndopgknaaGreatDoor
