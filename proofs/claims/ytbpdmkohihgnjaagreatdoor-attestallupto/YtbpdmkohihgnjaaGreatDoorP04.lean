import Derived.ProofKit
import Derived.Lib.SplitLaws
import Derived.Test.YtbpdmkohihgnjaaGreatDoorChecked
import Derived.WalkKit
import Derived.WalkSpells
import Derived.WalkLawsBesides
import Derived.Deep.QuietTactic
import Derived.BigQuiet
import Derived.BigRegion
import Derived.Handy
import Derived.Deep.RegionWith
import Derived.Deep.RegionHeld3
import Derived.Deep.MidRow
import Derived.Deep.DrawnRows
import Derived.Lib.AppendStr
import Derived.Lib.UnsafeStr
import Derived.Laws.IdiomStrings
import Derived.Laws.AppendOwnNone
import Derived.Defers
import Derived.Recover
import Derived.WalkMore
import Derived.Laws.BitsAllLaws
import Derived.Deep.AppendLies
import Derived.Deep.WholeRow
import Derived.Laws.CopyOwn
import Derived.Laws.CopyRow
namespace Go.Proofs.YtbpdmkohihgnjaaGreatDoor.L
namespace T

def itself (c : UInt8) : Bool := 32 ≤ c.toNat && c.toNat ≤ 126 && c.toNat != 34 && c.toNat != 92
def isDig (c : UInt8) : Bool := 48 ≤ c.toNat && c.toNat ≤ 57
def isLet (c : UInt8) : Bool := 97 ≤ c.toNat && c.toNat ≤ 122
def isGap (c : UInt8) : Bool := c.toNat == 32 || c.toNat == 9
def hexT : List UInt8 := [48, 49, 50, 51, 52, 53, 54, 55, 56, 57, 97, 98, 99, 100, 101, 102]
def hexD (n : Nat) : UInt8 := hexT.getD n 0
def hexV (c : UInt8) : Option Nat := if isDig c then some (c.toNat - 48) else if 97 ≤ c.toNat && c.toNat ≤ 102 then some (c.toNat - 87) else none

theorem hexD_inv (n : Nat) (h : n < 16) : hexV (hexD n) = some n := by
  revert n
  decide +kernel
theorem hexV_lt {c : UInt8} {n : Nat} (h : hexV c = some n) : n < 16 ∧ hexD n = c := by
  have hc := c.toNat_lt
  have e : c = UInt8.ofNat c.toNat := by simp
  rw [e] at h ⊢
  generalize c.toNat = k at hc h
  clear e
  revert n
  revert k
  decide +kernel

def one (c : UInt8) : List UInt8 := if itself c then [c] else [92, 120, hexD (c.toNat / 16), hexD (c.toNat % 16)]
def quoteB (b : List UInt8) : List UInt8 := (b.map one).flatten
def quote (b : List UInt8) : List UInt8 := 34 :: (quoteB b ++ [34])

def esc (t : List UInt8) : Option UInt8 :=
  match t with
  | x :: h :: l :: _ => if x.toNat = 120 then
      match hexV h, hexV l with
      | some a, some b => if itself (UInt8.ofNat (a * 16 + b)) then none else some (UInt8.ofNat (a * 16 + b))
      | _, _ => none
      else none
  | _ => none

def sp (k : Nat) (xs : List UInt8) : Nat ⊕ (List UInt8 × Nat) → Nat ⊕ (List UInt8 × Nat)
  | .inl x => .inl (k + x)
  | .inr (b, n) => .inr (xs ++ b, k + n)
theorem sp_zero (r : Nat ⊕ (List UInt8 × Nat)) : sp 0 [] r = r := by cases r <;> simp [sp]
theorem sp_sp (k m : Nat) (xs ys : List UInt8) (r : Nat ⊕ (List UInt8 × Nat)) : sp k xs (sp m ys r) = sp (k + m) (xs ++ ys) r := by
  cases r <;> simp [sp] <;> omega

def unq (l : List UInt8) : Nat ⊕ (List UInt8 × Nat) :=
  match l with
  | [] => .inl 0
  | c :: t =>
    if c.toNat = 34 then .inr ([], 1)
    else if c.toNat = 92 then
      match esc t with
      | none => .inl 0
      | some x => sp 4 [x] (unq (t.drop 3))
    else if itself c then sp 1 [c] (unq t)
    else .inl 0
termination_by l.length
decreasing_by all_goals simp <;> omega

theorem unq_nil : unq [] = .inl 0 := by rw [unq]
theorem unq_end (c : UInt8) (t : List UInt8) (h : c.toNat = 34) : unq (c :: t) = .inr ([], 1) := by rw [unq]; simp [h]
theorem unq_esc (c : UInt8) (t : List UInt8) (x : UInt8) (h : c.toNat = 92) (he : esc t = some x) : unq (c :: t) = sp 4 [x] (unq (t.drop 3)) := by rw [unq]; simp [h, he]
theorem unq_noesc (c : UInt8) (t : List UInt8) (h : c.toNat = 92) (he : esc t = none) : unq (c :: t) = .inl 0 := by rw [unq]; simp [h, he]
theorem unq_self (c : UInt8) (t : List UInt8) (h : itself c = true) : unq (c :: t) = sp 1 [c] (unq t) := by
  rw [unq]
  have h' := h
  simp [itself] at h'
  simp [h, h'.1.2, h'.2]
theorem unq_bad (c : UInt8) (t : List UInt8) (h1 : c.toNat ≠ 34) (h2 : c.toNat ≠ 92) (h : itself c = false) : unq (c :: t) = .inl 0 := by rw [unq]; simp [h, h1, h2]

def okR (m : Nat) : Nat ⊕ (List UInt8 × Nat) → Prop
  | .inl x => x ≤ m
  | .inr (b, n) => n ≤ m ∧ b.length < n
theorem okR_sp {k m : Nat} {xs : List UInt8} {r : Nat ⊕ (List UInt8 × Nat)} (h : okR m r) (hx : xs.length ≤ k) : okR (k + m) (sp k xs r) := by
  match r, h with
  | .inl x, h => exact Nat.add_le_add_left h k
  | .inr (b, n), h => exact ⟨Nat.add_le_add_left h.1 k, by have := h.2; simp; omega⟩
theorem esc_three {t : List UInt8} {x : UInt8} (h : esc t = some x) : 3 ≤ t.length := by
  unfold esc at h
  split at h
  · simp
  · simp at h
theorem unq_le (l : List UInt8) : okR l.length (unq l) := by
  induction h : l.length using Nat.strongRecOn generalizing l with
  | _ n ih =>
    subst h
    cases l with
    | nil => rw [unq_nil]; exact Nat.le_refl _
    | cons c t =>
      by_cases h1 : c.toNat = 34
      · rw [unq_end c t h1]; exact ⟨by simp, by simp⟩
      · by_cases h2 : c.toNat = 92
        · cases he : esc t with
          | none => rw [unq_noesc c t h2 he]; exact Nat.zero_le _
          | some x =>
            rw [unq_esc c t x h2 he]
            have hl := esc_three he
            have := okR_sp (k := 4) (xs := [x]) (ih (t.drop 3).length (by simp; omega) (t.drop 3) rfl) (by simp)
            rwa [show 4 + (t.drop 3).length = (c :: t).length from by simp; omega] at this
        · cases hs : itself c with
          | false => rw [unq_bad c t h1 h2 hs]; exact Nat.zero_le _
          | true =>
            rw [unq_self c t hs]
            have := okR_sp (k := 1) (xs := [c]) (ih t.length (by simp) t rfl) (by simp)
            rwa [show 1 + t.length = (c :: t).length from by simp; omega] at this

def unquote (s : List UInt8) : Option (List UInt8) :=
  match s with
  | [] => none
  | c :: t => if c.toNat = 34 then
      match unq t with
      | .inl _ => none
      | .inr (b, n) => if n < t.length then none else some b
      else none
end T
end Go.Proofs.YtbpdmkohihgnjaaGreatDoor.L
namespace Go.Proofs.YtbpdmkohihgnjaaGreatDoor.L
namespace T
structure Wd where
  text : List UInt8
  quoted : Bool
  col : Nat
deriving DecidableEq
def cons (w : Wd) : Nat ⊕ List Wd → Nat ⊕ List Wd
  | .inl x => .inl x
  | .inr l => .inr (w :: l)
def pre (ws : List Wd) : Nat ⊕ List Wd → Nat ⊕ List Wd
  | .inl x => .inl x
  | .inr l => .inr (ws ++ l)
theorem pre_nil (r : Nat ⊕ List Wd) : pre [] r = r := by cases r <;> rfl
theorem pre_cons (ws : List Wd) (w : Wd) (r : Nat ⊕ List Wd) : pre ws (cons w r) = pre (ws ++ [w]) r := by cases r <;> simp [pre, cons]
def plainN (l : List UInt8) : Nat := (l.takeWhile fun c => !isGap c).length
theorem plainN_le (l : List UInt8) : plainN l ≤ l.length := by
  induction l with
  | nil => simp [plainN]
  | cons c t ih => simp only [plainN, List.takeWhile_cons]; split <;> simp [plainN] at * <;> omega
def parted (l : List UInt8) : Bool := match l with
  | [] => true
  | c :: _ => isGap c
def rd (l : List UInt8) (p : Nat) : Nat ⊕ List Wd :=
  match l with
  | [] => .inr []
  | c :: t =>
    if isGap c then rd t (p + 1)
    else if c.toNat = 35 then .inr []
    else if c.toNat = 34 then
      match unq t with
      | .inl x => .inl (p + 1 + x)
      | .inr (b, n) => if parted (t.drop n) then cons ⟨b, true, p + 1⟩ (rd (t.drop n) (p + 1 + n)) else .inl (p + 1 + n)
    else cons ⟨(c :: t).take (plainN (c :: t)), false, p + 1⟩ (rd (t.drop (plainN (c :: t) - 1)) (p + plainN (c :: t)))
termination_by l.length
decreasing_by all_goals simp <;> omega
theorem rd_nil (p : Nat) : rd [] p = .inr [] := by rw [rd]
theorem rd_gap {c : UInt8} (t : List UInt8) (p : Nat) (h : isGap c = true) : rd (c :: t) p = rd t (p + 1) := by rw [rd]; simp [h]
theorem rd_hash {c : UInt8} (t : List UInt8) (p : Nat) (h : isGap c = false) (h2 : c.toNat = 35) : rd (c :: t) p = .inr [] := by rw [rd]; simp [h, h2]
theorem rd_bad {c : UInt8} (t : List UInt8) (p x : Nat) (h : isGap c = false) (h2 : c.toNat = 34) (hu : unq t = .inl x) : rd (c :: t) p = .inl (p + 1 + x) := by rw [rd]; simp [h, h2, hu]
theorem rd_joined {c : UInt8} (t b : List UInt8) (p n : Nat) (h : isGap c = false) (h2 : c.toNat = 34) (hu : unq t = .inr (b, n)) (hp : parted (t.drop n) = false) : rd (c :: t) p = .inl (p + 1 + n) := by rw [rd]; simp [h, h2, hu, hp]
theorem rd_quoted {c : UInt8} (t b : List UInt8) (p n : Nat) (h : isGap c = false) (h2 : c.toNat = 34) (hu : unq t = .inr (b, n)) (hp : parted (t.drop n) = true) : rd (c :: t) p = cons ⟨b, true, p + 1⟩ (rd (t.drop n) (p + 1 + n)) := by rw [rd]; simp [h, h2, hu, hp]
theorem plainN_pos {c : UInt8} (t : List UInt8) (h : isGap c = false) : plainN (c :: t) = plainN t + 1 := by simp [plainN, h]
theorem rd_plain {c : UInt8} (t : List UInt8) (p : Nat) (h : isGap c = false) (h2 : c.toNat ≠ 35) (h3 : c.toNat ≠ 34) : rd (c :: t) p = cons ⟨(c :: t).take (plainN (c :: t)), false, p + 1⟩ (rd ((c :: t).drop (plainN (c :: t))) (p + plainN (c :: t))) := by
  rw [rd]
  simp only [h, h2, h3, if_false]
  rw [plainN_pos t h]
  simp
def words (l : List UInt8) : Nat ⊕ List Wd := rd l 0
end T
end Go.Proofs.YtbpdmkohihgnjaaGreatDoor.L
namespace Go.Proofs.YtbpdmkohihgnjaaGreatDoor.L
namespace T
open Go.Lib
def cutL : List UInt8 → List (List UInt8)
  | [] => [[]]
  | c :: t => if c = 10 then [] :: cutL t else match cutL t with
    | h :: r => (c :: h) :: r
    | [] => [[c]]
theorem cutL_ne (l : List UInt8) : cutL l ≠ [] := by
  cases l with
  | nil => simp [cutL]
  | cons c t =>
    simp only [cutL]
    split
    · simp
    · split <;> simp
theorem splitK_cut (l : List UInt8) : splitK [10] 0 (count l [10]) l = cutL l := by
  induction l with
  | nil => rw [count_miss (by simp [index])]; rfl
  | cons c t ih =>
    by_cases hc : c = 10
    · subst hc
      have hix : index (10 :: t) [10] = ((0 : Nat) : Int) := by rw [index]; simp [List.isPrefixOf]
      rw [count_cons_eq, Nat.add_comm 1, splitK, hix]
      simp only [cutL, if_true]
      rw [← ih]
      simp
    · have hp : ([10] : List UInt8).isPrefixOf (c :: t) = false := by simp [List.isPrefixOf, Ne.symm hc]
      have hix : index (c :: t) [10] = if index t [10] == -1 then -1 else index t [10] + 1 := by rw [index, hp]; simp
      rw [count_cons_ne c 10 t hc]
      simp only [cutL, if_neg hc]
      by_cases hm : index t [10] = -1
      · rw [count_miss hm] at ih ⊢
        rw [← ih]
        rfl
      · have hge := index_ge t [10]
        obtain ⟨j, hj⟩ : ∃ j : Nat, index t [10] = j := ⟨(index t [10]).toNat, by omega⟩
        have hix' : index (c :: t) [10] = ((j + 1 : Nat) : Int) := by rw [hix, if_neg (fun e => hm (beq_iff_eq.1 e)), hj]; omega
        have hcnt := count_hit (s := t) (sub := [10]) (by simp) hj
        obtain ⟨k, hk⟩ : ∃ k, count t [10] = k + 1 := ⟨count (t.drop (j + [10].length)) [10], by rw [hcnt]; omega⟩
        rw [hk] at ih ⊢
        rw [splitK, hj] at ih
        rw [splitK, hix']
        have n1 : ¬ ((j : Int) == -1) = true := by first | (simp; done) | (simp; omega)
        have n2 : ¬ (((j + 1 : Nat) : Int) == -1) = true := by first | (simp; done) | (simp; omega)
        rw [if_neg n1] at ih
        rw [if_neg n2, ← ih]
        simp
def lines (l : List UInt8) : List (List UInt8) := if (cutL l).getLast (cutL_ne l) = [] then (cutL l).dropLast else cutL l
theorem cutL_append (l m : List UInt8) (h : ∀ c ∈ l, c ≠ 10) : cutL (l ++ m) = match cutL m with
    | x :: r => (l ++ x) :: r
    | [] => [l] := by
  induction l with
  | nil => cases hm : cutL m with
    | nil => exact absurd hm (cutL_ne m)
    | cons x r => simp [hm]
  | cons c t ih =>
    have ih' := ih (fun x hx => h x (by simp [hx]))
    simp only [List.cons_append, cutL, if_neg (h c (by simp)), ih']
    cases hm : cutL m with
    | nil => exact absurd hm (cutL_ne m)
    | cons x r => simp
theorem cutL_line (l m : List UInt8) (h : ∀ c ∈ l, c ≠ 10) : cutL (l ++ 10 :: m) = l :: cutL m := by
  rw [cutL_append l _ h]; simp [cutL]
theorem cutL_last (l : List UInt8) (h : ∀ c ∈ l, c ≠ 10) : cutL l = [l] := by
  have := cutL_append l [] h
  simpa [cutL] using this
end T
end Go.Proofs.YtbpdmkohihgnjaaGreatDoor.L
namespace Go.Proofs.YtbpdmkohihgnjaaGreatDoor.L
open Go.RowKit

theorem ret_int {k : IntKind} {a b : Int} (h : a = b) : Ending.returned (.int k a) = .returned (.int k b) := by rw [h]
theorem ret_bool {a b : Bool} (h : a = b) : Ending.returned (.bool a) = .returned (.bool b) := by rw [h]
theorem Tryz.info5 : (Tryz.prog.info? 5).map (fun i => (i.zero, i.size, i.bytes)) = some (some (.int .u8 0), 1, 1) := by kernel_rfl

theorem byteCells_one (l : List UInt8) : ∀ v ∈ Lib.byteCells l, v.oneCell' = true := by
  intro v hv
  simp only [Lib.byteCells, List.mem_map] at hv
  obtain ⟨b, _, rfl⟩ := hv
  rfl
structure HB (W wr : World) (v : Value) (l : List UInt8) : Prop where
  own : wr.ownsRow W.heap.size 5 1 v l.length (Lib.byteCells l)
  below : Below W.heap.size W wr
theorem HB.start (W : World) : HB W W (.slice none 0 0) [] := ⟨World.ownsRow_nil W _ 5 1, Below.refl _ _⟩
theorem HB.alloc {W wr : World} {v : Value} {l : List UInt8} (h : HB W wr v l) (o : Obj) : HB W (wr.alloc o) v l := ⟨h.own.alloc o, h.below.alloc h.below.size o⟩
theorem HB.grow {W w w' : World} {v v' : Value} {l m : List UInt8} (H : HB W w v l) (h1 : w'.ownsRow W.heap.size 5 1 v' (l.length + m.length) (Lib.byteCells l ++ Lib.byteCells m)) (h2 : w.grownBy w' v.ownBlock) : HB W w' v' (l ++ m) := by
  refine ⟨?_, H.below.grown h2 H.below.size fun g hg => (H.own.lt g hg).1⟩
  rw [Lib.byteCells_append, List.length_append]
  exact h1
theorem wpList_append_bytes {P : Program} {W w : World} {ops : Array Oper} {rest : List Oper} {o : Oper} {a : Act} {Q : Exit → Act → World → Prop} (hgd : o.guard = none) (s x : Operand) (t : TypeId)
    (ho : o.op = .call { callee := .builtin .append, args := #[s, x], argTypes := #[t, t] }) (i : TypeInfo) (ht : P.underlying t = some (.slice 5)) (hi : P.info? 5 = some i) (hz : i.zero = some (.int .u8 0)) (hsize : i.size = 1) (hby : i.bytes = 1)
    (v : Value) (l : List UInt8) (hs : a.eval s = v) (H : HB W w v l) (ad : Addr) (n c : Nat) (m : List UInt8) (hx : a.eval x = .slice (some ad) n c) (hl : m.length = n) (hc : ∀ j u, (Lib.byteCells m)[j]? = some u → w.cell? (ad.add j) = some u) (h63 : l.length + n ≤ 140737488355328)
    (h : ∀ v' w', HB W w' v' (l ++ m) → wpList P ops Q rest (a.put o.dst v') w') : wpList P ops Q (o :: rest) a w := by
  subst hl
  obtain ⟨v', w', hr, h1, h2, _⟩ := run_append_own (P := P) w W.heap.size t o.type 5 i (.int .u8 0) 1 1 ht hi hz hsize hby rfl (by decide) v l.length _ H.own ad m.length c (Lib.byteCells m) (by simp [Lib.byteCells]) hc (byteCells_one m) (by unfold maxLen; omega) (by omega) H.below.size
  refine wpList_plain hgd fun K hK => ?_
  unfold Oper.wp execOp
  simp only [ho, resolve, invoke, builtin, Sem.run_bind, Sem.run_pure, Result.andThen_ok, List.map_toArray, List.map_cons, List.map_nil, hs, hx, hr]
  exact hK _ _ (h _ _ (H.grow h1 h2))
theorem cells_new (W : World) (e : TypeId) (C : Array Value) (m : List UInt8) (hC : C = (Lib.byteCells m).toArray) : ∀ j u, (Lib.byteCells m)[j]? = some u → (W.alloc (.cells C e)).cell? ((⟨W.heap.size, 0, none⟩ : Addr).add j) = some u := by
  intro j u hu
  subst hC
  rw [Addr.add_mid]
  rw [World.cell?_alloc_new, Nat.zero_add]
  simpa using hu
end Go.Proofs.YtbpdmkohihgnjaaGreatDoor.L
namespace Go.Proofs.YtbpdmkohihgnjaaGreatDoor.L
open Go.RowKit

theorem itself_any (c : UInt8) (w : World) : Calls Tryz.prog 125 #[.int .u8 (c.toNat : Int)] w fun e w' => e = .returned (.bool (T.itself c)) ∧ w = w' := by
  have hc := c.toNat_lt
  go_enter Tryz.func125, Tryz.ntmps125
  go_wp2
  all_goals go_ret
  all_goals exact ⟨ret_bool (by rw [Bool.eq_iff_iff]; simp [T.itself]; omega), rfl⟩
theorem digit_any (c : UInt8) (w : World) : Calls Tryz.prog 95 #[.int .u8 (c.toNat : Int)] w fun e w' => e = .returned (.bool (T.isDig c)) ∧ w = w' := by
  have hc := c.toNat_lt
  go_enter Tryz.func95, Tryz.ntmps95
  go_wp2
  all_goals go_ret
  all_goals exact ⟨ret_bool (by rw [Bool.eq_iff_iff]; simp [T.isDig]; omega), rfl⟩
theorem letter_any (c : UInt8) (w : World) : Calls Tryz.prog 94 #[.int .u8 (c.toNat : Int)] w fun e w' => e = .returned (.bool (T.isLet c)) ∧ w = w' := by
  have hc := c.toNat_lt
  go_enter Tryz.func94, Tryz.ntmps94
  go_wp2
  all_goals go_ret
  all_goals exact ⟨ret_bool (by rw [Bool.eq_iff_iff]; simp [T.isLet]; omega), rfl⟩
theorem gap_any (c : UInt8) (w : World) : Calls Tryz.prog 109 #[.int .u8 (c.toNat : Int)] w fun e w' => e = .returned (.bool (T.isGap c)) ∧ w = w' := by
  have hc := c.toNat_lt
  go_enter Tryz.func109, Tryz.ntmps109
  go_wp2
  all_goals go_ret
  all_goals exact ⟨ret_bool (by rw [Bool.eq_iff_iff]; simp [T.isGap]; omega), rfl⟩
theorem hexValue_some (c : UInt8) (n : Nat) (h : T.hexV c = some n) (w : World) : Calls Tryz.prog 135 #[.int .u8 (c.toNat : Int)] w fun e w' => e = .returned (.tuple #[.int .u8 (n : Int), .bool true]) ∧ w = w' := by
  have hc := c.toNat_lt
  unfold T.hexV at h
  have h1 : T.isDig c = true ∨ (T.isDig c = false ∧ (97 : Int) ≤ c.toNat ∧ (c.toNat : Int) ≤ 102) := by
    split at h
    · left; assumption
    · split at h
      · rename_i h1 h2; right; simp at h2; exact ⟨by simpa using h1, by omega, by omega⟩
      · simp at h
  rcases h1 with h1 | ⟨h1, h2, h3⟩
  · simp [h1] at h
    have h4 := h1
    simp [T.isDig] at h4
    have hn : ((c.toNat : Int) - 48) = (n : Int) := by omega
    have b1 : (48 : Int) ≤ c.toNat := by omega
    have b2 : (c.toNat : Int) ≤ 57 := by omega
    clear h h4 hc
    go_enter Tryz.func135, Tryz.ntmps135
    go_wp2_with (go_at_call 95; refine (digit_any c _).mono ?_; rintro e w' ⟨rfl, rfl⟩)
    go_ret2
    exact ⟨rfl, rfl⟩
  · have h5 : (decide (97 ≤ c.toNat) && decide (c.toNat ≤ 102)) = true := by simp; omega
    simp [h1, h5] at h
    have hn : ((c.toNat : Int) - 97 + 10) = (n : Int) := by omega
    clear h h5 hc
    go_enter Tryz.func135, Tryz.ntmps135
    go_wp2_with (go_at_call 95; refine (digit_any c _).mono ?_; rintro e w' ⟨rfl, rfl⟩)
    go_ret2
    exact ⟨rfl, rfl⟩
theorem hexValue_none (c : UInt8) (h : T.hexV c = none) (w : World) : Calls Tryz.prog 135 #[.int .u8 (c.toNat : Int)] w fun e w' => e = .returned (.tuple #[.int .u8 0, .bool false]) ∧ w = w' := by
  have hc := c.toNat_lt
  unfold T.hexV at h
  have h1 : T.isDig c = false ∧ ((c.toNat : Int) < 97 ∨ (102 : Int) < c.toNat) := by
    split at h
    · simp at h
    · split at h
      · simp at h
      · rename_i h1 h2; simp at h2; exact ⟨by simpa using h1, by omega⟩
  obtain ⟨h1, h2⟩ := h1
  clear h hc
  rcases h2 with h2 | h2
  · go_enter Tryz.func135, Tryz.ntmps135
    go_wp2_with (go_at_call 95; refine (digit_any c _).mono ?_; rintro e w' ⟨rfl, rfl⟩)
    go_ret2
    exact ⟨rfl, rfl⟩
  · have h3 : (97 : Int) ≤ c.toNat := by omega
    go_enter Tryz.func135, Tryz.ntmps135
    go_wp2_with (go_at_call 95; refine (digit_any c _).mono ?_; rintro e w' ⟨rfl, rfl⟩)
    go_ret2
    exact ⟨rfl, rfl⟩
end Go.Proofs.YtbpdmkohihgnjaaGreatDoor.L
namespace Go.Proofs.YtbpdmkohihgnjaaGreatDoor.L
open Go.RowKit

theorem drop_get (s : ByteArray) (k : Nat) (h : k < s.size) : s.data.toList.drop k = s[k] :: s.data.toList.drop (k + 1) := by
  rw [List.drop_eq_getElem_cons (by simpa using h)]
  rfl
theorem size_list (s : ByteArray) : s.data.toList.length = s.size := rfl
theorem or_bits : ∀ a : Nat, a < 16 → ∀ b : Nat, b < 16 → bits .or .u8 ((a : Int) * 16) (b : Int) = ((a * 16 + b : Nat) : Int) := by
  have h : ∀ a : Fin 16, ∀ b : Fin 16, bits .or .u8 ((a.val : Int) * 16) (b.val : Int) = ((a.val * 16 + b.val : Nat) : Int) := by decide +kernel
  exact fun a ha b hb => h ⟨a, ha⟩ ⟨b, hb⟩
theorem esc_at (s : ByteArray) (k : Nat) (h4 : k + 4 ≤ s.size) : T.esc (s.data.toList.drop (k + 1)) = if s[k + 1].toNat = 120 then (match T.hexV s[k + 2], T.hexV s[k + 3] with
      | some a, some b => if T.itself (UInt8.ofNat (a * 16 + b)) then none else some (UInt8.ofNat (a * 16 + b))
      | _, _ => none) else none := by
  rw [drop_get s (k + 1) (by omega), drop_get s (k + 2) (by omega), drop_get s (k + 3) (by omega)]
  rfl
theorem esc_short (s : ByteArray) (k : Nat) (h4 : s.size < k + 4) : T.esc (s.data.toList.drop (k + 1)) = none := by
  cases h : T.esc (s.data.toList.drop (k + 1)) with
  | none => rfl
  | some x =>
    have := T.esc_three h
    simp at this
    have : s.data.size = s.size := rfl
    omega

theorem escaped_two (s : ByteArray) (k : Nat) (hs : s.size ≤ 1000000000) (h4 : k + 4 ≤ s.size) (a b : Nat) (h1 : s[k + 1].toNat = 120) (h2 : T.hexV s[k + 2] = some a) (h3 : T.hexV s[k + 3] = some b) (x : UInt8) (hx : x = UInt8.ofNat (a * 16 + b)) (t : Bool) (hi : T.itself x = t) (w : World) :
    Calls Tryz.prog 124 #[.string s, .int .i64 (k : Int)] w fun e w' => e = (if t then .panicked [{ v := .iface 176 (.int .i64 (k : Int)), recovered := false }] else .returned (.int .u8 (x.toNat : Int))) ∧ w = w' := by
  have b2 : (s.size : Int) ≤ 1000000000 := by omega
  have b3 : (k : Int) + 4 ≤ (s.size : Int) := by omega
  have c1 : ((s[k + 1].toNat : Int) != 120) = false := by rw [h1]; rfl
  have ha := (T.hexV_lt h2).1
  have hb := (T.hexV_lt h3).1
  have ho : bits .or .u8 ((a : Int) * 16) (b : Int) = (x.toNat : Int) := by
    rw [or_bits a ha b hb, hx, UInt8.toNat_ofNat']
    omega
  have H2 := hexValue_some _ a h2
  have H3 := hexValue_some _ b h3
  have HI := itself_any x
  rw [hi] at HI
  clear h1 h2 h3 hx hi
  cases t
  all_goals
    go_enter Tryz.func124, Tryz.ntmps124
    go_wp2_with fail
    refine (H2 _).mono ?_
    rintro e w' ⟨rfl, rfl⟩
    go_wp2_with fail
    refine (H3 _).mono ?_
    rintro e w' ⟨rfl, rfl⟩
    go_wp2_with fail
    refine (HI _).mono ?_
    rintro e w' ⟨rfl, rfl⟩
    go_wp2_with fail
  · go_ret
    exact ⟨rfl, rfl⟩
  · exact ⟨rfl, rfl, rfl⟩
theorem escaped_bad (s : ByteArray) (k : Nat) (hs : s.size ≤ 1000000000) (h4 : k + 4 ≤ s.size) (h1 : s[k + 1].toNat = 120) (h2 : T.hexV s[k + 2] = none ∨ T.hexV s[k + 3] = none) (w : World) :
    Calls Tryz.prog 124 #[.string s, .int .i64 (k : Int)] w fun e w' => e = .panicked [{ v := .iface 176 (.int .i64 (k : Int)), recovered := false }] ∧ w = w' := by
  have b2 : (s.size : Int) ≤ 1000000000 := by omega
  have b3 : (k : Int) + 4 ≤ (s.size : Int) := by omega
  have c1 : ((s[k + 1].toNat : Int) != 120) = false := by rw [h1]; rfl
  cases e2 : T.hexV s[k + 2] with
  | none =>
    have H2 := hexValue_none _ e2
    cases e3 : T.hexV s[k + 3] with
    | none =>
      have H3 := hexValue_none _ e3
      clear h1 h2 e2 e3
      go_enter Tryz.func124, Tryz.ntmps124
      go_wp2_with fail
      refine (H2 _).mono ?_
      rintro e w' ⟨rfl, rfl⟩
      go_wp2_with fail
      refine (H3 _).mono ?_
      rintro e w' ⟨rfl, rfl⟩
      go_wp2_with fail
      exact ⟨rfl, rfl, rfl⟩
    | some b =>
      have H3 := hexValue_some _ b e3
      have hb := (T.hexV_lt e3).1
      clear h1 h2 e2 e3
      go_enter Tryz.func124, Tryz.ntmps124
      go_wp2_with fail
      refine (H2 _).mono ?_
      rintro e w' ⟨rfl, rfl⟩
      go_wp2_with fail
      refine (H3 _).mono ?_
      rintro e w' ⟨rfl, rfl⟩
      go_wp2_with fail
      exact ⟨rfl, rfl, rfl⟩
  | some a =>
    have H2 := hexValue_some _ a e2
    have ha := (T.hexV_lt e2).1
    have e3 : T.hexV s[k + 3] = none := by
      rcases h2 with h2 | h2
      · rw [e2] at h2; cases h2
      · exact h2
    have H3 := hexValue_none _ e3
    clear h1 h2 e2 e3
    go_enter Tryz.func124, Tryz.ntmps124
    go_wp2_with fail
    refine (H2 _).mono ?_
    rintro e w' ⟨rfl, rfl⟩
    go_wp2_with fail
    refine (H3 _).mono ?_
    rintro e w' ⟨rfl, rfl⟩
    go_wp2_with fail
    exact ⟨rfl, rfl, rfl⟩
theorem escaped_short (s : ByteArray) (k : Nat) (hs : s.size ≤ 1000000000) (hk : k < s.size) (h4 : s.size < k + 4 ∨ ∃ h : k + 1 < s.size, k + 4 ≤ s.size ∧ s[k + 1].toNat ≠ 120) (w : World) :
    Calls Tryz.prog 124 #[.string s, .int .i64 (k : Int)] w fun e w' => e = .panicked [{ v := .iface 176 (.int .i64 (k : Int)), recovered := false }] ∧ w = w' := by
  have b1 : (k : Int) < (s.size : Int) := by omega
  have b2 : (s.size : Int) ≤ 1000000000 := by omega
  rcases h4 with h4 | ⟨h0, h4, h1⟩
  · have b3 : (s.size : Int) < (k : Int) + 4 := by omega
    go_enter Tryz.func124, Tryz.ntmps124
    go_wp2_with fail
    exact ⟨rfl, rfl, rfl⟩
  · have b3 : (k : Int) + 4 ≤ (s.size : Int) := by omega
    have c1 : ((s[k + 1].toNat : Int) != 120) = true := by rw [bne_iff_ne]; omega
    clear h1
    go_enter Tryz.func124, Tryz.ntmps124
    go_wp2_with fail
    exact ⟨rfl, rfl, rfl⟩
theorem escaped_any (s : ByteArray) (k : Nat) (hs : s.size ≤ 1000000000) (hk : k < s.size) (w : World) :
    Calls Tryz.prog 124 #[.string s, .int .i64 (k : Int)] w fun e w' => e = (match T.esc (s.data.toList.drop (k + 1)) with
      | some x => .returned (.int .u8 (x.toNat : Int))
      | none => .panicked [{ v := .iface 176 (.int .i64 (k : Int)), recovered := false }]) ∧ w = w' := by
  by_cases h4 : k + 4 ≤ s.size
  · rw [esc_at s k h4]
    by_cases h1 : s[k + 1].toNat = 120
    · rw [if_pos h1]
      cases h2 : T.hexV s[k + 2] with
      | none => exact escaped_bad s k hs h4 h1 (.inl h2) w
      | some a =>
        cases h3 : T.hexV s[k + 3] with
        | none => exact escaped_bad s k hs h4 h1 (.inr h3) w
        | some b =>
          have := escaped_two s k hs h4 a b h1 h2 h3 _ rfl _ rfl w
          revert this
          show _ → Calls Tryz.prog 124 _ w fun e w' => e = (match (if T.itself (UInt8.ofNat (a * 16 + b)) then none else some (UInt8.ofNat (a * 16 + b))) with
            | some x => .returned (.int .u8 (x.toNat : Int))
            | none => .panicked [{ v := .iface 176 (.int .i64 (k : Int)), recovered := false }]) ∧ w = w'
          generalize UInt8.ofNat (a * 16 + b) = x
          cases hi : T.itself x with
          | true => exact id
          | false => exact id
    · rw [if_neg h1]
      exact escaped_short s k hs hk (.inr ⟨by omega, h4, h1⟩) w
  · rw [esc_short s k (by omega)]
    exact escaped_short s k hs hk (.inl (by omega)) w
end Go.Proofs.YtbpdmkohihgnjaaGreatDoor.L
namespace Go.Proofs.YtbpdmkohihgnjaaGreatDoor.L
open Go.RowKit

theorem hid {p : Prop} (h : p) : Hid p := h
def brk (p : Nat) : Ending := .panicked [{ v := .iface 176 (.int .i64 (p : Int)), recovered := false }]
def UnqPost (W : World) (k : Nat) (r : Nat ⊕ (List UInt8 × Nat)) (e : Ending) (W' : World) : Prop :=
  match r with
  | .inl x => e = brk (k + 1 + x) ∧ Below W.heap.size W W'
  | .inr (b, n) => ∃ v, e = .returned (.tuple #[v, .int .i64 ((k + 1 + n : Nat) : Int)]) ∧ HB W W' v b
theorem UnqPost.bad {W W' : World} {k x p : Nat} {r : Nat ⊕ (List UInt8 × Nat)} (hr : r = .inl x) (hp : p = k + 1 + x) (hb : Below W.heap.size W W') : UnqPost W k r (.panicked [{ v := .iface 176 (.int .i64 (p : Int)), recovered := false }]) W' := by
  subst hr hp; exact ⟨rfl, hb⟩
theorem UnqPost.good {W W' : World} {k n : Nat} {p : Int} {r : Nat ⊕ (List UInt8 × Nat)} {b : List UInt8} {v : Value} (hr : r = .inr (b, n)) (hp : p = ((k + 1 + n : Nat) : Int)) (hb : HB W W' v b) : UnqPost W k r (.returned (.tuple #[v, .int .i64 p])) W' := by
  subst hr hp; exact ⟨_, rfl, hb⟩

set_option maxHeartbeats 1000000 in
theorem unquoted_any (W : World) (s : ByteArray) (k : Nat) (hs : s.size ≤ 1000000000) (hk : k < s.size) :
    Calls Tryz.prog 108 #[.string s, .int .i64 (k : Int)] W fun e W' => UnqPost W k (T.unq (s.data.toList.drop (k + 1))) e W' := by
  obtain ⟨i0, hi, hz0, hz1, hz2⟩ := info_parts Tryz.info5
  generalize hr0 : T.unq (s.data.toList.drop (k + 1)) = r0
  have b1 : (k : Int) < (s.size : Int) := by omega
  have b2 : (s.size : Int) ≤ 1000000000 := by omega
  have HR : Hid (T.unq (s.data.toList.drop (k + 1)) = r0) := hr0
  clear hr0
  go_enter Tryz.func108, Tryz.ntmps108
  go_wp2
  go_step3
  go_wp2
  go_step3
  go_wp2
  go_loopw [1, 4, 6] (fun i v _ wr => ∃ (p : Nat) (l : List UInt8), k + 1 ≤ p ∧ p ≤ s.size ∧ i = .int .i64 p ∧ l.length ≤ p ∧ HB W wr v l ∧ Hid (r0 = T.sp (p - (k + 1)) l (T.unq (s.data.toList.drop p)))) (fun i _ _ _ => s.size - (intOf i).toNat)
  case atStart => exact ⟨k + 1, [], Nat.le_refl _, by omega, by go_num, Nat.zero_le _, HB.start W, by rw [Nat.sub_self, T.sp_zero]; exact HR.out.symm⟩
  case round =>
    obtain ⟨p, l, hp1, hp2, rfl, hl, F, R⟩ := hrel
    have c1 : (p : Int) ≤ (s.size : Int) := by omega
    by_cases hlt : p < s.size
    · have c2 : (p : Int) < (s.size : Int) := by omega
      have c3 : ((p : Int) == (s.size : Int)) = false := by simp; omega
      have hd := drop_get s p hlt
      by_cases h34 : s[p].toNat = 34
      · have e34 : ((s[p].toNat : Int) == 34) = true := by rw [h34]; rfl
        have H : Hid (r0 = .inr (l, p - (k + 1) + 1)) := hid <| by
          have := R.out
          rw [hd, T.unq_end _ _ h34] at this
          simpa [T.sp] using this
        clear hd h34 R HR
        go_wp2_with fail
        go_ret2
        exact UnqPost.good H.out (by omega) F
      · have e34 : ((s[p].toNat : Int) == 34) = false := by simp; omega
        by_cases h92 : s[p].toNat = 92
        · have e92 : ((s[p].toNat : Int) == 92) = true := by rw [h92]; rfl
          have HC := escaped_any s p hs hlt
          cases he : T.esc (s.data.toList.drop (p + 1)) with
          | none =>
            have H : Hid (r0 = .inl (p - (k + 1))) := hid <| by
              have := R.out
              rw [hd, T.unq_noesc _ _ h92 he] at this
              exact this
            rw [he] at HC
            clear hd h92 h34 R HR he
            go_wp2_with fail
            refine (HC _).mono ?_
            rintro e w' ⟨rfl, rfl⟩
            go_wp2_with fail
            exact ⟨rfl, UnqPost.bad H.out (by omega) F.below⟩
          | some x =>
            have h3 := T.esc_three he
            rw [List.length_drop, size_list] at h3
            have H : Hid (r0 = T.sp (p + 4 - (k + 1)) (l ++ [x]) (T.unq (s.data.toList.drop (p + 4)))) := hid <| by
              have := R.out
              rw [hd, T.unq_esc _ _ x h92 he, T.sp_sp, List.drop_drop] at this
              rw [this, show p - (k + 1) + 4 = p + 4 - (k + 1) by omega]
            rw [he] at HC
            clear hd h92 h34 R HR he
            have d1 : (p : Int) + 4 ≤ (s.size : Int) := by omega
            go_wp2_with fail
            refine (HC _).mono ?_
            rintro e w' ⟨rfl, rfl⟩
            go_wp2_with (first | (at_builtin; refine wpList_append_bytes rfl _ _ _ rfl i0 Tryz.underlying124 hi hz0 hz1 hz2 _ _ rfl (F.alloc _) _ _ _ [x] rfl rfl (cells_new _ _ _ _ rfl) (by omega) ?_))
            intro v1 w1 F1
            go_wp2_with fail
            go_roundw
            case rel => exact ⟨p + 4, l ++ [x], by omega, by omega, by go_num, by simp; omega, F1, H⟩
            case measure => simp [intOf]; omega
        · have e92 : ((s[p].toNat : Int) == 92) = false := by simp; omega
          have HC := itself_any s[p]
          cases hit : T.itself s[p] with
          | true =>
            have H : Hid (r0 = T.sp (p + 1 - (k + 1)) (l ++ [s[p]]) (T.unq (s.data.toList.drop (p + 1)))) := hid <| by
              have := R.out
              rw [hd, T.unq_self _ _ hit, T.sp_sp] at this
              rw [this, show p - (k + 1) + 1 = p + 1 - (k + 1) by omega]
            rw [hit] at HC
            clear hd h92 h34 R HR hit
            go_wp2_with fail
            refine (HC _).mono ?_
            rintro e w' ⟨rfl, rfl⟩
            go_wp2_with (first | (at_builtin; refine wpList_append_bytes rfl _ _ _ rfl i0 Tryz.underlying124 hi hz0 hz1 hz2 _ _ rfl (F.alloc _) _ _ _ [s[p]] rfl rfl (cells_new _ _ _ _ rfl) (by omega) ?_))
            intro v1 w1 F1
            go_wp2_with fail
            go_roundw
            case rel => exact ⟨p + 1, l ++ [s[p]], by omega, by omega, by go_num, by simp; omega, F1, H⟩
            case measure => simp [intOf]; omega
          | false =>
            have H : Hid (r0 = .inl (p - (k + 1))) := hid <| by
              have := R.out
              rw [hd, T.unq_bad _ _ h34 h92 hit] at this
              exact this
            rw [hit] at HC
            clear hd h92 h34 R HR hit
            go_wp2_with fail
            refine (HC _).mono ?_
            rintro e w' ⟨rfl, rfl⟩
            go_wp2_with fail
            exact ⟨rfl, UnqPost.bad H.out (by omega) F.below⟩
    · obtain rfl : p = s.size := by omega
      have c3 : ((s.size : Int) == (s.size : Int)) = true := by simp
      have H : Hid (r0 = .inl (s.size - (k + 1))) := hid <| by
        have := R.out
        rw [List.drop_eq_nil_of_le (by rw [size_list]; exact Nat.le_refl _), T.unq_nil] at this
        exact this
      go_wp2_with fail
      exact ⟨rfl, UnqPost.bad H.out (by omega) F.below⟩
end Go.Proofs.YtbpdmkohihgnjaaGreatDoor.L
namespace Go.Proofs.YtbpdmkohihgnjaaGreatDoor.L
open Go.RowKit
namespace T
def okc (c : UInt8) : Bool := isLet c || isDig c || c.toNat == 95
def name (l : List UInt8) : Bool := decide (1 ≤ l.length) && decide (l.length ≤ 24) && isLet (l.headD 0) && l.all okc
end T
theorem take_snoc (s : ByteArray) (k : Nat) (h : k < s.size) : s.data.toList.take (k + 1) = s.data.toList.take k ++ [s[k]] := by
  rw [List.take_succ_eq_append_getElem (by simpa using h)]; rfl
theorem take_size (s : ByteArray) : s.data.toList.take s.size = s.data.toList := List.take_length
theorem ne_nil (s : ByteArray) (h : 0 < s.size) : (¬ s.toList = []) ∧ s.toList.isEmpty = false ∧ s.data.toList.headD 0 = s[0] := by
  have hd := drop_get s 0 h
  rw [List.drop_zero] at hd
  refine ⟨?_, ?_, ?_⟩
  · rw [ByteArray.toList_eq s, hd]; simp
  · rw [ByteArray.toList_eq s, hd]; rfl
  · rw [hd]; rfl
theorem emp (s : ByteArray) (h : s.size = 0) : s = ⟨#[]⟩ := by
  cases s with
  | mk d => congr; exact Array.eq_empty_of_size_eq_zero h

set_option maxHeartbeats 1000000 in
theorem name_any (W : World) (s : ByteArray) (hs : s.size ≤ 140737488355328) :
    Calls Tryz.prog 75 #[.string s] W fun e W' => e = .returned (.int .i64 (if T.name s.data.toList then 0 else 42)) ∧ W = W' := by
  generalize hr0 : (if T.name s.data.toList then (0 : Int) else 42) = r0
  by_cases h0 : s.size = 0
  · have hse := emp s h0
    have HR : Hid (r0 = 42) := hid (by rw [← hr0, hse]; rfl)
    clear hr0 hs h0
    subst hse
    go_enter Tryz.func75, Tryz.ntmps75
    go_wp2_with fail
    go_ret
    exact ⟨ret_int HR.out.symm, rfl⟩
  · have hlt : 0 < s.size := by omega
    obtain ⟨n1, n2, n3⟩ := ne_nil s hlt
    have b1 : (0 : Int) < (s.size : Int) := by omega
    by_cases h24 : s.size ≤ 24
    · have b2 : (s.size : Int) ≤ 24 := by omega
      have HC := letter_any s[0]
      cases hl : T.isLet s[0] with
      | false =>
        have HR : Hid (r0 = 42) := hid (by rw [← hr0, if_neg]; unfold T.name; rw [n3, hl]; simp)
        rw [hl] at HC
        clear hr0 h0 n3 hl
        go_enter Tryz.func75, Tryz.ntmps75
        go_wp2_with fail
        refine (HC _).mono ?_
        rintro e w' ⟨rfl, rfl⟩
        go_wp2_with fail
        go_ret
        exact ⟨ret_int HR.out.symm, rfl⟩
      | true =>
        rw [hl] at HC
        have HR : Hid (r0 = if s.data.toList.all T.okc then 0 else 42) := hid (by
          rw [← hr0]
          congr 1
          unfold T.name
          rw [n3, hl, size_list, decide_eq_true h24, decide_eq_true (show 1 ≤ s.size by omega)]
          simp)
        clear hr0 h0 n3 hl
        go_enter Tryz.func75, Tryz.ntmps75
        go_wp2_with fail
        refine (HC _).mono ?_
        rintro e w' ⟨rfl, rfl⟩
        go_wp2_with fail
        clear HC
        go_loopw [3, 4, 20] (fun _ _ i wr => ∃ k : Nat, k ≤ s.size ∧ i = .int .i64 k ∧ (s.data.toList.take k).all T.okc = true ∧ W = wr) (fun _ _ i _ => s.size - (intOf i).toNat)
        case atStart => exact ⟨0, Nat.zero_le _, rfl, by simp, rfl⟩
        case round =>
          obtain ⟨k, hk, rfl, ha, rfl⟩ := hrel
          by_cases hk2 : k < s.size
          · have c1 : (k : Int) < (s.size : Int) := by omega
            have HL := letter_any s[k]
            have HD := digit_any s[k]
            have hsn := take_snoc s k hk2
            have HS : Hid ((s.data.toList.take (k + 1)).all T.okc = T.okc s[k]) := hid (by rw [hsn, List.all_append, ha]; simp)
            have HE : Hid (T.okc s[k] = false → r0 = 42) := hid (by
              intro h
              rw [HR.out, if_neg]
              intro h2
              rw [List.all_eq_true] at h2
              have := h2 s[k] (by
                have : s.data.toList.drop k = s[k] :: _ := drop_get s k hk2
                have h3 : s[k] ∈ s.data.toList.drop k := by rw [this]; simp
                exact List.mem_of_mem_drop h3)
              rw [h] at this
              cases this)
            clear hsn ha HR
            cases hL : T.isLet s[k] with
            | true =>
              have HK : Hid (T.okc s[k] = true) := hid (by simp [T.okc, hL])
              rw [hL] at HL
              clear hL
              go_wp2_with fail
              refine (HL _).mono ?_
              rintro e w' ⟨rfl, rfl⟩
              go_wp2_with fail
              go_roundw
              case rel => exact ⟨k + 1, by omega, by go_num, by rw [HS.out]; exact HK.out, trivial⟩
              case measure => simp [intOf]; omega
            | false =>
              rw [hL] at HL
              cases hD : T.isDig s[k] with
              | true =>
                have HK : Hid (T.okc s[k] = true) := hid (by simp [T.okc, hD])
                rw [hD] at HD
                clear hL hD
                go_wp2_with fail
                refine (HL _).mono ?_
                rintro e w' ⟨rfl, rfl⟩
                go_wp2_with fail
                refine (HD _).mono ?_
                rintro e w' ⟨rfl, rfl⟩
                go_wp2_with fail
                go_roundw
                case rel => exact ⟨k + 1, by omega, by go_num, by rw [HS.out]; exact HK.out, trivial⟩
                case measure => simp [intOf]; omega
              | false =>
                rw [hD] at HD
                by_cases h95 : s[k].toNat = 95
                · have HK : Hid (T.okc s[k] = true) := hid (by simp [T.okc, h95])
                  have e95 : ((s[k].toNat : Int) != 95) = false := by rw [h95]; rfl
                  clear hL hD h95
                  go_wp2_with fail
                  refine (HL _).mono ?_
                  rintro e w' ⟨rfl, rfl⟩
                  go_wp2_with fail
                  refine (HD _).mono ?_
                  rintro e w' ⟨rfl, rfl⟩
                  go_wp2_with fail
                  go_roundw
                  case rel => exact ⟨k + 1, by omega, by go_num, by rw [HS.out]; exact HK.out, trivial⟩
                  case measure => simp [intOf]; omega
                · have HK : Hid (T.okc s[k] = false) := hid (by simp [T.okc, hL, hD, h95])
                  have e95 : ((s[k].toNat : Int) != 95) = true := by rw [bne_iff_ne]; omega
                  clear hL hD h95
                  go_wp2_with fail
                  refine (HL _).mono ?_
                  rintro e w' ⟨rfl, rfl⟩
                  go_wp2_with fail
                  refine (HD _).mono ?_
                  rintro e w' ⟨rfl, rfl⟩
                  go_wp2_with fail
                  go_ret
                  exact ⟨ret_int (HE.out HK.out).symm, rfl⟩
          · obtain rfl : k = s.size := by omega
            rw [take_size] at ha
            have HF : Hid (r0 = 0) := hid (by rw [HR.out, if_pos ha])
            clear ha HR
            go_wp2_with fail
            go_ret
            exact ⟨ret_int HF.out.symm, rfl⟩
    · have b2 : (24 : Int) < (s.size : Int) := by omega
      have HR : Hid (r0 = 42) := hid (by rw [← hr0]; simp [T.name, h24])
      clear hr0 h0 n3
      go_enter Tryz.func75, Tryz.ntmps75
      go_wp2_with fail
      go_ret
      exact ⟨ret_int HR.out.symm, rfl⟩

end Go.Proofs.YtbpdmkohihgnjaaGreatDoor.L
namespace Go.Proofs.YtbpdmkohihgnjaaGreatDoor.S
open Go.RowKit

def ad (a b : Int) : Int := (a + b) % 4294967296
def xo (a b : Int) : Int := bits .xor .u32 a b
def an (a b : Int) : Int := bits .and .u32 a b
def no (a : Int) : Int := bits .xor .u32 4294967295 a
def rot (w : Int) (k : Nat) : Int := bits .or .u32 (w * 2 ^ (32 - k) % 4294967296) (w / 2 ^ k)
def K : List Int := [1116352408, 1899447441, 3049323471, 3921009573, 961987163, 1508970993, 2453635748, 2870763221, 3624381080, 310598401, 607225278, 1426881987, 1925078388, 2162078206, 2614888103, 3248222580, 3835390401, 4022224774, 264347078, 604807628, 770255983, 1249150122, 1555081692, 1996064986, 2554220882, 2821834349, 2952996808, 3210313671, 3336571891, 3584528711, 113926993, 338241895, 666307205, 773529912, 1294757372, 1396182291, 1695183700, 1986661051, 2177026350, 2456956037, 2730485921, 2820302411, 3259730800, 3345764771, 3516065817, 3600352804, 4094571909, 275423344, 430227734, 506948616, 659060556, 883997877, 958139571, 1322822218, 1537002063, 1747873779, 1955562222, 2024104815, 2227730452, 2361852424, 2428436474, 2756734187, 3204031479, 3329325298]
def First : List Int := [1779033703, 3144134277, 1013904242, 2773480762, 1359893119, 2600822924, 528734635, 1541459225]
def s0 (x : Int) : Int := xo (xo (rot x 7) (rot x 18)) (x / 8)
def s1 (x : Int) : Int := xo (xo (rot x 17) (rot x 19)) (x / 1024)
def S0 (x : Int) : Int := xo (xo (rot x 2) (rot x 13)) (rot x 22)
def S1 (x : Int) : Int := xo (xo (rot x 6) (rot x 11)) (rot x 25)
def ch (e f g : Int) : Int := xo (an e f) (an (no e) g)
def mj (a b c : Int) : Int := xo (xo (an a b) (an a c)) (an b c)
def next (L : List Int) (t : Nat) : Int := (s1 (L.getD (t - 2) 0) + L.getD (t - 7) 0 + s0 (L.getD (t - 15) 0) + L.getD (t - 16) 0) % 4294967296
def sched (B : List Int) : Nat → List Int
  | 0 => B
  | k + 1 => sched B k ++ [next (sched B k) (16 + k)]
def u1 (L : List Int) (x : Int) : Int := L.getD 7 0 + S1 (L.getD 4 0) + ch (L.getD 4 0) (L.getD 5 0) (L.getD 6 0) + x
def u2 (L : List Int) : Int := S0 (L.getD 0 0) + mj (L.getD 0 0) (L.getD 1 0) (L.getD 2 0)
def round (L : List Int) (x : Int) : List Int := [(u1 L x + u2 L) % 4294967296, L.getD 0 0, L.getD 1 0, L.getD 2 0, (L.getD 3 0 + u1 L x) % 4294967296, L.getD 4 0, L.getD 5 0, L.getD 6 0]
def rounds (S : List Int) (W : List Int) : Nat → List Int
  | 0 => S
  | k + 1 => round (rounds S W k) (ad (K.getD k 0) (W.getD k 0))
def plus (a b : List Int) (t : Nat) : List Int := (List.range 8).map fun i => if i < t then ad (a.getD i 0) (b.getD i 0) else a.getD i 0
def block (S B : List Int) : List Int := plus (rounds S (sched B 48) 64) S 8
end Go.Proofs.YtbpdmkohihgnjaaGreatDoor.S
namespace Go.Proofs.YtbpdmkohihgnjaaGreatDoor
open Go.RowKit

theorem ret_int {k : IntKind} {a b : Int} (h : a = b) : Ending.returned (.int k a) = .returned (.int k b) := by rw [h]
theorem ret_bool {a b : Bool} (h : a = b) : Ending.returned (.bool a) = .returned (.bool b) := by rw [h]
def Row (W : World) (k : IntKind) (b off : Nat) (xs : List Int) : Prop := ∀ i, i < xs.length → W.cell? ⟨b, off + i, none⟩ = some (.int k (xs.getD i 0))
def Wds (xs : List Int) : Prop := ∀ i, 0 ≤ xs.getD i 0 ∧ xs.getD i 0 < 4294967296
def Bts (xs : List Int) : Prop := ∀ i, 0 ≤ xs.getD i 0 ∧ xs.getD i 0 < 256
theorem Row.drewN {W : World} {k : IntKind} {b off : Nat} {xs : List Int} (h : Row W k b off xs) (d : Nat) : Row (W.drewN d) k b off xs := fun i hi => (World.cell?_drewN W d _).trans (h i hi)
theorem Row.below {W w : World} {B : Nat} {k : IntKind} {b off : Nat} {xs : List Int} (h : Row W k b off xs) (hb : Below B W w) (hB : b < B) : Row w k b off xs := fun i hi => (hb.cell (p := ⟨b, off + i, none⟩) hB).trans (h i hi)
theorem Row.head {W : World} {k : IntKind} {b off : Nat} {xs ys : List Int} (h : Row W k b off (xs ++ ys)) : Row W k b off xs := by
  intro i hi
  have := h i (by simp; omega)
  rw [this]
  simp [List.getD_eq_getElem?_getD, List.getElem?_append_left hi]
theorem Row.take {W : World} {k : IntKind} {b off : Nat} {xs : List Int} (h : Row W k b off xs) (n : Nat) : Row W k b off (xs.take n) := by
  rw [← List.take_append_drop n xs] at h
  exact h.head
theorem Row.drop {W : World} {k : IntKind} {b off : Nat} {xs : List Int} (h : Row W k b off xs) (n : Nat) : Row W k b (off + n) (xs.drop n) := by
  intro i hi
  have := h (n + i) (by simp at hi; omega)
  rw [show off + n + i = off + (n + i) by omega, this]
  simp [List.getD_eq_getElem?_getD]
theorem Row.range {W : World} {k : IntKind} {b off : Nat} {xs : List Int} (h : Row W k b off xs) : W.rangeAt b off (xs.map (Value.int k)) := by
  intro j v hv
  have hj : j < xs.length := by
    rcases Nat.lt_or_ge j xs.length with h | h
    · exact h
    · simp [List.getElem?_eq_none (show (xs.map (Value.int k)).length ≤ j by simpa using h)] at hv
  rw [h j hj]
  simp [List.getElem?_eq_getElem hj] at hv
  simp [List.getD_eq_getElem?_getD, hj, hv]

def At (W : World) (k : IntKind) (ao : Option Addr) (xs : List Int) : Prop := xs = [] ∨ ∃ b off, ao = some ⟨b, off, none⟩ ∧ b < W.heap.size ∧ Row W k b off xs
theorem At.below {W w : World} {k : IntKind} {ao : Option Addr} {xs : List Int} (h : At W k ao xs) (hb : Below W.heap.size W w) : At w k ao xs := by
  rcases h with h | ⟨b, off, h1, h2, h3⟩
  · exact .inl h
  · exact .inr ⟨b, off, h1, by have := hb.size; omega, h3.below hb h2⟩
theorem below_one (W : World) (o : Obj) : Below W.heap.size W (W.alloc o) := (Below.refl W.heap.size W).alloc (Nat.le_refl _) o
theorem At.drewN {W : World} {k : IntKind} {ao : Option Addr} {xs : List Int} (h : At W k ao xs) (d : Nat) : At (W.drewN d) k ao xs := h.below (below_drewN (Below.refl _ _) d)
theorem At.cells {W : World} {k : IntKind} {a : Addr} {xs : List Int} (h : At W k (some a) xs) : ∀ j u, (xs.map (Value.int k))[j]? = some u → W.cell? (a.add j) = some u := by
  rcases h with rfl | ⟨b, off, hao, _, hr⟩
  · intro j u hu; simp at hu
  · intro j u hu
    obtain rfl := Option.some.inj hao
    have e1 : (⟨b, off, none⟩ : Addr).add j = ⟨b, off + j, none⟩ := by unfold Addr.add; split <;> simp_all
    have hj : j < xs.length := by
      rcases Nat.lt_or_ge j xs.length with h | h
      · exact h
      · simp [List.getElem?_eq_none (show (xs.map (Value.int k)).length ≤ j by simpa using h)] at hu
    rw [e1, hr j hj]
    simp [List.getElem?_eq_getElem hj] at hu
    simp [List.getD_eq_getElem?_getD, hj, hu]

def Blk (W : World) (g : Nat) (k : IntKind) (e : TypeId) (L : List Int) : Prop := W.heap[g]? = some (.cells (L.map (Value.int k)).toArray e (0, 0))
theorem Blk.below {W w : World} {B g : Nat} {k : IntKind} {e : TypeId} {L : List Int} (h : Blk W g k e L) (hb : Below B W w) (hg : g < B) : Blk w g k e L := (hb.block g hg).trans h
theorem Blk.lt {W : World} {g : Nat} {k : IntKind} {e : TypeId} {L : List Int} (h : Blk W g k e L) : g < W.heap.size := by
  rcases Nat.lt_or_ge g W.heap.size with h' | h'
  · exact h'
  · unfold Blk at h; rw [Array.getElem?_eq_none h'] at h; cases h
theorem Blk.row {W : World} {g : Nat} {k : IntKind} {e : TypeId} {L : List Int} (h : Blk W g k e L) : Row W k g 0 L := by
  intro i hi
  rw [Nat.zero_add, cell_of_row W g i _ e (0, 0) h]
  simp [List.getD_eq_getElem?_getD, hi]
theorem Blk.at {W : World} {g : Nat} {k : IntKind} {e : TypeId} {L : List Int} (h : Blk W g k e L) : At W k (some ⟨g, 0, none⟩) L := .inr ⟨g, 0, rfl, h.lt, h.row⟩
theorem Blk.other {w : World} {g b j : Nat} {k : IntKind} {e : TypeId} {L : List Int} (h : Blk w g k e L) (u : Value) (hb : g ≠ b) : Blk (w.setCell ⟨b, j, none⟩ u) g k e L := by
  unfold Blk at h ⊢
  rw [heap_setCell_other w ⟨b, j, none⟩ g u hb, h]
theorem Blk.set {w : World} {g : Nat} {k : IntKind} {e : TypeId} {L : List Int} (h : Blk w g k e L) (j : Nat) (u : Int) : Blk (w.setCell ⟨g, j, none⟩ (.int k u)) g k e (L.set j u) := by
  unfold Blk at h ⊢
  rw [heap_setCell_same w g j _ e _ h, List.setIfInBounds_toArray, List.map_set]
theorem Blk.free {W : World} {g : Nat} {k : IntKind} {e : TypeId} {L : List Int} (h : Blk W g k e L) (j : Nat) : W.frozen? ⟨g, j, none⟩ = false := frozen_of_row W g j _ e h
theorem Blk.cell {W : World} {g : Nat} {k : IntKind} {e : TypeId} {L : List Int} (h : Blk W g k e L) (j : Nat) (hj : j < L.length) : W.cell? ⟨g, j, none⟩ = some (.int k (L.getD j 0)) := by
  have := h.row j hj
  rwa [Nat.zero_add] at this
theorem Blk.drewN {W : World} {g : Nat} {k : IntKind} {e : TypeId} {L : List Int} (h : Blk W g k e L) (d : Nat) : Blk (W.drewN d) g k e L := h.below (below_drewN (Below.refl _ _) d) h.lt
theorem Blk.new (W : World) (k : IntKind) (e : TypeId) (L : List Int) : Blk (W.alloc (.cells (L.map (Value.int k)).toArray e)) W.heap.size k e L := heap_alloc_new _ _
theorem Blk.alloc {W : World} {g : Nat} {k : IntKind} {e : TypeId} {L : List Int} (h : Blk W g k e L) (o : Obj) : Blk (W.alloc o) g k e L := h.below (below_one W o) h.lt
theorem Blk.newAt {W : World} {n : Nat} (hn : W.heap.size = n) (k : IntKind) (e : TypeId) (L : List Int) : Blk (W.alloc (.cells (L.map (Value.int k)).toArray e)) n k e L := by subst hn; exact Blk.new W k e L
theorem Blk.drew {W : World} {g : Nat} {k : IntKind} {e : TypeId} {L : List Int} (h : Blk W g k e L) : Blk W.drew g k e L := h
theorem Blk.setRow {w : World} {g : Nat} {k : IntKind} {e : TypeId} {L : List Int} (h : Blk w g k e L) (L' : List Int) : Blk (w.setRow g (L'.map (Value.int k)).toArray) g k e L' := setRow_heap w g _ _ e _ h
theorem Blk.setRow_other {w : World} {g b : Nat} {k : IntKind} {e : TypeId} {L : List Int} (h : Blk w g k e L) (cs : Array Value) (hb : g ≠ b) : Blk (w.setRow b cs) g k e L := by
  unfold Blk at h ⊢
  rw [Go.setRow_other w b g cs hb, h]

def Ag (L : List Int) : Value := .agg (L.map (Value.int .u32)).toArray
theorem ints_all (k : IntKind) (L : List Int) : (L.map (Value.int k)).toArray.all (·.oneCell') = true := all_oneCell_toArray (ints_oneCell k L)
theorem store_blk {P : Program} {w : World} {g : Nat} {e ty : TypeId} {L L' : List Int} (h : Blk w g .u32 e L) (hi : (P.info? ty).map (·.size) = some L.length) (hl : L.length = L'.length) :
    (Instr.storeAt ty (.pointer (some ⟨g, 0, none⟩)) (Ag L')).run P w = .ok () (w.setRow g (L'.map (Value.int .u32)).toArray) := by
  simp only [Instr.storeAt, Instr.sureAddr, Sem.run_bind, Sem.run_pure, Result.andThen, Ag]
  exact run_storeVar_row w g e ty _ _ h (by rw [hi, hl]; simp) (by simp [hl]) (ints_all _ _)

theorem wpList_store_blk {P : Program} {ops : Array Oper} {rest : List Oper} {o : Oper} {a : Act} {w : World} {Q : Exit → Act → World → Prop} (hgd : o.guard = none) (ty : TypeId) (x y : Operand) (ho : o.op = .store ty x y)
    (g : Nat) (L' : List Int) (hx : a.eval x = .pointer (some ⟨g, 0, none⟩)) (hy : a.eval y = Ag L') {e : TypeId} {L : List Int} (hg : Blk w g .u32 e L) (hi : (P.info? ty).map (·.size) = some L'.length) (hl : L.length = L'.length)
    (h : wpList P ops Q rest (a.put o.dst undef) (w.setRow g (L'.map (Value.int .u32)).toArray)) : wpList P ops Q (o :: rest) a w :=
  wpList_store_row hgd ty x y ho g _ hx hy e _ hg (by rw [hi]; simp) (by simp [hl]) (ints_all _ _) h
theorem wpList_load_blk {P : Program} {ops : Array Oper} {rest : List Oper} {o : Oper} {a : Act} {w : World} {Q : Exit → Act → World → Prop} (hgd : o.guard = none) (ty : TypeId) (x : Operand) (ho : o.op = .load ty x)
    (g : Nat) (L : List Int) (hx : a.eval x = .pointer (some ⟨g, 0, none⟩)) {e t : TypeId} {n : Nat} (hg : Blk w g .u32 e L) (hu : P.underlying ty = some (.array n t)) (hi : (P.info? ty).map (·.size) = some L.length)
    (h : wpList P ops Q rest (a.put o.dst (Ag L)) w) : wpList P ops Q (o :: rest) a w :=
  wpList_load_row hgd ty x ho g hx e _ (0, 0) _ hg hu rfl (by rw [hi]; simp) h

structure But (g : Nat) (w w' : World) : Prop where
  os : w'.os = w.os
  tape : w'.tape = w.tape
  output : w'.output = w.output
  size : w.heap.size ≤ w'.heap.size
  block : ∀ k, k < w.heap.size → k ≠ g → w'.heap[k]? = w.heap[k]?
theorem But.blk {g : Nat} {w w' : World} (h : But g w w') {i : Nat} {k : IntKind} {e : TypeId} {L : List Int} (hb : Blk w i k e L) (hi : i ≠ g) : Blk w' i k e L := (h.block i hb.lt hi).trans hb
theorem But.row {g : Nat} {w w' : World} (h : But g w w') {k : IntKind} {b off : Nat} {L : List Int} (hr : Row w k b off L) (hb : b < w.heap.size) (hi : b ≠ g) : Row w' k b off L := fun i hL => by
  have e : w'.cell? ⟨b, off + i, none⟩ = w.cell? ⟨b, off + i, none⟩ := World.cell?_of_block (w := w) (h.block b hb hi)
  rw [e]; exact hr i hL
theorem But.below {g B : Nat} {w w' : World} (h : But g w w') (hB : B ≤ g) (hs : B ≤ w.heap.size) : Below B w w' := ⟨h.os, h.tape, h.output, h.size, fun k hk => h.block k (by omega) (by omega)⟩
theorem Below.but {g : Nat} {w w' : World} (h : Below w.heap.size w w') : But g w w' := ⟨h.os, h.tape, h.output, h.size, fun k hk _ => h.block k hk⟩
theorem But.trans {g : Nat} {a b c : World} (h : But g a b) (h' : But g b c) : But g a c := ⟨h'.os.trans h.os, h'.tape.trans h.tape, h'.output.trans h.output, Nat.le_trans h.size h'.size, fun k hk hg => (h'.block k (by have := h.size; omega) hg).trans (h.block k hk hg)⟩
theorem but_setRow (w : World) (g : Nat) (cs : Array Value) : But g w (w.setRow g cs) := ⟨rfl, rfl, rfl, by simp, fun k _ hk => Go.setRow_other w g k cs hk⟩
theorem but_setCell (w : World) (g j : Nat) (u : Value) : But g w (w.setCell ⟨g, j, none⟩ u) := ⟨rfl, rfl, rfl, by simp, fun k _ hk => heap_setCell_other w ⟨g, j, none⟩ k u hk⟩
theorem wpList_store_but {P : Program} {ops : Array Oper} {rest : List Oper} {o : Oper} {a : Act} {w : World} {Q : Exit → Act → World → Prop} (hgd : o.guard = none) (ty : TypeId) (x y : Operand) (ho : o.op = .store ty x y)
    (g : Nat) (L' : List Int) (hx : a.eval x = .pointer (some ⟨g, 0, none⟩)) (hy : a.eval y = Ag L') {e : TypeId} {L : List Int} (hg : Blk w g .u32 e L) (hi : (P.info? ty).map (·.size) = some L'.length) (hl : L.length = L'.length)
    (h : ∀ w', Blk w' g .u32 e L' → But g w w' → w'.heap.size = w.heap.size → wpList P ops Q rest (a.put o.dst undef) w') : wpList P ops Q (o :: rest) a w :=
  wpList_store_blk hgd ty x y ho g L' hx hy hg hi hl (h _ (hg.setRow _) (but_setRow _ _ _) (by simp))

theorem ret_cell {P : Program} {fn : Func} {p : Tmp} {ty e t : TypeId} {n : Nat} {a : Act} {w : World} {post : Ending → World → Prop} (hr : fn.results = #[.cell p ty]) (hd : a.defers = []) (g : Nat) (L : List Int)
    (hp : a.tmps.getD p undef = .pointer (some ⟨g, 0, none⟩)) (hb : Blk w g .u32 e L) (hu : P.underlying ty = some (.array n t)) (hi : (P.info? ty).map (·.size) = some L.length) (h : post (.returned (Ag L)) w) :
    bodyPost P fn post .ret a w :=
  bodyPost_ret (results_cell_row hr _ _ g e _ (0, 0) _ hp hb hu rfl (by rw [hi]; simp)) hd h

structure Holds (W wr : World) (k : IntKind) (e : TypeId) (v : Value) (L : List Int) : Prop where
  own : wr.ownsRow W.heap.size e 1 v L.length (L.map (Value.int k))
  below : Below W.heap.size W wr
theorem Holds.start (W : World) (k : IntKind) (e : TypeId) : Holds W W k e (.slice none 0 0) [] := ⟨World.ownsRow_nil _ _ _ _, Below.refl _ _⟩
theorem Holds.grow {W wr w1 : World} {k : IntKind} {e : TypeId} {v v' : Value} {L' : List Int} {n : Nat} {news : List Value} (hb : Below W.heap.size W wr) (hv : ∀ g, v.ownBlock = some g → W.heap.size ≤ g) (hown : w1.ownsRow W.heap.size e 1 v' n news) (hg : wr.grownBy w1 v.ownBlock) (hn : n = L'.length) (hnews : news = L'.map (Value.int k)) : Holds W w1 k e v' L' := by
  subst hn hnews
  exact ⟨hown, hb.grown hg hb.size hv⟩
theorem Holds.at' {W wr : World} {k : IntKind} {e : TypeId} {v : Value} {L : List Int} (h : Holds W wr k e v L) : ∃ ao cap, v = .slice ao L.length cap ∧ L.length ≤ cap ∧ At wr k ao L ∧ (ao = none → cap = 0 ∧ L.length = 0) := by
  rcases h.own.2 with ⟨rfl, h0⟩ | ⟨g, cap, cur, rfl, hg, hh, hn, hm, hs, ht⟩
  · exact ⟨none, 0, by rw [h0], by omega, .inl (List.eq_nil_of_length_eq_zero h0), fun _ => ⟨rfl, h0⟩⟩
  · refine ⟨some ⟨g, 0, none⟩, cap, rfl, hn, .inr ⟨g, 0, rfl, (h.own.lt g rfl).2, ?_⟩, fun h => by cases h⟩
    intro i hi
    rw [Nat.zero_add, h.own.cellAt i (by omega)]
    simp [List.getD_eq_getElem?_getD, hi]
theorem Holds.form {W wr : World} {k : IntKind} {e : TypeId} {v : Value} {L : List Int} (h : Holds W wr k e v L) (hn : 0 < L.length) : ∃ g cap, v = .slice (some ⟨g, 0, none⟩) L.length cap ∧ L.length ≤ cap ∧ W.heap.size ≤ g ∧ g < wr.heap.size ∧ Row wr k g 0 L := by
  rcases h.own.2 with ⟨_, h0⟩ | ⟨g, cap, cur, rfl, hg, hh, hc, hm, hs, ht⟩
  · omega
  · refine ⟨g, cap, rfl, hc, hg, (h.own.lt g rfl).2, ?_⟩
    intro i hi
    rw [Nat.zero_add, h.own.cellAt i (by omega)]
    simp [List.getD_eq_getElem?_getD, hi]

structure Owned (W wr : World) (k : IntKind) (e : TypeId) (N : Nat) (L : List Int) : Prop where
  len : L.length = N
  own : wr.ownsRow W.heap.size e 1 (.slice (some ⟨W.heap.size, 0, none⟩) N N) N (L.map (Value.int k))
  below : Below W.heap.size W wr
theorem Owned.cell {W wr : World} {k : IntKind} {e : TypeId} {N : Nat} {L : List Int} (h : Owned W wr k e N L) (j : Nat) (hj : j < N) : wr.cell? ⟨W.heap.size, j, none⟩ = some (.int k (L.getD j 0)) := by
  rw [h.own.cellAt j (by omega)]
  have := h.len
  simp [List.getD_eq_getElem?_getD, show j < L.length by omega]
theorem Owned.free {W wr : World} {k : IntKind} {e : TypeId} {N : Nat} {L : List Int} (h : Owned W wr k e N L) (j : Nat) : wr.frozen? ⟨W.heap.size, j, none⟩ = false := h.own.frozenAt j
theorem Owned.drew {W wr : World} {k : IntKind} {e : TypeId} {N : Nat} {L : List Int} (h : Owned W wr k e N L) : Owned W wr.drew k e N L := ⟨h.len, h.own, h.below.drew⟩
theorem Owned.step {W wr : World} {k : IntKind} {e : TypeId} {N : Nat} {L L' : List Int} (h : Owned W wr k e N L) (j : Nat) (u : Int) (hL : L.set j u = L') : Owned W (wr.setCell ⟨W.heap.size, j, none⟩ (.int k u)) k e N L' := by
  subst hL
  refine ⟨by simp [h.len], ?_, h.below.setCell (Nat.le_refl _) _⟩
  have := (h.own.stored j (.int k u)).1
  rwa [← List.map_set] at this
theorem Owned.start {W w : World} {k : IntKind} {e : TypeId} {N : Nat} (h : w.ownsRow W.heap.size e 1 (.slice (some ⟨W.heap.size, 0, none⟩) N N) N (madeCells #[Value.int k 0] N).toList) (hg : W.grownBy w none) : Owned W w k e N (List.replicate N 0) := by
  refine ⟨by simp, ?_, (Below.refl _ W).grown hg (Nat.le_refl _) (fun _ h => by cases h)⟩
  rw [toList_madeCells_one] at h
  rw [List.map_replicate]
  exact h
theorem Owned.row {W wr : World} {k : IntKind} {e : TypeId} {N : Nat} {L : List Int} (h : Owned W wr k e N L) : Row wr k W.heap.size 0 L := by
  intro i hi
  rw [Nat.zero_add]
  exact h.cell i (by rw [← h.len]; exact hi)
theorem Owned.lt {W wr : World} {k : IntKind} {e : TypeId} {N : Nat} {L : List Int} (h : Owned W wr k e N L) : W.heap.size < wr.heap.size := (h.own.lt W.heap.size rfl).2
theorem Owned.at {W wr : World} {k : IntKind} {e : TypeId} {N : Nat} {L : List Int} (h : Owned W wr k e N L) : At wr k (some ⟨W.heap.size, 0, none⟩) L := .inr ⟨_, 0, rfl, h.lt, h.row⟩

theorem Tryz.info5 : (Tryz.prog.info? 5).map (fun i => (i.zero, i.size, i.bytes)) = some (some (.int .u8 0), 1, 1) := by kernel_rfl
theorem Tryz.info25 : (Tryz.prog.info? 25).map (fun i => (i.zero, i.size, i.bytes)) = some (some (.int .u32 0), 1, 4) := by kernel_rfl
theorem size25 : (Tryz.prog.info? 25).map (·.size) = some 1 := by kernel_rfl
theorem size5 : (Tryz.prog.info? 5).map (·.size) = some 1 := by kernel_rfl
theorem size26 : (Tryz.prog.info? 26).map (·.size) = some 8 := by kernel_rfl
theorem size95 : (Tryz.prog.info? 208).map (·.size) = some 64 := by kernel_rfl
theorem size64 : (Tryz.prog.info? 197).map (·.size) = some 16 := by kernel_rfl
theorem size70 : (Tryz.prog.info? 229).map (·.size) = some 25 := by kernel_rfl
end Go.Proofs.YtbpdmkohihgnjaaGreatDoor
