import Derived.ProofKit
import Derived.Lib.SplitLaws
import Derived.Test.YtbpdmkohihgnjaaDoorChecked
import Derived.WalkKit
import Derived.WalkSpells
import Derived.WalkLawsBesides
import Derived.Deep.QuietTactic
import Derived.BigQuiet
import Derived.BigRegion
import Derived.Handy
import Derived.Deep.RegionWith
import Derived.Deep.RegionHeld3
import Derived.Deep.MidRow
import Derived.Deep.DrawnRows
import Derived.Lib.AppendStr
import Derived.Lib.UnsafeStr
import Derived.Laws.IdiomStrings
import Derived.Laws.AppendOwnNone
import Derived.Defers
import Derived.Recover
namespace Go.Proofs.YtbpdmkohihgnjaaDoor.L
namespace T

def itself (c : UInt8) : Bool := 32 ≤ c.toNat && c.toNat ≤ 126 && c.toNat != 34 && c.toNat != 92
def isDig (c : UInt8) : Bool := 48 ≤ c.toNat && c.toNat ≤ 57
def isLet (c : UInt8) : Bool := 97 ≤ c.toNat && c.toNat ≤ 122
def isGap (c : UInt8) : Bool := c.toNat == 32 || c.toNat == 9
def hexT : List UInt8 := [48, 49, 50, 51, 52, 53, 54, 55, 56, 57, 97, 98, 99, 100, 101, 102]
def hexD (n : Nat) : UInt8 := hexT.getD n 0
def hexV (c : UInt8) : Option Nat := if isDig c then some (c.toNat - 48) else if 97 ≤ c.toNat && c.toNat ≤ 102 then some (c.toNat - 87) else none

theorem hexV_lt {c : UInt8} {n : Nat} (h : hexV c = some n) : n < 16 ∧ hexD n = c := by
  have hc := c.toNat_lt
  have e : c = UInt8.ofNat c.toNat := by simp
  rw [e] at h ⊢
  generalize c.toNat = k at hc h
  clear e
  revert n
  revert k
  decide +kernel

def one (c : UInt8) : List UInt8 := if itself c then [c] else [92, 120, hexD (c.toNat / 16), hexD (c.toNat % 16)]
def quoteB (b : List UInt8) : List UInt8 := (b.map one).flatten
def quote (b : List UInt8) : List UInt8 := 34 :: (quoteB b ++ [34])

def esc (t : List UInt8) : Option UInt8 :=
  match t with
  | x :: h :: l :: _ => if x.toNat = 120 then
      match hexV h, hexV l with
      | some a, some b => if itself (UInt8.ofNat (a * 16 + b)) then none else some (UInt8.ofNat (a * 16 + b))
      | _, _ => none
      else none
  | _ => none

def sp (k : Nat) (xs : List UInt8) : Nat ⊕ (List UInt8 × Nat) → Nat ⊕ (List UInt8 × Nat)
  | .inl x => .inl (k + x)
  | .inr (b, n) => .inr (xs ++ b, k + n)
theorem sp_zero (r : Nat ⊕ (List UInt8 × Nat)) : sp 0 [] r = r := by cases r <;> simp [sp]
theorem sp_sp (k m : Nat) (xs ys : List UInt8) (r : Nat ⊕ (List UInt8 × Nat)) : sp k xs (sp m ys r) = sp (k + m) (xs ++ ys) r := by
  cases r <;> simp [sp] <;> omega

def unq (l : List UInt8) : Nat ⊕ (List UInt8 × Nat) :=
  match l with
  | [] => .inl 0
  | c :: t =>
    if c.toNat = 34 then .inr ([], 1)
    else if c.toNat = 92 then
      match esc t with
      | none => .inl 0
      | some x => sp 4 [x] (unq (t.drop 3))
    else if itself c then sp 1 [c] (unq t)
    else .inl 0
termination_by l.length
decreasing_by all_goals simp <;> omega

theorem unq_nil : unq [] = .inl 0 := by rw [unq]
theorem unq_end (c : UInt8) (t : List UInt8) (h : c.toNat = 34) : unq (c :: t) = .inr ([], 1) := by rw [unq]; simp [h]
theorem unq_esc (c : UInt8) (t : List UInt8) (x : UInt8) (h : c.toNat = 92) (he : esc t = some x) : unq (c :: t) = sp 4 [x] (unq (t.drop 3)) := by rw [unq]; simp [h, he]
theorem unq_noesc (c : UInt8) (t : List UInt8) (h : c.toNat = 92) (he : esc t = none) : unq (c :: t) = .inl 0 := by rw [unq]; simp [h, he]
theorem unq_self (c : UInt8) (t : List UInt8) (h : itself c = true) : unq (c :: t) = sp 1 [c] (unq t) := by
  rw [unq]
  have h' := h
  simp [itself] at h'
  simp [h, h'.1.2, h'.2]
theorem unq_bad (c : UInt8) (t : List UInt8) (h1 : c.toNat ≠ 34) (h2 : c.toNat ≠ 92) (h : itself c = false) : unq (c :: t) = .inl 0 := by rw [unq]; simp [h, h1, h2]

def okR (m : Nat) : Nat ⊕ (List UInt8 × Nat) → Prop
  | .inl x => x ≤ m
  | .inr (b, n) => n ≤ m ∧ b.length < n
theorem okR_sp {k m : Nat} {xs : List UInt8} {r : Nat ⊕ (List UInt8 × Nat)} (h : okR m r) (hx : xs.length ≤ k) : okR (k + m) (sp k xs r) := by
  match r, h with
  | .inl x, h => exact Nat.add_le_add_left h k
  | .inr (b, n), h => exact ⟨Nat.add_le_add_left h.1 k, by have := h.2; simp; omega⟩
theorem esc_three {t : List UInt8} {x : UInt8} (h : esc t = some x) : 3 ≤ t.length := by
  unfold esc at h
  split at h
  · simp
  · simp at h
theorem unq_le (l : List UInt8) : okR l.length (unq l) := by
  induction h : l.length using Nat.strongRecOn generalizing l with
  | _ n ih =>
    subst h
    cases l with
    | nil => rw [unq_nil]; exact Nat.le_refl _
    | cons c t =>
      by_cases h1 : c.toNat = 34
      · rw [unq_end c t h1]; exact ⟨by simp, by simp⟩
      · by_cases h2 : c.toNat = 92
        · cases he : esc t with
          | none => rw [unq_noesc c t h2 he]; exact Nat.zero_le _
          | some x =>
            rw [unq_esc c t x h2 he]
            have hl := esc_three he
            have := okR_sp (k := 4) (xs := [x]) (ih (t.drop 3).length (by simp; omega) (t.drop 3) rfl) (by simp)
            rwa [show 4 + (t.drop 3).length = (c :: t).length from by simp; omega] at this
        · cases hs : itself c with
          | false => rw [unq_bad c t h1 h2 hs]; exact Nat.zero_le _
          | true =>
            rw [unq_self c t hs]
            have := okR_sp (k := 1) (xs := [c]) (ih t.length (by simp) t rfl) (by simp)
            rwa [show 1 + t.length = (c :: t).length from by simp; omega] at this

def unquote (s : List UInt8) : Option (List UInt8) :=
  match s with
  | [] => none
  | c :: t => if c.toNat = 34 then
      match unq t with
      | .inl _ => none
      | .inr (b, n) => if n < t.length then none else some b
      else none
end T
end Go.Proofs.YtbpdmkohihgnjaaDoor.L
namespace Go.Proofs.YtbpdmkohihgnjaaDoor.L
namespace T
structure Wd where
  text : List UInt8
  quoted : Bool
  col : Nat
deriving DecidableEq
def cons (w : Wd) : Nat ⊕ List Wd → Nat ⊕ List Wd
  | .inl x => .inl x
  | .inr l => .inr (w :: l)
def pre (ws : List Wd) : Nat ⊕ List Wd → Nat ⊕ List Wd
  | .inl x => .inl x
  | .inr l => .inr (ws ++ l)
theorem pre_nil (r : Nat ⊕ List Wd) : pre [] r = r := by cases r <;> rfl
theorem pre_cons (ws : List Wd) (w : Wd) (r : Nat ⊕ List Wd) : pre ws (cons w r) = pre (ws ++ [w]) r := by cases r <;> simp [pre, cons]
def plainN (l : List UInt8) : Nat := (l.takeWhile fun c => !isGap c).length
theorem plainN_le (l : List UInt8) : plainN l ≤ l.length := by
  induction l with
  | nil => simp [plainN]
  | cons c t ih => simp only [plainN, List.takeWhile_cons]; split <;> simp [plainN] at * <;> omega
def parted (l : List UInt8) : Bool := match l with
  | [] => true
  | c :: _ => isGap c
def rd (l : List UInt8) (p : Nat) : Nat ⊕ List Wd :=
  match l with
  | [] => .inr []
  | c :: t =>
    if isGap c then rd t (p + 1)
    else if c.toNat = 35 then .inr []
    else if c.toNat = 34 then
      match unq t with
      | .inl x => .inl (p + 1 + x)
      | .inr (b, n) => if parted (t.drop n) then cons ⟨b, true, p + 1⟩ (rd (t.drop n) (p + 1 + n)) else .inl (p + 1 + n)
    else cons ⟨(c :: t).take (plainN (c :: t)), false, p + 1⟩ (rd (t.drop (plainN (c :: t) - 1)) (p + plainN (c :: t)))
termination_by l.length
decreasing_by all_goals simp <;> omega
theorem rd_nil (p : Nat) : rd [] p = .inr [] := by rw [rd]
theorem rd_gap {c : UInt8} (t : List UInt8) (p : Nat) (h : isGap c = true) : rd (c :: t) p = rd t (p + 1) := by rw [rd]; simp [h]
theorem rd_hash {c : UInt8} (t : List UInt8) (p : Nat) (h : isGap c = false) (h2 : c.toNat = 35) : rd (c :: t) p = .inr [] := by rw [rd]; simp [h, h2]
theorem rd_bad {c : UInt8} (t : List UInt8) (p x : Nat) (h : isGap c = false) (h2 : c.toNat = 34) (hu : unq t = .inl x) : rd (c :: t) p = .inl (p + 1 + x) := by rw [rd]; simp [h, h2, hu]
theorem rd_joined {c : UInt8} (t b : List UInt8) (p n : Nat) (h : isGap c = false) (h2 : c.toNat = 34) (hu : unq t = .inr (b, n)) (hp : parted (t.drop n) = false) : rd (c :: t) p = .inl (p + 1 + n) := by rw [rd]; simp [h, h2, hu, hp]
theorem rd_quoted {c : UInt8} (t b : List UInt8) (p n : Nat) (h : isGap c = false) (h2 : c.toNat = 34) (hu : unq t = .inr (b, n)) (hp : parted (t.drop n) = true) : rd (c :: t) p = cons ⟨b, true, p + 1⟩ (rd (t.drop n) (p + 1 + n)) := by rw [rd]; simp [h, h2, hu, hp]
theorem plainN_pos {c : UInt8} (t : List UInt8) (h : isGap c = false) : plainN (c :: t) = plainN t + 1 := by simp [plainN, h]
theorem rd_plain {c : UInt8} (t : List UInt8) (p : Nat) (h : isGap c = false) (h2 : c.toNat ≠ 35) (h3 : c.toNat ≠ 34) : rd (c :: t) p = cons ⟨(c :: t).take (plainN (c :: t)), false, p + 1⟩ (rd ((c :: t).drop (plainN (c :: t))) (p + plainN (c :: t))) := by
  rw [rd]
  simp only [h, h2, h3, if_false]
  rw [plainN_pos t h]
  simp
def words (l : List UInt8) : Nat ⊕ List Wd := rd l 0
end T
end Go.Proofs.YtbpdmkohihgnjaaDoor.L
namespace Go.Proofs.YtbpdmkohihgnjaaDoor.L
namespace T
open Go.Lib
def cutL : List UInt8 → List (List UInt8)
  | [] => [[]]
  | c :: t => if c = 10 then [] :: cutL t else match cutL t with
    | h :: r => (c :: h) :: r
    | [] => [[c]]
theorem cutL_ne (l : List UInt8) : cutL l ≠ [] := by
  cases l with
  | nil => simp [cutL]
  | cons c t =>
    simp only [cutL]
    split
    · simp
    · split <;> simp
theorem splitK_cut (l : List UInt8) : splitK [10] 0 (count l [10]) l = cutL l := by
  induction l with
  | nil => rw [count_miss (by simp [index])]; rfl
  | cons c t ih =>
    by_cases hc : c = 10
    · subst hc
      have hix : index (10 :: t) [10] = ((0 : Nat) : Int) := by rw [index]; simp [List.isPrefixOf]
      rw [count_cons_eq, Nat.add_comm 1, splitK, hix]
      simp only [cutL, if_true]
      rw [← ih]
      simp
    · have hp : ([10] : List UInt8).isPrefixOf (c :: t) = false := by simp [List.isPrefixOf, Ne.symm hc]
      have hix : index (c :: t) [10] = if index t [10] == -1 then -1 else index t [10] + 1 := by rw [index, hp]; simp
      rw [count_cons_ne c 10 t hc]
      simp only [cutL, if_neg hc]
      by_cases hm : index t [10] = -1
      · rw [count_miss hm] at ih ⊢
        rw [← ih]
        rfl
      · have hge := index_ge t [10]
        obtain ⟨j, hj⟩ : ∃ j : Nat, index t [10] = j := ⟨(index t [10]).toNat, by omega⟩
        have hix' : index (c :: t) [10] = ((j + 1 : Nat) : Int) := by rw [hix, if_neg (fun e => hm (beq_iff_eq.1 e)), hj]; omega
        have hcnt := count_hit (s := t) (sub := [10]) (by simp) hj
        obtain ⟨k, hk⟩ : ∃ k, count t [10] = k + 1 := ⟨count (t.drop (j + [10].length)) [10], by rw [hcnt]; omega⟩
        rw [hk] at ih ⊢
        rw [splitK, hj] at ih
        rw [splitK, hix']
        have n1 : ¬ ((j : Int) == -1) = true := by first | (simp; done) | (simp; omega)
        have n2 : ¬ (((j + 1 : Nat) : Int) == -1) = true := by first | (simp; done) | (simp; omega)
        rw [if_neg n1] at ih
        rw [if_neg n2, ← ih]
        simp
def lines (l : List UInt8) : List (List UInt8) := if (cutL l).getLast (cutL_ne l) = [] then (cutL l).dropLast else cutL l
theorem cutL_append (l m : List UInt8) (h : ∀ c ∈ l, c ≠ 10) : cutL (l ++ m) = match cutL m with
    | x :: r => (l ++ x) :: r
    | [] => [l] := by
  induction l with
  | nil => cases hm : cutL m with
    | nil => exact absurd hm (cutL_ne m)
    | cons x r => simp [hm]
  | cons c t ih =>
    have ih' := ih (fun x hx => h x (by simp [hx]))
    simp only [List.cons_append, cutL, if_neg (h c (by simp)), ih']
    cases hm : cutL m with
    | nil => exact absurd hm (cutL_ne m)
    | cons x r => simp
theorem cutL_line (l m : List UInt8) (h : ∀ c ∈ l, c ≠ 10) : cutL (l ++ 10 :: m) = l :: cutL m := by
  rw [cutL_append l _ h]; simp [cutL]
end T
end Go.Proofs.YtbpdmkohihgnjaaDoor.L
namespace Go.Proofs.YtbpdmkohihgnjaaDoor.L
open Go.RowKit

theorem ret_int {k : IntKind} {a b : Int} (h : a = b) : Ending.returned (.int k a) = .returned (.int k b) := by rw [h]
theorem ret_bool {a b : Bool} (h : a = b) : Ending.returned (.bool a) = .returned (.bool b) := by rw [h]
theorem Tryd.info5 : (Tryd.prog.info? 5).map (fun i => (i.zero, i.size, i.bytes)) = some (some (.int .u8 0), 1, 1) := by kernel_rfl

theorem byteCells_one (l : List UInt8) : ∀ v ∈ Lib.byteCells l, v.oneCell' = true := by
  intro v hv
  simp only [Lib.byteCells, List.mem_map] at hv
  obtain ⟨b, _, rfl⟩ := hv
  rfl
structure HB (W wr : World) (v : Value) (l : List UInt8) : Prop where
  own : wr.ownsRow W.heap.size 5 1 v l.length (Lib.byteCells l)
  below : Below W.heap.size W wr
theorem HB.start (W : World) : HB W W (.slice none 0 0) [] := ⟨World.ownsRow_nil W _ 5 1, Below.refl _ _⟩
theorem HB.alloc {W wr : World} {v : Value} {l : List UInt8} (h : HB W wr v l) (o : Obj) : HB W (wr.alloc o) v l := ⟨h.own.alloc o, h.below.alloc h.below.size o⟩
theorem HB.grow {W w w' : World} {v v' : Value} {l m : List UInt8} (H : HB W w v l) (h1 : w'.ownsRow W.heap.size 5 1 v' (l.length + m.length) (Lib.byteCells l ++ Lib.byteCells m)) (h2 : w.grownBy w' v.ownBlock) : HB W w' v' (l ++ m) := by
  refine ⟨?_, H.below.grown h2 H.below.size fun g hg => (H.own.lt g hg).1⟩
  rw [Lib.byteCells_append, List.length_append]
  exact h1
theorem wpList_append_bytes {P : Program} {W w : World} {ops : Array Oper} {rest : List Oper} {o : Oper} {a : Act} {Q : Exit → Act → World → Prop} (hgd : o.guard = none) (s x : Operand) (t : TypeId)
    (ho : o.op = .call { callee := .builtin .append, args := #[s, x], argTypes := #[t, t] }) (i : TypeInfo) (ht : P.underlying t = some (.slice 5)) (hi : P.info? 5 = some i) (hz : i.zero = some (.int .u8 0)) (hsize : i.size = 1) (hby : i.bytes = 1)
    (v : Value) (l : List UInt8) (hs : a.eval s = v) (H : HB W w v l) (ad : Addr) (n c : Nat) (m : List UInt8) (hx : a.eval x = .slice (some ad) n c) (hl : m.length = n) (hc : ∀ j u, (Lib.byteCells m)[j]? = some u → w.cell? (ad.add j) = some u) (h63 : l.length + n ≤ 140737488355328)
    (h : ∀ v' w', HB W w' v' (l ++ m) → wpList P ops Q rest (a.put o.dst v') w') : wpList P ops Q (o :: rest) a w := by
  subst hl
  obtain ⟨v', w', hr, h1, h2, _⟩ := run_append_own (P := P) w W.heap.size t o.type 5 i (.int .u8 0) 1 1 ht hi hz hsize hby rfl (by decide) v l.length _ H.own ad m.length c (Lib.byteCells m) (by simp [Lib.byteCells]) hc (byteCells_one m) (by unfold maxLen; omega) (by omega) H.below.size
  refine wpList_plain hgd fun K hK => ?_
  unfold Oper.wp execOp
  simp only [ho, resolve, invoke, builtin, Sem.run_bind, Sem.run_pure, Result.andThen_ok, List.map_toArray, List.map_cons, List.map_nil, hs, hx, hr]
  exact hK _ _ (h _ _ (H.grow h1 h2))
theorem cells_new (W : World) (e : TypeId) (C : Array Value) (m : List UInt8) (hC : C = (Lib.byteCells m).toArray) : ∀ j u, (Lib.byteCells m)[j]? = some u → (W.alloc (.cells C e)).cell? ((⟨W.heap.size, 0, none⟩ : Addr).add j) = some u := by
  intro j u hu
  subst hC
  rw [Addr.add_mid]
  rw [World.cell?_alloc_new, Nat.zero_add]
  simpa using hu
end Go.Proofs.YtbpdmkohihgnjaaDoor.L
namespace Go.Proofs.YtbpdmkohihgnjaaDoor.L
open Go.RowKit

theorem itself_any (c : UInt8) (w : World) : Calls Tryd.prog 145 #[.int .u8 (c.toNat : Int)] w fun e w' => e = .returned (.bool (T.itself c)) ∧ w = w' := by
  have hc := c.toNat_lt
  go_enter Tryd.func145, Tryd.ntmps145
  go_wp2
  all_goals go_ret
  all_goals exact ⟨ret_bool (by rw [Bool.eq_iff_iff]; simp [T.itself]; omega), rfl⟩
theorem digit_any (c : UInt8) (w : World) : Calls Tryd.prog 76 #[.int .u8 (c.toNat : Int)] w fun e w' => e = .returned (.bool (T.isDig c)) ∧ w = w' := by
  have hc := c.toNat_lt
  go_enter Tryd.func76, Tryd.ntmps76
  go_wp2
  all_goals go_ret
  all_goals exact ⟨ret_bool (by rw [Bool.eq_iff_iff]; simp [T.isDig]; omega), rfl⟩
theorem letter_any (c : UInt8) (w : World) : Calls Tryd.prog 75 #[.int .u8 (c.toNat : Int)] w fun e w' => e = .returned (.bool (T.isLet c)) ∧ w = w' := by
  have hc := c.toNat_lt
  go_enter Tryd.func75, Tryd.ntmps75
  go_wp2
  all_goals go_ret
  all_goals exact ⟨ret_bool (by rw [Bool.eq_iff_iff]; simp [T.isLet]; omega), rfl⟩
theorem gap_any (c : UInt8) (w : World) : Calls Tryd.prog 138 #[.int .u8 (c.toNat : Int)] w fun e w' => e = .returned (.bool (T.isGap c)) ∧ w = w' := by
  have hc := c.toNat_lt
  go_enter Tryd.func138, Tryd.ntmps138
  go_wp2
  all_goals go_ret
  all_goals exact ⟨ret_bool (by rw [Bool.eq_iff_iff]; simp [T.isGap]; omega), rfl⟩
theorem hexValue_some (c : UInt8) (n : Nat) (h : T.hexV c = some n) (w : World) : Calls Tryd.prog 148 #[.int .u8 (c.toNat : Int)] w fun e w' => e = .returned (.tuple #[.int .u8 (n : Int), .bool true]) ∧ w = w' := by
  have hc := c.toNat_lt
  unfold T.hexV at h
  have h1 : T.isDig c = true ∨ (T.isDig c = false ∧ (97 : Int) ≤ c.toNat ∧ (c.toNat : Int) ≤ 102) := by
    split at h
    · left; assumption
    · split at h
      · rename_i h1 h2; right; simp at h2; exact ⟨by simpa using h1, by omega, by omega⟩
      · simp at h
  rcases h1 with h1 | ⟨h1, h2, h3⟩
  · simp [h1] at h
    have h4 := h1
    simp [T.isDig] at h4
    have hn : ((c.toNat : Int) - 48) = (n : Int) := by omega
    have b1 : (48 : Int) ≤ c.toNat := by omega
    have b2 : (c.toNat : Int) ≤ 57 := by omega
    clear h h4 hc
    go_enter Tryd.func148, Tryd.ntmps148
    go_wp2_with (go_at_call 76; refine (digit_any c _).mono ?_; rintro e w' ⟨rfl, rfl⟩)
    go_ret2
    exact ⟨rfl, rfl⟩
  · have h5 : (decide (97 ≤ c.toNat) && decide (c.toNat ≤ 102)) = true := by simp; omega
    simp [h1, h5] at h
    have hn : ((c.toNat : Int) - 97 + 10) = (n : Int) := by omega
    clear h h5 hc
    go_enter Tryd.func148, Tryd.ntmps148
    go_wp2_with (go_at_call 76; refine (digit_any c _).mono ?_; rintro e w' ⟨rfl, rfl⟩)
    go_ret2
    exact ⟨rfl, rfl⟩
theorem hexValue_none (c : UInt8) (h : T.hexV c = none) (w : World) : Calls Tryd.prog 148 #[.int .u8 (c.toNat : Int)] w fun e w' => e = .returned (.tuple #[.int .u8 0, .bool false]) ∧ w = w' := by
  have hc := c.toNat_lt
  unfold T.hexV at h
  have h1 : T.isDig c = false ∧ ((c.toNat : Int) < 97 ∨ (102 : Int) < c.toNat) := by
    split at h
    · simp at h
    · split at h
      · simp at h
      · rename_i h1 h2; simp at h2; exact ⟨by simpa using h1, by omega⟩
  obtain ⟨h1, h2⟩ := h1
  clear h hc
  rcases h2 with h2 | h2
  · go_enter Tryd.func148, Tryd.ntmps148
    go_wp2_with (go_at_call 76; refine (digit_any c _).mono ?_; rintro e w' ⟨rfl, rfl⟩)
    go_ret2
    exact ⟨rfl, rfl⟩
  · have h3 : (97 : Int) ≤ c.toNat := by omega
    go_enter Tryd.func148, Tryd.ntmps148
    go_wp2_with (go_at_call 76; refine (digit_any c _).mono ?_; rintro e w' ⟨rfl, rfl⟩)
    go_ret2
    exact ⟨rfl, rfl⟩
end Go.Proofs.YtbpdmkohihgnjaaDoor.L
