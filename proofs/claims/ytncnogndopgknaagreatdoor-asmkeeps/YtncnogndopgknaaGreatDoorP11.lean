import Derived.Test.YtncnogndopgknaaGreatDoorP01
import Derived.Lib.SplitLaws
import Derived.Test.YtncnogndopgknaaGreatDoorP09
import Derived.Test.YtncnogndopgknaaGreatDoorP10
import Derived.Laws.BitsAllLaws
import Derived.Shelf.Small.Wraps
import Derived.Shelf.Strings.BuilderK
import Derived.Shelf.Strconv.Itoa4
import Derived.Shelf.Strconv.Clone
import Derived.Shelf.Strings.Prefix
import Derived.Shelf.Strings.Split
import Derived.Test.YtncnogndopgknaaGreatDoorProg
namespace Go.Proofs.YtncnogndopgknaaGreatDoor
namespace T
open Go.Lib
def cutL : List UInt8 → List (List UInt8)
  | [] => [[]]
  | c :: t => if c = 10 then [] :: cutL t else match cutL t with
    | h :: r => (c :: h) :: r
    | [] => [[c]]
theorem cutL_ne (l : List UInt8) : cutL l ≠ [] := by
  cases l with
  | nil => simp [cutL]
  | cons c t =>
    simp only [cutL]
    split
    · simp
    · split <;> simp
theorem splitK_cut (l : List UInt8) : splitK [10] 0 (count l [10]) l = cutL l := by
  induction l with
  | nil => rw [count_miss (by simp [index])]; rfl
  | cons c t ih =>
    by_cases hc : c = 10
    · subst hc
      have hix : index (10 :: t) [10] = ((0 : Nat) : Int) := by rw [index]; simp [List.isPrefixOf]
      rw [count_cons_eq, Nat.add_comm 1, splitK, hix]
      simp only [cutL, if_true]
      rw [← ih]
      simp
    · have hp : ([10] : List UInt8).isPrefixOf (c :: t) = false := by simp [List.isPrefixOf, Ne.symm hc]
      have hix : index (c :: t) [10] = if index t [10] == -1 then -1 else index t [10] + 1 := by rw [index, hp]; simp
      rw [count_cons_ne c 10 t hc]
      simp only [cutL, if_neg hc]
      by_cases hm : index t [10] = -1
      · rw [count_miss hm] at ih ⊢
        rw [← ih]
        rfl
      · have hge := index_ge t [10]
        obtain ⟨j, hj⟩ : ∃ j : Nat, index t [10] = j := ⟨(index t [10]).toNat, by omega⟩
        have hix' : index (c :: t) [10] = ((j + 1 : Nat) : Int) := by rw [hix, if_neg (fun e => hm (beq_iff_eq.1 e)), hj]; omega
        have hcnt := count_hit (s := t) (sub := [10]) (by simp) hj
        obtain ⟨k, hk⟩ : ∃ k, count t [10] = k + 1 := ⟨count (t.drop (j + [10].length)) [10], by rw [hcnt]; omega⟩
        rw [hk] at ih ⊢
        rw [splitK, hj] at ih
        rw [splitK, hix']
        have n1 : ¬ ((j : Int) == -1) = true := by first | (simp; done) | (simp; omega)
        have n2 : ¬ (((j + 1 : Nat) : Int) == -1) = true := by first | (simp; done) | (simp; omega)
        rw [if_neg n1] at ih
        rw [if_neg n2, ← ih]
        simp
def lines (l : List UInt8) : List (List UInt8) := if (cutL l).getLast (cutL_ne l) = [] then (cutL l).dropLast else cutL l
theorem cutL_append (l m : List UInt8) (h : ∀ c ∈ l, c ≠ 10) : cutL (l ++ m) = match cutL m with
    | x :: r => (l ++ x) :: r
    | [] => [l] := by
  induction l with
  | nil => cases hm : cutL m with
    | nil => exact absurd hm (cutL_ne m)
    | cons x r => simp [hm]
  | cons c t ih =>
    have ih' := ih (fun x hx => h x (by simp [hx]))
    simp only [List.cons_append, cutL, if_neg (h c (by simp)), ih']
    cases hm : cutL m with
    | nil => exact absurd hm (cutL_ne m)
    | cons x r => simp
theorem cutL_line (l m : List UInt8) (h : ∀ c ∈ l, c ≠ 10) : cutL (l ++ 10 :: m) = l :: cutL m := by
  rw [cutL_append l _ h]; simp [cutL]
end T
end Go.Proofs.YtncnogndopgknaaGreatDoor
namespace Go.Proofs.YtncnogndopgknaaGreatDoor
namespace S
structure Opn where
  val : Nat
  lab : List UInt8
  col : Nat
deriving DecidableEq
structure Kd where
  name : List UInt8
  shape : List UInt8
  least : Nat
  op : Nat
deriving DecidableEq
structure Lt where
  k : Kd
  ops : List Opn
  at' : Nat
  place : Nat
  line : Nat
structure St where
  ws : List Nat
  labs : List (List UInt8 × Nat)
  lat : List Lt
def find1 (f : Nat → List UInt8) (lo : Nat) : Nat → List UInt8 → Option Nat
  | 0, _ => none
  | n + 1, s => match find1 f lo n s with
    | some k => some k
    | none => if lo ≤ n ∧ f n = s then some n else none
def opOf (s : List UInt8) : Option Nat := find1 (fun n => nameT.getD n []) 1 25 s
def condOf (s : List UInt8) : Option Nat := find1 (fun n => condT.getD n []) 0 7 s
def wordN : List UInt8 := [119, 111, 114, 100]
def liN : List UInt8 := [108, 105]
def zeroN : List UInt8 := [122, 101, 114, 111]
def kindOf (s : List UInt8) : Option Kd :=
  if s = wordN then some ⟨s, [120], 1, 0⟩ else if s = liN then some ⟨s, [97, 120], 2, 0⟩ else if s = zeroN then some ⟨s, [110], 0, 0⟩
  else (opOf s).map fun n => ⟨s, shapeT.getD n [], 1, n⟩
def upTo (s : List UInt8) (most : Nat) : Option Nat := match T.number s with | some n => if n ≤ most then some n else none | none => none
def u32 (v : Int) : Nat := (v % 4294967296).toNat
def between (s : List UInt8) (least most : Int) : Option Nat := match T.signed s with | some v => if least ≤ v ∧ v ≤ most then some (u32 v) else none | none => none
def register (s : List UInt8) : Option Nat := if [114].isPrefixOf s then between (s.drop 1) 0 14 else none
def readNumber (l : Nat) (s : List UInt8) : Option Nat :=
  if l = 97 ∨ l = 98 ∨ l = 99 then register s else if l = 107 then condOf s else if l = 117 then upTo s 65535 else if l = 115 ∨ l = 111 then between s (-32768) 32767
  else if l = 110 then upTo s 2048 else match upTo s 4294967295 with | some n => some n | none => between s (-2147483648) 2147483647
def readOperand (l : Nat) (w : T.Wd) : Option Opn :=
  if w.quoted then none else if (l = 111 ∨ l = 120) ∧ T.name w.text = true then some ⟨0, w.text, w.col⟩ else (readNumber l w.text).map fun v => ⟨v, [], 0⟩
def rdOps (nc : Nat) : List Nat → List T.Wd → (Int × Nat) ⊕ List Opn
  | [], [] => .inr []
  | [], w :: _ => .inl (62, w.col)
  | _ :: _, [] => .inl (62, nc)
  | l :: ls, w :: ws => match readOperand l w with
    | none => .inl (61, w.col)
    | some o => match rdOps nc ls ws with
      | .inl f => .inl f
      | .inr os => .inr (o :: os)
def i32 (v : Nat) : Int := if v < 2147483648 then v else (v : Int) - 4294967296
def half (op r n : Nat) : Nat := (enc ⟨op, 0, r, 0, 0, i32 n⟩).toNat
def putL (i : Ins) (l v : Nat) : Ins := if l = 97 then { i with a := v } else if l = 98 then { i with b := v } else if l = 99 then { i with c := v } else if l = 107 then { i with cond := v } else { i with imm := i32 v }
def insOf (k : Kd) (os : List Opn) : Ins := ((k.shape.map (·.toNat)).zip os).foldl (fun i x => putL i x.1 x.2.val) ⟨k.op, 0, 0, 0, 0, 0⟩
def words (k : Kd) (os : List Opn) : List Nat :=
  if k.name = wordN then [(os.getD 0 ⟨0, [], 0⟩).val] else if k.name = liN then
    [half 1 (os.getD 0 ⟨0, [], 0⟩).val ((os.getD 1 ⟨0, [], 0⟩).val % 65536), half 2 (os.getD 0 ⟨0, [], 0⟩).val ((os.getD 1 ⟨0, [], 0⟩).val / 65536)]
  else if k.name = zeroN then List.replicate (os.getD 0 ⟨0, [], 0⟩).val 0 else [(enc (insOf k os)).toNat]
def lats (k : Kd) (os : List Opn) (place line : Nat) : List Lt := ((List.range os.length).filter fun i => decide ((os.getD i ⟨0, [], 0⟩).lab ≠ [])).map fun i => ⟨k, os, i, place, line⟩
def stmt (line : Nat) (st : St) (name : T.Wd) (rest : List T.Wd) : (Int × Nat) ⊕ St :=
  match kindOf name.text with
  | none => .inl (60, name.col)
  | some k =>
    if name.quoted then .inl (60, name.col)
    else if 2048 < st.ws.length + k.least then .inl (66, name.col)
    else match rdOps name.col (k.shape.map (·.toNat)) rest with
      | .inl f => .inl f
      | .inr os => if 2048 < st.ws.length + (words k os).length then .inl (66, name.col)
        else .inr ⟨st.ws ++ words k os, st.labs, st.lat ++ lats k os st.ws.length line⟩
def isDef (w : T.Wd) : Bool := !w.quoted && Lib.hasSuffix w.text [58]
def has (labs : List (List UInt8 × Nat)) (n : List UInt8) : Bool := labs.any fun x => x.1 == n
def lay (line : Nat) (st : St) : List T.Wd → (Int × Nat) ⊕ St
  | [] => .inr st
  | w :: ws => if isDef w then
      (if T.name (Lib.trimSuffix w.text [58]) = true then
        (if has st.labs (Lib.trimSuffix w.text [58]) then .inl (63, w.col) else lay line { st with labs := st.labs ++ [(Lib.trimSuffix w.text [58], st.ws.length)] } ws)
      else .inl (60, w.col))
    else stmt line st w ws
def lines (st : St) (n : Nat) : List (List UInt8) → (Int × Nat × Nat) ⊕ St
  | [] => .inr st
  | l :: ls => match T.rd l 0 with
    | .inl x => .inl (40, n + 1, x + 1)
    | .inr ws => match lay (n + 1) st ws with
      | .inl f => .inl (f.1, n + 1, f.2)
      | .inr st' => lines st' (n + 1) ls
def look (labs : List (List UInt8 × Nat)) (n : List UInt8) : Option Nat := (labs.find? fun x => x.1 == n).map (·.2)
def meaning (base : Nat) (l target place : Nat) : Option Nat :=
  if l = 111 then (if (target : Int) - place - 1 < -32768 ∨ 32767 < (target : Int) - place - 1 then none else some (u32 ((target : Int) - place - 1))) else some ((base + 4 * target) % 4294967296)
def over (ws : List Nat) (p : Nat) (xs : List Nat) : List Nat := ws.take p ++ xs.take (ws.length - p) ++ ws.drop (p + xs.length)
def fin (base : Nat) (labs : List (List UInt8 × Nat)) : List Nat → List Lt → (Int × Nat × Nat) ⊕ List Nat
  | ws, [] => .inr ws
  | ws, t :: ts => match look labs (t.ops.getD t.at' ⟨0, [], 0⟩).lab with
    | none => .inl (64, t.line, (t.ops.getD t.at' ⟨0, [], 0⟩).col)
    | some g => match meaning base ((t.k.shape.map (·.toNat)).getD t.at' 0) g t.place with
      | none => .inl (65, t.line, (t.ops.getD t.at' ⟨0, [], 0⟩).col)
      | some v => fin base labs (over ws t.place (words t.k (t.ops.set t.at' { t.ops.getD t.at' ⟨0, [], 0⟩ with val := v }))) ts
def read (s : List UInt8) : (Int × Nat × Nat) ⊕ St := if 65536 < s.length then .inl (2, 0, 0) else lines ⟨[], [], []⟩ 0 (T.lines s)
def asm (s : List UInt8) (base : Nat) : (Int × Nat × Nat) ⊕ (List Nat × List (List UInt8 × Nat)) :=
  match read s with
  | .inl f => .inl f
  | .inr st => match fin base st.labs st.ws st.lat with
    | .inl f => .inl f
    | .inr ws => .inr (ws, st.labs)
end S
end Go.Proofs.YtncnogndopgknaaGreatDoor
namespace Go.Proofs.YtncnogndopgknaaGreatDoor
open Go.RowKit
theorem ret_val {a b : Value} (h : a = b) : Ending.returned a = .returned b := by rw [h]
def numRes (r : Option Nat) : Value := match r with
  | some v => .tuple #[.int .u32 (v : Int), .int .i64 0]
  | none => .tuple #[.int .u32 0, .int .i64 41]

theorem all_at (s : ByteArray) (f : UInt8 → Bool) (k : Nat) (h : k < s.size) (hf : f s[k] = false) : s.data.toList.all f = false := by
  rw [← List.take_append_drop k s.data.toList, List.all_append, drop_get s k h, List.all_cons, hf]
  simp

set_option maxHeartbeats 1000000 in
theorem tens_any (W : World) (s : ByteArray) (m : Nat) (hm : m ≤ 4294967295) (hs : s.size ≤ 1000000000) (M : Int) (hM : M = (m : Int)) :
    Calls Tryz.prog 172 #[.string s, .int .u64 M] W fun e W' => e = .returned (numRes (T.tens s.data.toList m)) ∧ W = W' := by
  generalize hr0 : numRes (T.tens s.data.toList m) = r0
  have m1 : (0 : Int) ≤ M := by omega
  have m2 : M ≤ 4294967295 := by omega
  have HM : Hid (M = (m : Int)) := hM
  clear hM
  by_cases h0 : s.size = 0
  · have hse := emp s h0
    have HR : Hid (.tuple #[.int .u32 0, .int .i64 41] = r0) := hid (by rw [← hr0, hse]; rfl)
    clear hr0 hs h0 hm
    subst hse
    go_enter Tryz.func172, Tryz.ntmps172
    go_wp2_with fail
    go_ret2
    exact ⟨ret_val HR.out, rfl⟩
  · have hlt : 0 < s.size := by omega
    obtain ⟨n1, n2, n3⟩ := ne_nil s hlt
    have b1 : (0 : Int) < (s.size : Int) := by omega
    by_cases h10 : s.size ≤ 10
    · have b2 : (s.size : Int) ≤ 10 := by omega
      by_cases hz : s[0].toNat = 48 ∧ 1 < s.size
      · have e1 : ((s[0].toNat : Int) == 48) = true := by rw [hz.1]; rfl
        have e2 : (1 : Int) < (s.size : Int) := by omega
        have HR : Hid (.tuple #[.int .u32 0, .int .i64 41] = r0) := hid (by
          rw [← hr0]
          unfold T.tens
          rw [if_pos (.inr (.inr (by rw [n3, size_list]; exact hz)))]
          rfl)
        clear hr0 h0 hm n3 hz
        go_enter Tryz.func172, Tryz.ntmps172
        go_wp2_with fail
        go_ret2
        exact ⟨ret_val HR.out, rfl⟩
      · have HR : Hid (numRes (if s.data.toList.all T.isDig then (if T.val s.data.toList ≤ m then some (T.val s.data.toList) else none) else none) = r0) := hid (by
          have hneg : ¬ (s.data.toList.length = 0 ∨ 10 < s.data.toList.length ∨ (s.data.toList.headD 0).toNat = 48 ∧ 1 < s.data.toList.length) := by
            rw [n3, size_list]
            omega
          rw [← hr0]
          unfold T.tens
          rw [if_neg hneg])
        have hz' : ((s[0].toNat : Int) == 48) = false ∨ (((s[0].toNat : Int) == 48) = true ∧ (s.size : Int) ≤ 1) := by
          by_cases h : s[0].toNat = 48
          · right; exact ⟨by rw [h]; rfl, by omega⟩
          · left; simp; omega
        clear hr0 h0 n3 hz
        rcases hz' with hz | ⟨hz, hz2⟩
        all_goals
          go_enter Tryz.func172, Tryz.ntmps172
          go_wp2_with fail
          go_loopw [6, 7, 27] (fun n _ i wr => ∃ (k : Nat) (a : Int), k ≤ s.size ∧ i = .int .i64 k ∧ n = .int .u64 a ∧ 0 ≤ a ∧ a < 10000000000 ∧ Hid (a = (T.val (s.data.toList.take k) : Int) ∧ (s.data.toList.take k).all T.isDig = true) ∧ W = wr) (fun _ _ i _ => s.size - (intOf i).toNat)
          case atStart => exact ⟨0, 0, Nat.zero_le _, rfl, rfl, by omega, by omega, hid ⟨by simp [T.val], by simp⟩, rfl⟩
          case round =>
            obtain ⟨k, a, hk, rfl, rfl, ha0, ha1, ha, rfl⟩ := hrel
            by_cases hk2 : k < s.size
            · have c1 : (k : Int) < (s.size : Int) := by omega
              have HD := digit_any s[k]
              cases hD : T.isDig s[k] with
              | true =>
                rw [hD] at HD
                have h1 := hD
                simp [T.isDig] at h1
                have d1 : (48 : Int) ≤ s[k].toNat := by omega
                have d2 : (s[k].toNat : Int) ≤ 57 := by omega
                have hs1 := T.val_snoc (s.data.toList.take k) s[k]
                have hall : (s.data.toList.take (k + 1)).all T.isDig = true := by rw [take_snoc s k hk2, List.all_append, ha.out.2]; simp [hD]
                have hlt1 := T.val_lt (s.data.toList.take (k + 1)) hall
                rw [List.length_take, size_list, Nat.min_eq_left (by omega)] at hlt1
                rw [← take_snoc s k hk2] at hs1
                have hpow : 10 ^ (k + 1) ≤ 10 ^ 10 := Nat.pow_le_pow_right (by decide) (by omega)
                have hnew : a * 10 + ((s[k].toNat : Int) - 48) = (T.val (s.data.toList.take (k + 1)) : Int) := by
                  rw [hs1, ha.out.1]
                  simp only [T.dv]
                  omega
                have q1 : a * 10 + ((s[k].toNat : Int) - 48) < 10000000000 := by
                  rw [hnew]
                  omega
                have HN : Hid (a * 10 + ((s[k].toNat : Int) - 48) = (T.val (s.data.toList.take (k + 1)) : Int) ∧ (s.data.toList.take (k + 1)).all T.isDig = true) := ⟨hnew, hall⟩
                clear hnew hall hlt1 hs1 hpow h1 hD ha HR
                go_wp2_with fail
                refine (HD _).mono ?_
                rintro e w' ⟨rfl, rfl⟩
                go_wp2_with fail
                go_roundw
                case rel => exact ⟨k + 1, _, by omega, by go_num, rfl, by omega, q1, HN, trivial⟩
                case measure => simp [intOf]; omega
              | false =>
                rw [hD] at HD
                have HF : Hid (.tuple #[.int .u32 0, .int .i64 41] = r0) := hid (by
                  rw [← HR.out, if_neg (by rw [all_at s _ k hk2 hD]; simp)]
                  rfl)
                clear ha HR hD
                go_wp2_with fail
                refine (HD _).mono ?_
                rintro e w' ⟨rfl, rfl⟩
                go_wp2_with fail
                go_ret2
                exact ⟨ret_val HF.out, rfl⟩
            · obtain rfl : k = s.size := by omega
              have h := ha.out
              rw [take_size] at h
              by_cases hle : a ≤ M
              · have HF : Hid (.tuple #[.int .u32 a, .int .i64 0] = r0) := hid (by
                  have hMM := HM.out
                  rw [← HR.out, if_pos h.2, if_pos (by omega), h.1]
                  rfl)
                have q1 : a ≤ 4294967295 := by omega
                clear ha HR h
                go_wp2_with fail
                go_ret2
                exact ⟨ret_val HF.out, rfl⟩
              · have HF : Hid (.tuple #[.int .u32 0, .int .i64 41] = r0) := hid (by
                  have hMM := HM.out
                  rw [← HR.out, if_pos h.2, if_neg (by omega)]
                  rfl)
                have q1 : M < a := by omega
                clear ha HR h hle
                go_wp2_with fail
                go_ret2
                exact ⟨ret_val HF.out, rfl⟩
    · have b2 : (10 : Int) < (s.size : Int) := by omega
      have HR : Hid (.tuple #[.int .u32 0, .int .i64 41] = r0) := hid (by
        rw [← hr0]
        unfold T.tens
        rw [if_pos (.inr (.inl (by rw [size_list]; omega)))]
        rfl)
      clear hr0 h0 n3 hm
      go_enter Tryz.func172, Tryz.ntmps172
      go_wp2_with fail
      go_ret2
      exact ⟨ret_val HR.out, rfl⟩
end Go.Proofs.YtncnogndopgknaaGreatDoor
namespace Go.Proofs.YtncnogndopgknaaGreatDoor
open Go.RowKit
theorem or_digit (x b : Int) (x0 : 0 ≤ x) (x1 : x < 268435456) (b0 : 0 ≤ b) (b1 : b < 16) : bits .or .u32 (x * 16) b = x * 16 + b := by
  rw [u32_or _ _ (by omega) (by omega) b0 (by omega), nat_join 4 _ _ (by omega) (by omega)]
  omega
set_option maxHeartbeats 1000000 in
theorem hexed_any (W : World) (s : ByteArray) (hs : s.size ≤ 1000000000) :
    Calls Tryz.prog 171 #[.string s] W fun e W' => e = .returned (numRes (T.hexed s.data.toList)) ∧ W = W' := by
  generalize hr0 : numRes (T.hexed s.data.toList) = r0
  by_cases h0 : s.size = 0
  · have hse := emp s h0
    have HR : Hid (.tuple #[.int .u32 0, .int .i64 41] = r0) := hid (by rw [← hr0, hse]; rfl)
    clear hr0 hs h0
    subst hse
    go_enter Tryz.func171, Tryz.ntmps171
    go_wp2_with fail
    go_ret2
    exact ⟨ret_val HR.out, rfl⟩
  · have hlt : 0 < s.size := by omega
    obtain ⟨n1, n2, n3⟩ := ne_nil s hlt
    have b1 : (0 : Int) < (s.size : Int) := by omega
    by_cases h10 : s.size ≤ 8
    · have b2 : (s.size : Int) ≤ 8 := by omega
      have HR : Hid (numRes (T.hval s.data.toList) = r0) := hid (by
        have hneg : ¬ (s.data.toList.length = 0 ∨ 8 < s.data.toList.length) := by
          rw [size_list]
          omega
        rw [← hr0]
        unfold T.hexed
        rw [if_neg hneg])
      clear hr0 h0 n3
      go_enter Tryz.func171, Tryz.ntmps171
      go_wp2_with fail
      go_loopw [4, 5, 6, 7, 17] (fun n _ _ _ i wr => ∃ (k : Nat) (a : Int), k ≤ s.size ∧ i = .int .i64 k ∧ n = .int .u32 a ∧ 0 ≤ a ∧ a < 4294967296 ∧ Hid (∃ b : Nat, a = (b : Int) ∧ T.hval (s.data.toList.take k) = some b) ∧ W = wr) (fun _ _ _ _ i _ => s.size - (intOf i).toNat)
      case atStart => exact ⟨0, 0, Nat.zero_le _, rfl, rfl, by omega, by omega, hid ⟨0, rfl, by simp [T.hval]⟩, rfl⟩
      case round =>
        obtain ⟨k, a, hk, rfl, rfl, ha0, ha1, ha, rfl⟩ := hrel
        by_cases hk2 : k < s.size
        · have c1 : (k : Int) < (s.size : Int) := by omega
          obtain ⟨b, hb1, hb2⟩ := ha.out
          have hlt1 := T.hval_lt hb2
          rw [List.length_take, size_list, Nat.min_eq_left (by omega)] at hlt1
          have hpow : 16 ^ k ≤ 16 ^ 7 := Nat.pow_le_pow_right (by decide) (by omega)
          have q1 : a < 268435456 := by omega
          cases hD : T.hexV s[k] with
          | some d =>
            have HD := hexValue_some _ d hD
            have hd := (T.hexV_lt hD).1
            have q2 : (d : Int) < 16 := by omega
            have q3 : (0 : Int) ≤ (d : Int) := by omega
            have ho := or_digit a (d : Int) ha0 q1 q3 q2
            have HN : Hid (∃ b : Nat, a * 16 + (d : Int) = (b : Int) ∧ T.hval (s.data.toList.take (k + 1)) = some b) := hid ⟨b * 16 + d, by omega, by
              rw [take_snoc s k hk2, T.hval_snoc, hb2]
              simp only [T.hstep, hD]⟩
            clear hb1 hb2 hlt1 hpow ha HR hD
            go_wp2_with fail
            refine (HD _).mono ?_
            rintro e w' ⟨rfl, rfl⟩
            go_wp2_with fail
            go_roundw
            case rel => exact ⟨k + 1, _, by omega, by go_num, rfl, by omega, by omega, HN, trivial⟩
            case measure => simp [intOf]; omega
          | none =>
            have HD := hexValue_none _ hD
            have HF : Hid (.tuple #[.int .u32 0, .int .i64 41] = r0) := hid (by
              rw [← HR.out, ← List.take_append_drop k s.data.toList, T.hval_append, hb2, drop_get s k hk2, List.foldl_cons]
              simp only [T.hstep, hD]
              rw [T.hfold_none]
              rfl)
            clear hb1 hb2 hlt1 hpow ha HR hD
            go_wp2_with fail
            refine (HD _).mono ?_
            rintro e w' ⟨rfl, rfl⟩
            go_wp2_with fail
            go_ret2
            exact ⟨ret_val HF.out, rfl⟩
        · obtain rfl : k = s.size := by omega
          obtain ⟨b, hb1, hb2⟩ := ha.out
          rw [take_size] at hb2
          have HF : Hid (.tuple #[.int .u32 a, .int .i64 0] = r0) := hid (by
            rw [← HR.out, hb2, hb1]
            rfl)
          clear ha HR hb1 hb2
          go_wp2_with fail
          go_ret2
          exact ⟨ret_val HF.out, rfl⟩
    · have b2 : (8 : Int) < (s.size : Int) := by omega
      have HR : Hid (.tuple #[.int .u32 0, .int .i64 41] = r0) := hid (by
        rw [← hr0]
        unfold T.hexed
        rw [if_pos (.inr (by rw [size_list]; omega))]
        rfl)
      clear hr0 h0 n3
      go_enter Tryz.func171, Tryz.ntmps171
      go_wp2_with fail
      go_ret2
      exact ⟨ret_val HR.out, rfl⟩
end Go.Proofs.YtncnogndopgknaaGreatDoor
namespace Go.Proofs
open Go.Shelf
def Tryz.lays169_ren : Go.Shelf.Ren := ⟨fun | 169 => 34 | n => n, fun | 70 => 90 | 9 => 9 | 0 => 0 | 72 => 93 | 37 => 91 | 127 => 136 | 3 => 3 | 5 => 5 | n => n, fun | n => n⟩
theorem Tryz.lays169 : Go.Proofs.Lays.n169 Tryz.prog Tryz.lays169_ren := {
  mixed := by kernel_rfl
  f169 := Tryz.func34.trans (congrArg some (by kernel_rfl))
  t0 := Tryz.underlying0
  a0 := Tryz.isAgg0
  z0 := Tryz.sizeOf0
  v0 := Tryz.zeroValue0
  t3 := Tryz.underlying3
  a3 := Tryz.isAgg3
  z3 := Tryz.sizeOf3
  v3 := Tryz.zeroValue3
  t9 := Tryz.underlying9
  a9 := Tryz.isAgg9
  z9 := Tryz.sizeOf9
  v9 := Tryz.zeroValue9
  t37 := Tryz.underlying91
  a37 := Tryz.isAgg91
  z37 := Tryz.sizeOf91
  v37 := Tryz.zeroValue91
  t70 := Tryz.underlying90
  a70 := Tryz.isAgg90
  z70 := Tryz.sizeOf90
  v70 := Tryz.zeroValue90
  t72 := Tryz.underlying93
  a72 := Tryz.isAgg93
  z72 := Tryz.sizeOf93
  v72 := Tryz.zeroValue93
  t127 := Tryz.underlying136
  a127 := Tryz.isAgg136
  z127 := Tryz.sizeOf136
  v127 := Tryz.zeroValue136 }
theorem Tryz.Builder_Extra_169 : Builder.Extra Tryz.prog Tryz.lays169_ren := {
  sizeBuilder := by kernel_rfl
  liesBuilder := by kernel_rfl
  t5 := Tryz.underlying5
  a5 := Tryz.isAgg5
  z5 := Tryz.sizeOf5
  v5 := Tryz.zeroValue5
  infoByte := by kernel_rfl
  cellsByte := by kernel_rfl
  sizeByte := by kernel_rfl
  neB5 := by decide }
def Tryz.lays103_ren : Go.Shelf.Ren := ⟨fun | 103 => 167 | 210 => 170 | 206 => 173 | n => n, fun | 9 => 9 | 4 => 4 | 24 => 277 | 3 => 3 | n => n, fun | n => n⟩
theorem Tryz.lays103 : Go.Proofs.Lays.n103 Tryz.prog Tryz.lays103_ren := {
  mixed := by kernel_rfl
  f103 := Tryz.func167.trans (congrArg some (by kernel_rfl))
  f206 := Tryz.func173.trans (congrArg some (by kernel_rfl))
  f210 := Tryz.func170.trans (congrArg some (by kernel_rfl))
  t3 := Tryz.underlying3
  a3 := Tryz.isAgg3
  z3 := Tryz.sizeOf3
  v3 := Tryz.zeroValue3
  t4 := Tryz.underlying4
  a4 := Tryz.isAgg4
  z4 := Tryz.sizeOf4
  v4 := Tryz.zeroValue4
  t9 := Tryz.underlying9
  a9 := Tryz.isAgg9
  z9 := Tryz.sizeOf9
  v9 := Tryz.zeroValue9
  t24 := Tryz.underlying277
  a24 := Tryz.isAgg277
  z24 := Tryz.sizeOf277
  v24 := Tryz.zeroValue277 }
open Go.RowKit in
theorem Tryz.strings_CutPrefix (s p : ByteArray) (w : World) :
    Calls Tryz.prog 167 #[.string s, .string p] w fun e w' => e = .returned (.tuple #[.string ⟨(Lib.trimPrefix s.data.toList p.data.toList).toArray⟩, .bool (Lib.hasPrefix s.data.toList p.data.toList)]) ∧ w' = w := Any.strings_CutPrefix Tryz.lays103 s p w
open Go.RowKit in
theorem Tryz.Builder_String_any_k (B b : Nat) (l : List UInt8) (w : World) (h : Lib.IsBuilderF 93 5 B b (Lib.byteCells l) w) (hBw : B ≤ w.heap.size) :
    Calls Tryz.prog 34 #[.pointer (some ⟨b, 0, none⟩)] w fun e w' => e = .returned (.string ⟨l.toArray⟩) ∧ (Lib.IsBuilderF 93 5 B b (Lib.byteCells l) w' ∧ Below B w w' ∧ Lib.OthersKept 5 (some b) w w') := Any.Builder_String_any_k Tryz.lays169 Tryz.Builder_Extra_169 B b l w h hBw
def Tryz.lays283_ren : Go.Shelf.Ren := ⟨fun | 283 => 96 | n => n, fun | 3 => 3 | 9 => 9 | 4 => 4 | n => n, fun | n => n⟩
theorem Tryz.lays283 : Go.Proofs.Lays.n283 Tryz.prog Tryz.lays283_ren := {
  mixed := by kernel_rfl
  f283 := Tryz.func96.trans (congrArg some (by kernel_rfl))
  t3 := Tryz.underlying3
  a3 := Tryz.isAgg3
  z3 := Tryz.sizeOf3
  v3 := Tryz.zeroValue3
  t4 := Tryz.underlying4
  a4 := Tryz.isAgg4
  z4 := Tryz.sizeOf4
  v4 := Tryz.zeroValue4
  t9 := Tryz.underlying9
  a9 := Tryz.isAgg9
  z9 := Tryz.sizeOf9
  v9 := Tryz.zeroValue9 }
open Go.Lib in
theorem Tryz.internal_strconv_small (i : Nat) (h : i < 100) (w : World) :
    Calls Tryz.prog 96 #[.int .i64 i] w fun e w' => e = .returned (.string ⟨(Lib.decDigits i).toArray⟩) ∧ w' = w := Any.internal_strconv_small Tryz.lays283 i h w
def Tryz.laysM284_ren : Go.Shelf.Ren := ⟨fun | 284 => 97 | 129 => 126 | 317 => 125 | 318 => 127 | n => n, fun | 53 => 117 | 3 => 3 | 212 => 242 | 0 => 0 | 4 => 4 | 46 => 85 | 5 => 5 | 9 => 9 | n => n, fun | 17 => 4 | n => n⟩
theorem Tryz.laysM284 : Go.Proofs.LaysM.n284 Tryz.prog Tryz.laysM284_ren := {
  mixed := by kernel_rfl
  f129 := Tryz.func126.trans (congrArg some (by kernel_rfl))
  f284 := Tryz.func97.trans (congrArg some (by kernel_rfl))
  f317 := Tryz.func125.trans (congrArg some (by kernel_rfl))
  f318 := Tryz.func127.trans (congrArg some (by kernel_rfl))
  t0 := Tryz.underlying0
  a0 := Tryz.isAgg0
  z0 := Tryz.sizeOf0
  v0 := Tryz.zeroValue0
  t3 := Tryz.underlying3
  a3 := Tryz.isAgg3
  z3 := Tryz.sizeOf3
  v3 := Tryz.zeroValue3
  t4 := Tryz.underlying4
  a4 := Tryz.isAgg4
  z4 := Tryz.sizeOf4
  v4 := Tryz.zeroValue4
  t5 := Tryz.underlying5
  a5 := Tryz.isAgg5
  z5 := Tryz.sizeOf5
  v5 := Tryz.zeroValue5
  t9 := Tryz.underlying9
  a9 := Tryz.isAgg9
  z9 := Tryz.sizeOf9
  v9 := Tryz.zeroValue9
  t46 := Tryz.underlying85
  a46 := Tryz.isAgg85
  z46 := Tryz.sizeOf85
  v46 := Tryz.zeroValue85
  t53 := Tryz.underlying117
  a53 := Tryz.isAgg117
  z53 := Tryz.sizeOf117
  v53 := Tryz.zeroValue117
  t212 := Tryz.underlying242
  a212 := Tryz.isAgg242
  z212 := Tryz.sizeOf242
  v212 := Tryz.zeroValue242
  g17 := by kernel_rfl
  i0 := by kernel_rfl
  i3 := by kernel_rfl
  i4 := by kernel_rfl
  i5 := by kernel_rfl
  i9 := by kernel_rfl
  i46 := by kernel_rfl
  i53 := by kernel_rfl
  i212 := by kernel_rfl
  m17 := by kernel_rfl }
open Go.Lib in
theorem Tryz.internal_strconv_numDigits (u : Nat) (h1 : 1 ≤ u) (h2 : u < 18446744073709551616) (w : World) (htab : Lib.TabIs Tryz.prog w "internal/strconv.uint64pow10" .u64 Lib.pow10Tab) :
    Calls Tryz.prog 97 #[.int .u64 u] w fun e w' => e = .returned (.int .i64 (Lib.nDigits u)) ∧ w' = w := Any.internal_strconv_numDigits Tryz.laysM284 u h1 h2 w htab
def Tryz.lays285_ren : Go.Shelf.Ren := ⟨fun | 285 => 98 | n => n, fun | 37 => 91 | 53 => 117 | 3 => 3 | 4 => 4 | 51 => 22 | 9 => 9 | 5 => 5 | 0 => 0 | n => n, fun | n => n⟩
theorem Tryz.lays285 : Go.Proofs.Lays.n285 Tryz.prog Tryz.lays285_ren := {
  mixed := by kernel_rfl
  f285 := Tryz.func98.trans (congrArg some (by kernel_rfl))
  t0 := Tryz.underlying0
  a0 := Tryz.isAgg0
  z0 := Tryz.sizeOf0
  v0 := Tryz.zeroValue0
  t3 := Tryz.underlying3
  a3 := Tryz.isAgg3
  z3 := Tryz.sizeOf3
  v3 := Tryz.zeroValue3
  t4 := Tryz.underlying4
  a4 := Tryz.isAgg4
  z4 := Tryz.sizeOf4
  v4 := Tryz.zeroValue4
  t5 := Tryz.underlying5
  a5 := Tryz.isAgg5
  z5 := Tryz.sizeOf5
  v5 := Tryz.zeroValue5
  t9 := Tryz.underlying9
  a9 := Tryz.isAgg9
  z9 := Tryz.sizeOf9
  v9 := Tryz.zeroValue9
  t37 := Tryz.underlying91
  a37 := Tryz.isAgg91
  z37 := Tryz.sizeOf91
  v37 := Tryz.zeroValue91
  t51 := Tryz.underlying22
  a51 := Tryz.isAgg22
  z51 := Tryz.sizeOf22
  v51 := Tryz.zeroValue22
  t53 := Tryz.underlying117
  a53 := Tryz.isAgg117
  z53 := Tryz.sizeOf117
  v53 := Tryz.zeroValue117 }
open Go.RowKit Go.Sort Go.Lib in
theorem Tryz.internal_strconv_formatBase10 (blk off cap : Nat) (u : Nat) (d : Array UInt8) (w : World) (hH : Holds (fun (b : UInt8) => Value.int .u8 (b.toNat : Int)) w blk off d) (hu : u < 10 ^ d.size) (hu64 : u < 18446744073709551616) (hsz : d.size < 4611686018427387904) :
    Calls Tryz.prog 98 #[.slice (some ⟨blk, off, none⟩) d.size cap, .int .u64 u] w fun e w' =>
      e = .returned (.tuple #[]) ∧ ∃ (n v' : Nat) (dk : Array UInt8), w' = (putRow (fun (b : UInt8) => Value.int .u8 (b.toNat : Int)) w blk off dk).drewN n ∧ FmtInv d.size u 0 v' dk := Any.internal_strconv_formatBase10 Tryz.lays285 blk off cap u d w hH hu hu64 hsz
def Tryz.laysM173_ren : Go.Shelf.Ren := ⟨fun | 173 => 100 | 246 => 130 | 283 => 96 | 284 => 97 | 285 => 98 | 286 => 99 | 129 => 126 | 317 => 125 | 318 => 127 | 319 => 128 | 320 => 129 | 337 => 145 | 338 => 146 | n => n, fun | 2 => 2 | 3 => 3 | 9 => 9 | 4 => 4 | 171 => 212 | 0 => 0 | 53 => 117 | 37 => 91 | 5 => 5 | 173 => 215 | 212 => 242 | 51 => 22 | 20 => 20 | 213 => 243 | 46 => 85 | 232 => 267 | 233 => 268 | n => n, fun | 17 => 4 | 18 => 8 | 19 => 9 | n => n⟩
theorem Tryz.laysM173 : Go.Proofs.LaysM.n173 Tryz.prog Tryz.laysM173_ren := {
  mixed := by kernel_rfl
  f129 := Tryz.func126.trans (congrArg some (by kernel_rfl))
  f173 := Tryz.func100.trans (congrArg some (by kernel_rfl))
  f246 := Tryz.func130.trans (congrArg some (by kernel_rfl))
  f283 := Tryz.func96.trans (congrArg some (by kernel_rfl))
  f284 := Tryz.func97.trans (congrArg some (by kernel_rfl))
  f285 := Tryz.func98.trans (congrArg some (by kernel_rfl))
  f286 := Tryz.func99.trans (congrArg some (by kernel_rfl))
  f317 := Tryz.func125.trans (congrArg some (by kernel_rfl))
  f318 := Tryz.func127.trans (congrArg some (by kernel_rfl))
  f319 := Tryz.func128.trans (congrArg some (by kernel_rfl))
  f320 := Tryz.func129.trans (congrArg some (by kernel_rfl))
  f337 := Tryz.func145.trans (congrArg some (by kernel_rfl))
  f338 := Tryz.func146.trans (congrArg some (by kernel_rfl))
  t0 := Tryz.underlying0
  a0 := Tryz.isAgg0
  z0 := Tryz.sizeOf0
  v0 := Tryz.zeroValue0
  t2 := Tryz.underlying2
  a2 := Tryz.isAgg2
  z2 := Tryz.sizeOf2
  v2 := Tryz.zeroValue2
  t3 := Tryz.underlying3
  a3 := Tryz.isAgg3
  z3 := Tryz.sizeOf3
  v3 := Tryz.zeroValue3
  t4 := Tryz.underlying4
  a4 := Tryz.isAgg4
  z4 := Tryz.sizeOf4
  v4 := Tryz.zeroValue4
  t5 := Tryz.underlying5
  a5 := Tryz.isAgg5
  z5 := Tryz.sizeOf5
  v5 := Tryz.zeroValue5
  t9 := Tryz.underlying9
  a9 := Tryz.isAgg9
  z9 := Tryz.sizeOf9
  v9 := Tryz.zeroValue9
  t20 := Tryz.underlying20
  a20 := Tryz.isAgg20
  z20 := Tryz.sizeOf20
  v20 := Tryz.zeroValue20
  t37 := Tryz.underlying91
  a37 := Tryz.isAgg91
  z37 := Tryz.sizeOf91
  v37 := Tryz.zeroValue91
  t46 := Tryz.underlying85
  a46 := Tryz.isAgg85
  z46 := Tryz.sizeOf85
  v46 := Tryz.zeroValue85
  t51 := Tryz.underlying22
  a51 := Tryz.isAgg22
  z51 := Tryz.sizeOf22
  v51 := Tryz.zeroValue22
  t53 := Tryz.underlying117
  a53 := Tryz.isAgg117
  z53 := Tryz.sizeOf117
  v53 := Tryz.zeroValue117
  t171 := Tryz.underlying212
  a171 := Tryz.isAgg212
  z171 := Tryz.sizeOf212
  v171 := Tryz.zeroValue212
  t173 := Tryz.underlying215
  a173 := Tryz.isAgg215
  z173 := Tryz.sizeOf215
  v173 := Tryz.zeroValue215
  t212 := Tryz.underlying242
  a212 := Tryz.isAgg242
  z212 := Tryz.sizeOf242
  v212 := Tryz.zeroValue242
  t213 := Tryz.underlying243
  a213 := Tryz.isAgg243
  z213 := Tryz.sizeOf243
  t232 := Tryz.underlying267
  a232 := Tryz.isAgg267
  z232 := Tryz.sizeOf267
  v232 := Tryz.zeroValue267
  t233 := Tryz.underlying268
  a233 := Tryz.isAgg268
  z233 := Tryz.sizeOf268
  v233 := Tryz.zeroValue268
  g17 := by kernel_rfl
  g18 := by kernel_rfl
  g19 := by kernel_rfl
  i0 := by kernel_rfl
  i2 := by kernel_rfl
  i3 := by kernel_rfl
  i4 := by kernel_rfl
  i5 := by kernel_rfl
  i9 := by kernel_rfl
  i20 := by kernel_rfl
  i37 := by kernel_rfl
  i46 := by kernel_rfl
  i51 := by kernel_rfl
  i53 := by kernel_rfl
  i171 := by kernel_rfl
  i173 := by kernel_rfl
  i212 := by kernel_rfl
  i232 := by kernel_rfl
  i233 := by kernel_rfl
  m17 := by kernel_rfl
  m18 := by kernel_rfl
  m19 := by kernel_rfl }
open Go.RowKit Go.Sort Go.Lib in
theorem Tryz.strconv_FormatInt_10 (n : Int) (h0 : -9223372036854775808 ≤ n) (h1 : n ≤ 9223372036854775807) (w : World) (htab : Lib.TabIs Tryz.prog w "internal/strconv.uint64pow10" .u64 Lib.pow10Tab) :
    Calls Tryz.prog 100 #[.int .i64 n, .int .i64 10] w fun e w' => e = .returned (.string ⟨(Lib.itoa n).toArray⟩) ∧ ∃ k os, w' = grow (w.drewN k) os := Any.strconv_FormatInt_10 Tryz.laysM173 n h0 h1 w htab
def Tryz.laysM316_ren : Go.Shelf.Ren := ⟨fun | 316 => 81 | n => n, fun | 9 => 9 | 3 => 3 | 4 => 4 | 37 => 91 | 0 => 0 | 127 => 136 | 5 => 5 | n => n, fun | n => n⟩
theorem Tryz.laysM316 : Go.Proofs.LaysM.n316 Tryz.prog Tryz.laysM316_ren := {
  mixed := by kernel_rfl
  f316 := Tryz.func81.trans (congrArg some (by kernel_rfl))
  t0 := Tryz.underlying0
  a0 := Tryz.isAgg0
  z0 := Tryz.sizeOf0
  v0 := Tryz.zeroValue0
  t3 := Tryz.underlying3
  a3 := Tryz.isAgg3
  z3 := Tryz.sizeOf3
  v3 := Tryz.zeroValue3
  t4 := Tryz.underlying4
  a4 := Tryz.isAgg4
  z4 := Tryz.sizeOf4
  v4 := Tryz.zeroValue4
  t9 := Tryz.underlying9
  a9 := Tryz.isAgg9
  z9 := Tryz.sizeOf9
  v9 := Tryz.zeroValue9
  t37 := Tryz.underlying91
  a37 := Tryz.isAgg91
  z37 := Tryz.sizeOf91
  v37 := Tryz.zeroValue91
  t127 := Tryz.underlying136
  a127 := Tryz.isAgg136
  z127 := Tryz.sizeOf136
  v127 := Tryz.zeroValue136
  t5 := Tryz.underlying5
  a5 := Tryz.isAgg5
  z5 := Tryz.sizeOf5
  v5 := Tryz.zeroValue5
  i0 := by kernel_rfl
  i3 := by kernel_rfl
  i4 := by kernel_rfl
  i5 := by kernel_rfl
  i9 := by kernel_rfl
  i37 := by kernel_rfl
  i127 := by kernel_rfl }
open Go.RowKit in
theorem Tryz.stringslite_Clone (s : ByteArray) (w : World) (hlim : s.size ≤ 281474976710656) :
    Calls Tryz.prog 81 #[.string s] w fun e w' => e = .returned (.string s) ∧ Below w.heap.size w w' := Any.stringslite_Clone Tryz.laysM316 s w hlim
def Tryz.lays100_ren : Go.Shelf.Ren := ⟨fun | 100 => 85 | 207 => 115 | n => n, fun | 9 => 9 | 4 => 4 | 3 => 3 | n => n, fun | n => n⟩
theorem Tryz.lays100 : Go.Proofs.Lays.n100 Tryz.prog Tryz.lays100_ren := {
  mixed := by kernel_rfl
  f100 := Tryz.func85.trans (congrArg some (by kernel_rfl))
  f207 := Tryz.func115.trans (congrArg some (by kernel_rfl))
  t3 := Tryz.underlying3
  a3 := Tryz.isAgg3
  z3 := Tryz.sizeOf3
  v3 := Tryz.zeroValue3
  t4 := Tryz.underlying4
  a4 := Tryz.isAgg4
  z4 := Tryz.sizeOf4
  v4 := Tryz.zeroValue4
  t9 := Tryz.underlying9
  a9 := Tryz.isAgg9
  z9 := Tryz.sizeOf9
  v9 := Tryz.zeroValue9 }
open Go.RowKit Go.Lib in
theorem Tryz.strings_HasSuffix (s p : ByteArray) (w : World) (hs : s.size ≤ 9223372036854775807) :
    Calls Tryz.prog 85 #[.string s, .string p] w fun e w' => e = .returned (.bool (Lib.hasSuffix s.data.toList p.data.toList)) ∧ w' = w := Any.strings_HasSuffix Tryz.lays100 s p w hs
def Tryz.lays102_ren : Go.Shelf.Ren := ⟨fun | 102 => 86 | 209 => 116 | 207 => 115 | n => n, fun | 9 => 9 | 4 => 4 | 3 => 3 | n => n, fun | n => n⟩
theorem Tryz.lays102 : Go.Proofs.Lays.n102 Tryz.prog Tryz.lays102_ren := {
  mixed := by kernel_rfl
  f102 := Tryz.func86.trans (congrArg some (by kernel_rfl))
  f207 := Tryz.func115.trans (congrArg some (by kernel_rfl))
  f209 := Tryz.func116.trans (congrArg some (by kernel_rfl))
  t3 := Tryz.underlying3
  a3 := Tryz.isAgg3
  z3 := Tryz.sizeOf3
  v3 := Tryz.zeroValue3
  t4 := Tryz.underlying4
  a4 := Tryz.isAgg4
  z4 := Tryz.sizeOf4
  v4 := Tryz.zeroValue4
  t9 := Tryz.underlying9
  a9 := Tryz.isAgg9
  z9 := Tryz.sizeOf9
  v9 := Tryz.zeroValue9 }
open Go.RowKit Go.Lib in
theorem Tryz.strings_TrimSuffix (s p : ByteArray) (w : World) (hs : s.size ≤ 9223372036854775807) :
    Calls Tryz.prog 86 #[.string s, .string p] w fun e w' => e = .returned (.string ⟨(Lib.trimSuffix s.data.toList p.data.toList).toArray⟩) ∧ w' = w := Any.strings_TrimSuffix Tryz.lays102 s p w hs
def Tryz.lays146_ren : Go.Shelf.Ren := ⟨fun | 146 => 58 | 221 => 80 | 268 => 110 | 138 => 111 | 143 => 112 | 195 => 137 | 197 => 138 | 218 => 139 | 219 => 140 | 260 => 152 | 217 => 153 | 225 => 154 | 224 => 155 | 267 => 156 | 266 => 164 | 314 => 165 | n => n, fun | 9 => 9 | 31 => 88 | 3 => 3 | 4 => 4 | 0 => 0 | 105 => 252 | 21 => 21 | 5 => 5 | 46 => 85 | 119 => 269 | 139 => 272 | 138 => 271 | 146 => 273 | 51 => 22 | n => n, fun | 1 => 7 | 3 => 11 | 4 => 12 | n => n⟩
theorem Tryz.lays146 : Go.Proofs.Lays.n146 Tryz.prog Tryz.lays146_ren := {
  mixed := by kernel_rfl
  f138 := Tryz.func111.trans (congrArg some (by kernel_rfl))
  f143 := Tryz.func112.trans (congrArg some (by kernel_rfl))
  f146 := Tryz.func58.trans (congrArg some (by kernel_rfl))
  f195 := Tryz.func137.trans (congrArg some (by kernel_rfl))
  f197 := Tryz.func138.trans (congrArg some (by kernel_rfl))
  f217 := Tryz.func153.trans (congrArg some (by kernel_rfl))
  f218 := Tryz.func139.trans (congrArg some (by kernel_rfl))
  f219 := Tryz.func140.trans (congrArg some (by kernel_rfl))
  f221 := Tryz.func80.trans (congrArg some (by kernel_rfl))
  f224 := Tryz.func155.trans (congrArg some (by kernel_rfl))
  f225 := Tryz.func154.trans (congrArg some (by kernel_rfl))
  f260 := Tryz.func152.trans (congrArg some (by kernel_rfl))
  f266 := Tryz.func164.trans (congrArg some (by kernel_rfl))
  f267 := Tryz.func156.trans (congrArg some (by kernel_rfl))
  f268 := Tryz.func110.trans (congrArg some (by kernel_rfl))
  f314 := Tryz.func165.trans (congrArg some (by kernel_rfl))
  t0 := Tryz.underlying0
  a0 := Tryz.isAgg0
  z0 := Tryz.sizeOf0
  v0 := Tryz.zeroValue0
  t3 := Tryz.underlying3
  a3 := Tryz.isAgg3
  z3 := Tryz.sizeOf3
  v3 := Tryz.zeroValue3
  t4 := Tryz.underlying4
  a4 := Tryz.isAgg4
  z4 := Tryz.sizeOf4
  v4 := Tryz.zeroValue4
  t5 := Tryz.underlying5
  a5 := Tryz.isAgg5
  z5 := Tryz.sizeOf5
  v5 := Tryz.zeroValue5
  t9 := Tryz.underlying9
  a9 := Tryz.isAgg9
  z9 := Tryz.sizeOf9
  v9 := Tryz.zeroValue9
  t21 := Tryz.underlying21
  a21 := Tryz.isAgg21
  z21 := Tryz.sizeOf21
  v21 := Tryz.zeroValue21
  t31 := Tryz.underlying88
  a31 := Tryz.isAgg88
  z31 := Tryz.sizeOf88
  v31 := Tryz.zeroValue88
  t46 := Tryz.underlying85
  a46 := Tryz.isAgg85
  z46 := Tryz.sizeOf85
  v46 := Tryz.zeroValue85
  t51 := Tryz.underlying22
  a51 := Tryz.isAgg22
  z51 := Tryz.sizeOf22
  v51 := Tryz.zeroValue22
  t105 := Tryz.underlying252
  a105 := Tryz.isAgg252
  z105 := Tryz.sizeOf252
  v105 := Tryz.zeroValue252
  t119 := Tryz.underlying269
  a119 := Tryz.isAgg269
  z119 := Tryz.sizeOf269
  t138 := Tryz.underlying271
  a138 := Tryz.isAgg271
  z138 := Tryz.sizeOf271
  v138 := Tryz.zeroValue271
  t139 := Tryz.underlying272
  a139 := Tryz.isAgg272
  z139 := Tryz.sizeOf272
  v139 := Tryz.zeroValue272
  t146 := Tryz.underlying273
  a146 := Tryz.isAgg273
  z146 := Tryz.sizeOf273
  v146 := Tryz.zeroValue273
  g1 := by kernel_rfl
  g3 := by kernel_rfl
  g4 := by kernel_rfl }
open Go.RowKit Go.Lib in
theorem Tryz.strings_Split (s sep : ByteArray) (m : Int) (w : World) (hs : s.size < 4294967281) (hm : w.cell? ⟨7, 0, none⟩ = some (.int .i64 m)) (h1 : 1 ≤ sep.size) :
    Calls Tryz.prog 58 #[.string s, .string sep] w fun e w' =>
      e = .returned (.slice (some ⟨w.heap.size, 0, none⟩) (Lib.countB s sep + 1) (Lib.countB s sep + 1)) ∧ w' = w.alloc (.cells ((Lib.splitB sep 0 (Lib.countB s sep) s).map Value.string).toArray 9) := Any.strings_Split Tryz.lays146 (by kernel_rfl) s sep m w hs hm h1
end Go.Proofs
