/- What Line and Print write, as plain lists. -/
import Derived.Test.YtncnogndopgknaaDoorOne
import Derived.Test.YtncnogndopgknaaDoorNm
import Derived.Test.YtncnogndopgknaaDoorMat5
import Derived.Test.YtncnogndopgknaaDoorRf8
import Derived.Test.YtncnogndopgknaaDoorRf9
namespace Go.Proofs.YtncnogndopgknaaDoor
open Go.RowKit
theorem bap (a b : List UInt8) : (⟨a.toArray⟩ : ByteArray) ++ ⟨b.toArray⟩ = ⟨(a ++ b).toArray⟩ := by
  apply ByteArray.ext
  rw [ByteArray.data_append]
  simp
theorem ret_str {a b : List UInt8} (h : a = b) : Ending.returned (.string ⟨a.toArray⟩) = .returned (.string ⟨b.toArray⟩) := by rw [h]
theorem sz (l : List UInt8) : (⟨l.toArray⟩ : ByteArray).size = l.length := by simp [ByteArray.size]
theorem toListB (l : List UInt8) : (⟨l.toArray⟩ : ByteArray).toList = l := by rw [ByteArray.toList_eq]
/-- An instruction whose fields are in their limits. -/
structure Ok6 (i : Ins) : Prop where
  op : 1 ≤ i.op ∧ i.op < 25
  a : 0 ≤ i.a ∧ i.a ≤ 14
  b : 0 ≤ i.b ∧ i.b ≤ 14
  c : 0 ≤ i.c ∧ i.c ≤ 14
  cond : 0 ≤ i.cond ∧ i.cond ≤ 6
  imm : -32768 ≤ i.imm ∧ i.imm ≤ 65535
theorem ok6 {w : Int} (h : decE w = 0) : Ok6 (dec w) := by
  obtain ⟨n, hn, h1, h2, h3, h4⟩ := chk_zero (dec_yes h).2
  have := good_bounds h3 h4
  exact ⟨by omega, by omega, by omega, by omega, by omega, by omega⟩
namespace A
def opnd (i : Ins) (l : Nat) (lab : List UInt8) : List UInt8 :=
  if l = 97 then 114 :: Lib.decDigits i.a.toNat else if l = 98 then 114 :: Lib.decDigits i.b.toNat else if l = 99 then 114 :: Lib.decDigits i.c.toNat
  else if l = 107 then (cndI i.cond).data.toList else if l = 111 ∧ lab ≠ [] then lab else Lib.itoa i.imm
def opnds (i : Ins) (L : List Nat) (lab : List UInt8) : List UInt8 := L.flatMap fun l => 32 :: opnd i l lab
def lineOf (i : Ins) (lab : List UInt8) : List UInt8 := (namI i.op).data.toList ++ opnds i (ltr (shpI i.op)) lab
/-- A word's line. -/
def lin (w : Int) (lab : List UInt8) : List UInt8 := if decE w = 0 then lineOf (dec w) lab else [119, 111, 114, 100, 32] ++ T.hexed8 w.toNat
theorem opnds_snoc (i : Ins) (L : List Nat) (l : Nat) (lab : List UInt8) : opnds i (L ++ [l]) lab = opnds i L lab ++ (32 :: opnd i l lab) := by simp [opnds]
theorem itoa_len (n : Int) (h0 : -2147483648 ≤ n) (h1 : n ≤ 2147483647) : (Lib.itoa n).length ≤ 11 := by
  unfold Lib.itoa
  split
  · have := dec_len n.natAbs (by omega)
    simp only [List.length_cons]
    omega
  · have := dec_len n.toNat (by omega)
    omega
theorem cnd_len (c : Int) : (cndI c).size ≤ 2 := by
  unfold cndI
  split
  · rename_i h
    have : ∀ n < 7, (cnd n).size ≤ 2 := by decide +kernel
    exact this c.toNat (by omega)
  · decide
theorem nam_len (c : Int) : (namI c).size ≤ 4 := by
  unfold namI
  split
  · rename_i h
    have : ∀ n < 25, (nam n).size ≤ 4 := by decide +kernel
    exact this c.toNat (by omega)
  · decide
theorem opnd_len (i : Ins) (h : Ok6 i) (l : Nat) (lab : List UInt8) (hl : lab.length ≤ 20) : (opnd i l lab).length ≤ 20 := by
  have h1 := dec_len i.a.toNat (by have := h.a; omega)
  have h2 := dec_len i.b.toNat (by have := h.b; omega)
  have h3 := dec_len i.c.toNat (by have := h.c; omega)
  have h4 : (cndI i.cond).data.toList.length ≤ 2 := cnd_len i.cond
  have h5 := itoa_len i.imm (by have := h.imm; omega) (by have := h.imm; omega)
  unfold opnd
  repeat' split
  all_goals (try simp only [List.length_cons]); omega
theorem opnds_len (i : Ins) (h : Ok6 i) (lab : List UInt8) (hl : lab.length ≤ 20) : ∀ (L : List Nat), (opnds i L lab).length ≤ 21 * L.length
  | [] => by simp [opnds]
  | l :: L => by
    have ih := opnds_len i h lab hl L
    have h1 := opnd_len i h l lab hl
    have e : opnds i (l :: L) lab = 32 :: opnd i l lab ++ opnds i L lab := by simp [opnds]
    rw [e]
    simp only [List.length_cons, List.length_append]
    omega
theorem hexed_len (w : Nat) : (T.hexed8 w).length = 10 := by simp [T.hexed8, T.hexT8_length]
theorem lin_len (w : Int) (lab : List UInt8) (hl : lab.length ≤ 20) : (lin w lab).length ≤ 80 := by
  unfold lin
  split
  · rename_i h
    have h0 := ok6 h
    have h1 := opnds_len (dec w) h0 lab hl (ltr (shpI (dec w).op))
    have h2 : (namI (dec w).op).data.toList.length ≤ 4 := nam_len _
    have h3 := (shpI_ok (dec w).op).1
    rw [ltr_len] at h1
    unfold lineOf
    rw [List.length_append]
    omega
  · rw [List.length_append, hexed_len]; decide
end A
end Go.Proofs.YtncnogndopgknaaDoor
