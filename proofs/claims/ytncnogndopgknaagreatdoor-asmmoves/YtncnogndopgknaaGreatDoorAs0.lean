/- Texts into words, as plain lists. -/
import Derived.Test.YtncnogndopgknaaGreatDoorMat5
import Derived.Test.YtncnogndopgknaaGreatDoorNm
import Derived.Test.YtncnogndopgknaaGreatDoorWrd0
import Derived.Test.YtncnogndopgknaaGreatDoorNum
import Derived.Test.YtncnogndopgknaaGreatDoorNam
import Derived.Test.YtncnogndopgknaaGreatDoorLin0
namespace Go.Proofs.YtncnogndopgknaaGreatDoor
namespace S
structure Opn where
  val : Nat
  lab : List UInt8
  col : Nat
deriving DecidableEq
structure Kd where
  name : List UInt8
  shape : List UInt8
  least : Nat
  op : Nat
deriving DecidableEq
structure Lt where
  k : Kd
  ops : List Opn
  at' : Nat
  place : Nat
  line : Nat
structure St where
  ws : List Nat
  labs : List (List UInt8 × Nat)
  lat : List Lt
def find1 (f : Nat → List UInt8) (lo : Nat) : Nat → List UInt8 → Option Nat
  | 0, _ => none
  | n + 1, s => match find1 f lo n s with
    | some k => some k
    | none => if lo ≤ n ∧ f n = s then some n else none
def opOf (s : List UInt8) : Option Nat := find1 (fun n => nameT.getD n []) 1 25 s
def condOf (s : List UInt8) : Option Nat := find1 (fun n => condT.getD n []) 0 7 s
def wordN : List UInt8 := [119, 111, 114, 100]
def liN : List UInt8 := [108, 105]
def zeroN : List UInt8 := [122, 101, 114, 111]
def kindOf (s : List UInt8) : Option Kd :=
  if s = wordN then some ⟨s, [120], 1, 0⟩ else if s = liN then some ⟨s, [97, 120], 2, 0⟩ else if s = zeroN then some ⟨s, [110], 0, 0⟩
  else (opOf s).map fun n => ⟨s, shapeT.getD n [], 1, n⟩
def upTo (s : List UInt8) (most : Nat) : Option Nat := match T.number s with | some n => if n ≤ most then some n else none | none => none
def u32 (v : Int) : Nat := (v % 4294967296).toNat
def between (s : List UInt8) (least most : Int) : Option Nat := match T.signed s with | some v => if least ≤ v ∧ v ≤ most then some (u32 v) else none | none => none
def register (s : List UInt8) : Option Nat := if [114].isPrefixOf s then between (s.drop 1) 0 14 else none
def readNumber (l : Nat) (s : List UInt8) : Option Nat :=
  if l = 97 ∨ l = 98 ∨ l = 99 then register s else if l = 107 then condOf s else if l = 117 then upTo s 65535 else if l = 115 ∨ l = 111 then between s (-32768) 32767
  else if l = 110 then upTo s 2048 else match upTo s 4294967295 with | some n => some n | none => between s (-2147483648) 2147483647
def readOperand (l : Nat) (w : T.Wd) : Option Opn :=
  if w.quoted then none else if (l = 111 ∨ l = 120) ∧ T.name w.text = true then some ⟨0, w.text, w.col⟩ else (readNumber l w.text).map fun v => ⟨v, [], 0⟩
/-- A fault's number and column, or what was read. -/
def rdOps (nc : Nat) : List Nat → List T.Wd → (Int × Nat) ⊕ List Opn
  | [], [] => .inr []
  | [], w :: _ => .inl (62, w.col)
  | _ :: _, [] => .inl (62, nc)
  | l :: ls, w :: ws => match readOperand l w with
    | none => .inl (61, w.col)
    | some o => match rdOps nc ls ws with
      | .inl f => .inl f
      | .inr os => .inr (o :: os)
def i32 (v : Nat) : Int := if v < 2147483648 then v else (v : Int) - 4294967296
def half (op r n : Nat) : Nat := (enc ⟨op, 0, r, 0, 0, i32 n⟩).toNat
def putL (i : Ins) (l v : Nat) : Ins := if l = 97 then { i with a := v } else if l = 98 then { i with b := v } else if l = 99 then { i with c := v } else if l = 107 then { i with cond := v } else { i with imm := i32 v }
def insOf (k : Kd) (os : List Opn) : Ins := ((k.shape.map (·.toNat)).zip os).foldl (fun i x => putL i x.1 x.2.val) ⟨k.op, 0, 0, 0, 0, 0⟩
def words (k : Kd) (os : List Opn) : List Nat :=
  if k.name = wordN then [(os.getD 0 ⟨0, [], 0⟩).val] else if k.name = liN then
    [half 1 (os.getD 0 ⟨0, [], 0⟩).val ((os.getD 1 ⟨0, [], 0⟩).val % 65536), half 2 (os.getD 0 ⟨0, [], 0⟩).val ((os.getD 1 ⟨0, [], 0⟩).val / 65536)]
  else if k.name = zeroN then List.replicate (os.getD 0 ⟨0, [], 0⟩).val 0 else [(enc (insOf k os)).toNat]
def lats (k : Kd) (os : List Opn) (place line : Nat) : List Lt := ((List.range os.length).filter fun i => decide ((os.getD i ⟨0, [], 0⟩).lab ≠ [])).map fun i => ⟨k, os, i, place, line⟩
def stmt (line : Nat) (st : St) (name : T.Wd) (rest : List T.Wd) : (Int × Nat) ⊕ St :=
  match kindOf name.text with
  | none => .inl (60, name.col)
  | some k =>
    if name.quoted then .inl (60, name.col)
    else if 2048 < st.ws.length + k.least then .inl (66, name.col)
    else match rdOps name.col (k.shape.map (·.toNat)) rest with
      | .inl f => .inl f
      | .inr os => if 2048 < st.ws.length + (words k os).length then .inl (66, name.col)
        else .inr ⟨st.ws ++ words k os, st.labs, st.lat ++ lats k os st.ws.length line⟩
def isDef (w : T.Wd) : Bool := !w.quoted && Lib.hasSuffix w.text [58]
def has (labs : List (List UInt8 × Nat)) (n : List UInt8) : Bool := labs.any fun x => x.1 == n
def lay (line : Nat) (st : St) : List T.Wd → (Int × Nat) ⊕ St
  | [] => .inr st
  | w :: ws => if isDef w then
      (if T.name (Lib.trimSuffix w.text [58]) = true then
        (if has st.labs (Lib.trimSuffix w.text [58]) then .inl (63, w.col) else lay line { st with labs := st.labs ++ [(Lib.trimSuffix w.text [58], st.ws.length)] } ws)
      else .inl (60, w.col))
    else stmt line st w ws
/-- A fault: number, line, column. -/
def lines (st : St) (n : Nat) : List (List UInt8) → (Int × Nat × Nat) ⊕ St
  | [] => .inr st
  | l :: ls => match T.rd l 0 with
    | .inl x => .inl (40, n + 1, x + 1)
    | .inr ws => match lay (n + 1) st ws with
      | .inl f => .inl (f.1, n + 1, f.2)
      | .inr st' => lines st' (n + 1) ls
def look (labs : List (List UInt8 × Nat)) (n : List UInt8) : Option Nat := (labs.find? fun x => x.1 == n).map (·.2)
def meaning (base : Nat) (l target place : Nat) : Option Nat :=
  if l = 111 then (if (target : Int) - place - 1 < -32768 ∨ 32767 < (target : Int) - place - 1 then none else some (u32 ((target : Int) - place - 1))) else some ((base + 4 * target) % 4294967296)
def over (ws : List Nat) (p : Nat) (xs : List Nat) : List Nat := ws.take p ++ xs.take (ws.length - p) ++ ws.drop (p + xs.length)
def fin (base : Nat) (labs : List (List UInt8 × Nat)) : List Nat → List Lt → (Int × Nat × Nat) ⊕ List Nat
  | ws, [] => .inr ws
  | ws, t :: ts => match look labs (t.ops.getD t.at' ⟨0, [], 0⟩).lab with
    | none => .inl (64, t.line, (t.ops.getD t.at' ⟨0, [], 0⟩).col)
    | some g => match meaning base ((t.k.shape.map (·.toNat)).getD t.at' 0) g t.place with
      | none => .inl (65, t.line, (t.ops.getD t.at' ⟨0, [], 0⟩).col)
      | some v => fin base labs (over ws t.place (words t.k (t.ops.set t.at' { t.ops.getD t.at' ⟨0, [], 0⟩ with val := v }))) ts
def read (s : List UInt8) : (Int × Nat × Nat) ⊕ St := if 65536 < s.length then .inl (2, 0, 0) else lines ⟨[], [], []⟩ 0 (T.lines s)
def asm (s : List UInt8) (base : Nat) : (Int × Nat × Nat) ⊕ (List Nat × List (List UInt8 × Nat)) :=
  match read s with
  | .inl f => .inl f
  | .inr st => match fin base st.labs st.ws st.lat with
    | .inl f => .inl f
    | .inr ws => .inr (ws, st.labs)
end S
end Go.Proofs.YtncnogndopgknaaGreatDoor
