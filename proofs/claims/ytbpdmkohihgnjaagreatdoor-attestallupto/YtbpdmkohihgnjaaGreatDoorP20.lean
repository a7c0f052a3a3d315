import Derived.Test.YtbpdmkohihgnjaaGreatDoorP19
import Derived.Test.YtbpdmkohihgnjaaGreatDoorP04
import Derived.Test.YtbpdmkohihgnjaaGreatDoorP16
import Derived.Test.YtbpdmkohihgnjaaGreatDoorP07
import Derived.Test.YtbpdmkohihgnjaaGreatDoorP14
import Derived.Test.YtbpdmkohihgnjaaGreatDoorP17
namespace Go.Proofs.YtbpdmkohihgnjaaGreatDoor
open Go.RowKit
set_option maxHeartbeats 4000000
set_option maxRecDepth 100000
def hl (m : List Int) : List UInt8 := (hexB m).data.toList
theorem hl_length {m : List Int} (h : m.length = 8) : (hl m).length = 64 := by unfold hl; rw [lenD, hexB_size h]
theorem data_app (a b : ByteArray) : (a ++ b).data.toList = a.data.toList ++ b.data.toList := by
  rw [ByteArray.data_append, Array.toList_append]
theorem lineD (a b : ByteArray) : (lineB [a, b]).data.toList = a.data.toList ++ ([32] ++ (b.data.toList ++ [10])) := by
  unfold lineB
  rw [data_app, line2]
  simp
theorem bytes_ext {s t : ByteArray} (h : s.data.toList = t.data.toList) : s = t := by
  cases s; cases t; congr; exact Array.toList_inj.1 h
end Go.Proofs.YtbpdmkohihgnjaaGreatDoor
namespace Go.Proofs.YtbpdmkohihgnjaaGreatDoor
def vL (a : Bool) : List UInt8 := if a then [97, 108, 108, 111, 119] else [100, 101, 110, 121]
def oL : List UInt8 := [111, 116, 104, 101, 114]
def ruleL (r : Rl) : List UInt8 := vL r.al ++ 32 :: (r.nm.data.toList ++ 32 :: hl r.ms)
def othL (o : Bool) : List UInt8 := oL ++ 32 :: vL o
def linesP (R : List Rl) (o : Bool) : List (List UInt8) := R.map ruleL ++ [othL o]
def textL (ls : List (List UInt8)) : List UInt8 := (ls.map (· ++ [10])).flatten
structure Rdr where
  rules : List Rl
  other : Bool
  ended : Bool
def alw (w : List UInt8) : Option Bool := if w = vL true then some true else if w = vL false then some false else none
def rdRule (st : Rdr) (a b c : List UInt8) : Option Rdr :=
  match alw a with
  | none => none
  | some v => if L.T.name b = true ∧ ok8 ⟨c.toArray⟩ ∧ st.rules.length ≠ 256 then some ⟨st.rules ++ [⟨v, ⟨b.toArray⟩, w8 ⟨c.toArray⟩⟩], st.other, st.ended⟩ else none
def rdOther (st : Rdr) (a b : List UInt8) : Option Rdr :=
  match alw b with
  | none => none
  | some v => if a = oL then some ⟨st.rules, v, true⟩ else none
def rdWords (st : Rdr) : List L.T.Wd → Option Rdr
  | [] => some st
  | ws => if st.ended || ws.any (·.quoted) then none else
    match ws with
    | [a, b] => rdOther st a.text b.text
    | [a, b, c] => rdRule st a.text b.text c.text
    | _ => none
def stepP (st : Rdr) (l : List UInt8) : Option Rdr :=
  match L.T.rd l 0 with
  | .inl _ => none
  | .inr ws => rdWords st ws
def foldP : Rdr → List (List UInt8) → Nat → Rdr ⊕ Nat
  | st, [], _ => .inl st
  | st, l :: ls, k => match stepP st l with
    | none => .inr (k + 1)
    | some s2 => foldP s2 ls (k + 1)
/-! ### lines -/
theorem textL_app (a b : List (List UInt8)) : textL (a ++ b) = textL a ++ textL b := by simp [textL]
theorem textL_one (a : List UInt8) : textL [a] = a ++ [10] := by simp [textL]
/-! ### words -/
structure Wrd (w : List UInt8) : Prop where
  ne : ∃ c t, w = c :: t ∧ c.toNat ≠ 35 ∧ c.toNat ≠ 34
  gp : ∀ c ∈ w, L.T.isGap c = false
def Rem (t : List UInt8) : Prop := t = [] ∨ ∃ r, t = 32 :: 35 :: r
theorem Rem.rd {t : List UInt8} (h : Rem t) (p : Nat) : L.T.rd t p = .inr [] := by
  rcases h with rfl | ⟨r, rfl⟩
  · exact L.T.rd_nil p
  · rw [L.T.rd_gap _ p (by decide), L.T.rd_hash _ _ (by decide) (by decide)]
theorem name_all {l : List UInt8} (h : L.T.name l = true) : 1 ≤ l.length ∧ l.length ≤ 24 ∧ ∀ c ∈ l, L.T.okc c = true := by
  simp only [L.T.name, Bool.and_eq_true, decide_eq_true_eq] at h
  exact ⟨h.1.1.1, h.1.1.2, fun c hc => List.all_eq_true.1 h.2 c hc⟩
end Go.Proofs.YtbpdmkohihgnjaaGreatDoor
namespace Go.Proofs.YtbpdmkohihgnjaaGreatDoor
/-! ### what may stand in a line -/
structure Rl.Good (r : Rl) : Prop where
  ml : r.ms.length = 8
  mw : Wds r.ms
  nm : L.T.name r.nm.data.toList = true
def cmt : List UInt8 := [32, 35, 32, 111, 116, 104, 101, 114, 32, 97, 108, 108, 111, 119]
def insB (x : Int) : List UInt8 := if x = 0 then cmt else if x = 1 then [10, 9, 10] else []
def nsOne (x : Int) (l : List UInt8) : List (List UInt8) := if x = 0 then [l ++ cmt] else if x = 1 then [l, [9], []] else [l]
def nsl (sel : Nat → Int) : Nat → List (List UInt8) → List (List UInt8)
  | _, [] => []
  | k, l :: ls => nsOne (sel (k + 1)) l ++ nsl sel (k + 1) ls
def nzO (sel : Nat → Int) : Nat → List UInt8 → List UInt8
  | _, [] => []
  | k, c :: t => if c = 10 then insB (sel (k + 1)) ++ 10 :: nzO sel (k + 1) t else c :: nzO sel k t
def z0 : Rdr := ⟨[], false, false⟩
theorem rule_len {r : Rl} (h : r.Good) : (ruleL r).length ≤ 95 := by
  have h1 := hl_length h.ml
  have h2 := (name_all h.nm).2.1
  have h3 : (vL r.al).length ≤ 5 := by cases r.al <;> decide
  unfold ruleL
  simp only [List.length_append, List.length_cons]
  omega
theorem text_len {R : List Rl} (h : ∀ r ∈ R, r.Good) (o : Bool) : (textL (linesP R o)).length ≤ 96 * R.length + 12 := by
  induction R with
  | nil => cases o <;> decide
  | cons r R ih =>
    have e : linesP (r :: R) o = ruleL r :: linesP R o := rfl
    have e2 : textL (ruleL r :: linesP R o) = ruleL r ++ 10 :: textL (linesP R o) := by simp [textL]
    have h1 := rule_len (h r List.mem_cons_self)
    have h2 := ih fun x hx => h x (List.mem_cons_of_mem _ hx)
    rw [e, e2]
    simp only [List.length_append, List.length_cons]
    omega
end Go.Proofs.YtbpdmkohihgnjaaGreatDoor
namespace Go.Proofs.YtbpdmkohihgnjaaGreatDoor
open Go.RowKit
set_option maxHeartbeats 4000000
set_option maxRecDepth 100000
theorem toList_lit {t : ByteArray} {l : List UInt8} (h : t ≠ ⟨l.toArray⟩) : (t.toList == l) = false := by
  have := toList_ne h
  rw [ByteArray.toList_eq ⟨l.toArray⟩] at this
  exact this
def isA (s : ByteArray) : Bool := (alw s.data.toList).getD false
def okA (s : ByteArray) : Bool := (alw s.data.toList).isSome
def vB (a : Bool) : ByteArray := ⟨(vL a).toArray⟩
theorem allows_any (W : World) (s : ByteArray) : Calls Tryz.prog 73 #[.string s] W fun e W' => e = .returned (.tuple #[.bool (isA s), .bool (okA s)]) ∧ W' = W := by
  by_cases h1 : s = ⟨#[97, 108, 108, 111, 119]⟩
  · have e1 : isA s = true := by rw [h1]; decide
    have e2 : okA s = true := by rw [h1]; decide
    rw [e1, e2]
    subst h1
    go_enter Tryz.func73, Tryz.ntmps73
    go_wp2_with fail
    go_returns
    exact ⟨rfl, rfl⟩
  · by_cases h2 : s = ⟨#[100, 101, 110, 121]⟩
    · have e1 : isA s = false := by rw [h2]; decide
      have e2 : okA s = true := by rw [h2]; decide
      rw [e1, e2]
      subst h2
      go_enter Tryz.func73, Tryz.ntmps73
      go_wp2_with fail
      go_returns
      exact ⟨rfl, rfl⟩
    · have a0 : alw s.data.toList = none := by
        unfold alw
        rw [if_neg (fun h => h1 (bytes_ext (t := ⟨(vL true).toArray⟩) h)), if_neg (fun h => h2 (bytes_ext (t := ⟨(vL false).toArray⟩) h))]
      have e1 : isA s = false := by unfold isA; rw [a0]; rfl
      have e2 : okA s = false := by unfold okA; rw [a0]; rfl
      rw [e1, e2]
      have n1 := toList_lit (l := [97, 108, 108, 111, 119]) h1
      have n2 := toList_lit (l := [100, 101, 110, 121]) h2
      go_enter Tryz.func73, Tryz.ntmps73
      go_wp2_with fail
      go_returns
      exact ⟨rfl, rfl⟩
theorem verdict_any (W : World) (a : Bool) : Calls Tryz.prog 59 #[.bool a] W fun e W' => e = .returned (.string (vB a)) ∧ W' = W := by
  cases a
  · go_enter Tryz.func59, Tryz.ntmps59
    go_wp2_with fail
    go_ret
    exact ⟨rfl, rfl⟩
  · go_enter Tryz.func59, Tryz.ntmps59
    go_wp2_with fail
    go_ret
    exact ⟨rfl, rfl⟩
end Go.Proofs.YtbpdmkohihgnjaaGreatDoor
namespace Go.Proofs.YtbpdmkohihgnjaaGreatDoor.L
open Go.RowKit

theorem own_mono {w : World} {B B' n : Nat} {e : TypeId} {z : Nat} {v : Value} {xs : List Value} (h : w.ownsRow B e z v n xs) (hB : B' ≤ B) : w.ownsRow B' e z v n xs :=
  ⟨h.1, h.2.imp id fun ⟨g, cap, cur, hv, hb, r⟩ => ⟨g, cap, cur, hv, Nat.le_trans hB hb, r⟩⟩
theorem own_set {w : World} {B n : Nat} {e : TypeId} {z : Nat} {v : Value} {xs : List Value} (h : w.ownsRow B e z v n xs) (a : Addr) (ha : a.block < B) (u : Value) : (w.setCell a u).ownsRow B e z v n xs :=
  ⟨h.1, h.2.imp id fun ⟨g, cap, cur, hv, hb, hg, r⟩ => ⟨g, cap, cur, hv, hb, by rw [Below.heap_setCell _ _ _ _ (by omega)]; exact hg, r⟩⟩
theorem own_below {w w' : World} {B n : Nat} {e : TypeId} {z : Nat} {v : Value} {xs : List Value} (h : w.ownsRow B e z v n xs) (hb : Below w.heap.size w w') : w'.ownsRow B e z v n xs :=
  ⟨h.1, h.2.imp id fun ⟨g, cap, cur, hv, hB, hg, r⟩ => ⟨g, cap, cur, hv, hB, by rw [hb.block g (Array.getElem?_eq_some_iff.1 hg).1]; exact hg, r⟩⟩
theorem own_form {w : World} {B n : Nat} {e : TypeId} {z : Nat} {v : Value} {xs : List Value} (h : w.ownsRow B e z v n xs) : ∃ ao c, v = .slice ao n c := by
  rcases h.2 with ⟨rfl, rfl⟩ | ⟨g, cap, cur, rfl, _⟩
  · exact ⟨none, 0, rfl⟩
  · exact ⟨_, _, rfl⟩
theorem HB.on {W wr w : World} {v : Value} {l : List UInt8} (h : HB W wr v l) (hb : Below wr.heap.size wr w) : HB W w v l := ⟨own_below h.own hb, h.below.trans (hb.mono h.below.size)⟩

theorem hmf (fn : Fn) (first cap : Array Value) (w : World) : (Instr.makeFunc fn first cap).run Tryz.prog w = .ok (.func fn first cap) w := rfl

def UqPost (W : World) (r : Option (List UInt8)) (e : Ending) (W' : World) : Prop :=
  match r with
  | none => e = .returned (.tuple #[.slice none 0 0, .int .i64 40]) ∧ Below W.heap.size W W'
  | some b => ∃ v, e = .returned (.tuple #[v, .int .i64 0]) ∧ HB W W' v b
theorem UqPost.bad {W W' : World} {r : Option (List UInt8)} (hr : r = none) (hb : Below W.heap.size W W') : UqPost W r (.returned (.tuple #[.slice none 0 0, .int .i64 40])) W' := by
  subst hr; exact ⟨rfl, hb⟩
theorem UqPost.good {W W' : World} {r : Option (List UInt8)} {b : List UInt8} {v : Value} (hr : r = some b) (hb : HB W W' v b) : UqPost W r (.returned (.tuple #[v, .int .i64 0])) W' := by
  subst hr; exact ⟨_, rfl, hb⟩
end Go.Proofs.YtbpdmkohihgnjaaGreatDoor.L
namespace Go.Proofs.YtbpdmkohihgnjaaGreatDoor
open Go.RowKit
set_option maxHeartbeats 4000000
set_option maxRecDepth 100000
def rcs (R : List Rl) : List Value := R.flatMap Rl.cs
theorem rcs_len {R : List Rl} (h : ∀ r ∈ R, r.ms.length = 8) : (rcs R).length = R.length * 10 := by
  induction R with
  | nil => rfl
  | cons r R ih =>
    have e : rcs (r :: R) = r.cs ++ rcs R := rfl
    rw [e, List.length_append, ih fun x hx => h x (List.mem_cons_of_mem _ hx), r.len (h r List.mem_cons_self), List.length_cons]
    omega
theorem rcs_snoc (R : List Rl) (r : Rl) : rcs (R ++ [r]) = rcs R ++ r.cs := by simp [rcs, List.flatMap_append]
theorem Cel.setC {w : World} {g : Nat} {t : TypeId} {cs : List Value} (h : Cel w g t cs) (j : Nat) (u : Value) : Cel (w.setCell ⟨g, j, none⟩ u) g t (cs.set j u) := by
  unfold Cel at h ⊢
  simp [World.setCell, Array.getElem?_modify, h]
theorem Cel.setO {w : World} {g k : Nat} {t : TypeId} {cs : List Value} (h : Cel w g t cs) (hk : g ≠ k) (j : Nat) (u : Value) : Cel (w.setCell ⟨k, j, none⟩ u) g t cs := (heap_setCell_other w ⟨k, j, none⟩ g u hk).trans h
theorem own_cel {w : World} {B n z : Nat} {e : TypeId} {v : Value} {xs : List Value} (h : w.ownsRow B e z v n xs) {k : Nat} (hk : v.ownBlock = some k) : B ≤ k ∧ ∃ cur, w.heap[k]? = some (.cells cur e (0, 0)) := by
  rcases h.2 with ⟨rfl, _⟩ | ⟨g, cap, cur, rfl, hB, hg, _⟩
  · simp [Value.ownBlock] at hk
  · simp only [Value.ownBlock, Option.some.injEq] at hk
    subst hk
    exact ⟨hB, cur, hg⟩
theorem own_ap {w : World} {B n z g : Nat} {e t : TypeId} {v : Value} {xs cs : List Value} (h : w.ownsRow B e z v n xs) (hc : Cel w g t cs) (ht : t ≠ e) : v.ownBlock ≠ some g := by
  intro hk
  obtain ⟨_, cur, hg⟩ := own_cel h hk
  unfold Cel at hc
  rw [hg] at hc
  simp only [Option.some.injEq, Obj.cells.injEq] at hc
  exact ht hc.2.1.symm
theorem own_setO {w : World} {B n z g : Nat} {e : TypeId} {v : Value} {xs : List Value} (h : w.ownsRow B e z v n xs) (hg : v.ownBlock ≠ some g) (j : Nat) (u : Value) : (w.setCell ⟨g, j, none⟩ u).ownsRow B e z v n xs :=
  ⟨h.1, h.2.imp id fun ⟨k, cap, cur, hv, hB, hk, r⟩ => ⟨k, cap, cur, hv, hB, (heap_setCell_other w ⟨g, j, none⟩ k u (fun e => hg (by rw [hv]; exact congrArg some e))).trans hk, r⟩⟩
structure RdS (W w : World) (g : Nat) (st : Rdr) (v : Value) : Prop where
  bl : Below W.heap.size W w
  hg : W.heap.size ≤ g
  cel : Cel w g 68 [v, .bool st.other, .bool st.ended]
  own : w.ownsRow W.heap.size 63 10 v st.rules.length (rcs st.rules)
  ml : ∀ r ∈ st.rules, r.ms.length = 8
  le : st.rules.length ≤ 256
theorem RdS.on {W w w' : World} {g : Nat} {st : Rdr} {v : Value} (h : RdS W w g st v) (hb : Below w.heap.size w w') : RdS W w' g st v := ⟨below_on h.bl hb, h.hg, h.cel.on hb, L.own_below h.own hb, h.ml, h.le⟩
theorem RdS.start (W : World) : RdS W (W.alloc (.cells #[.slice none 0 0, .bool false, .bool false] 68)) W.heap.size z0 (.slice none 0 0) :=
  ⟨below_one _ _, Nat.le_refl _, heap_alloc_new _ _, World.ownsRow_nil _ _ _ _, (fun r hr => by cases hr), by decide⟩
theorem RdS.form {W w : World} {g : Nat} {st : Rdr} {v : Value} (h : RdS W w g st v) : ∃ ao c, v = .slice ao st.rules.length c := L.own_form h.own
theorem Below.put {W w : World} {g : Nat} (h : Below W.heap.size W w) (hg : W.heap.size ≤ g) (j : Nat) (u : Value) : Below W.heap.size W (w.setCell ⟨g, j, none⟩ u) := h.trans ((but_setCell w g j u).below hg h.size)
theorem RdS.said {W w : World} {g : Nat} {st : Rdr} {v : Value} (h : RdS W w g st v) (a : Bool) : RdS W ((w.setCell ⟨g, 1, none⟩ (.bool a)).setCell ⟨g, 2, none⟩ (.bool true)) g ⟨st.rules, a, true⟩ v :=
  ⟨Below.put (Below.put h.bl h.hg _ _) h.hg _ _, h.hg, (h.cel.setC 1 (.bool a)).setC 2 (.bool true), own_setO (own_setO h.own (own_ap h.own h.cel (by decide)) _ _) (own_ap h.own h.cel (by decide)) _ _, h.ml, h.le⟩
theorem Tryz.info63 : (Tryz.prog.info? 63).map (fun i => (i.zero, i.size, i.bytes)) = some (some (.agg #[.bool false, .string ⟨#[]⟩, .int .u32 0, .int .u32 0, .int .u32 0, .int .u32 0, .int .u32 0, .int .u32 0, .int .u32 0, .int .u32 0]), 10, 56) := by kernel_rfl
theorem info_parts {o : Option TypeInfo} {z : Option Value} {s b : Nat} (h : o.map (fun i => (i.zero, i.size, i.bytes)) = some (z, s, b)) : ∃ i, o = some i ∧ i.zero = z ∧ i.size = s ∧ i.bytes = b := by
  obtain ⟨i, hi, he⟩ := Option.map_eq_some_iff.1 h
  simp only [Prod.mk.injEq] at he
  exact ⟨i, hi, he.1, he.2.1, he.2.2⟩
theorem wp_append_r {B : Nat} {w : World} {o : Oper} {a : Act} {K : Act → World → Prop} {Q : Exit → Act → World → Prop} (t : TypeId) (ht : Tryz.prog.underlying t = some (.slice 63)) (s x : Operand)
    (ho : o.op = .call { callee := .builtin .append, args := #[s, x], argTypes := #[t, t] }) (v : Value) (R : List Rl) (hs : a.eval s = v) (H : w.ownsRow B 63 10 v R.length (rcs R)) (hB : B ≤ w.heap.size) (gb c : Nat) (r : Rl) (hx : a.eval x = .slice (some ⟨gb, 0, none⟩) 1 c)
    (hc : Cel w gb 63 r.cs) (hm : r.ms.length = 8) (hlen : R.length ≤ 256)
    (h : ∀ v' w', w'.ownsRow B 63 10 v' (R ++ [r]).length (rcs (R ++ [r])) → w.grownBy w' v.ownBlock → K (a.put o.dst v') w') : o.wp Tryz.prog a w K Q := by
  obtain ⟨i, hi, hz, hsize, hby⟩ := info_parts Tryz.info63
  obtain ⟨v', w', hr, h1, h2, _⟩ := run_append_own (P := Tryz.prog) (w := w) B t o.type 63 i _ 10 56 ht hi hz hsize hby rfl (by decide) v R.length _ H ⟨gb, 0, none⟩ 1 c r.cs (by rw [r.len hm]) (fun j u hj => by
    have := hc.cell j
    rw [show (⟨gb, 0, none⟩ : Addr).add j = ⟨gb, j, none⟩ by unfold Addr.add; split <;> simp_all, this]; exact hj) (fun u hu => List.all_eq_true.1 r.one u hu) (by unfold maxLen; omega) (by omega) hB
  have hH : w'.ownsRow B 63 10 v' (R ++ [r]).length (rcs (R ++ [r])) := by
    rw [List.length_append, rcs_snoc]
    exact h1
  unfold Oper.wp execOp
  simp only [ho, resolve, invoke, builtin, Sem.run_bind, Sem.run_pure, Result.andThen_ok, List.map_toArray, List.map_cons, List.map_nil, hs, hx, hr]
  exact h _ _ hH h2
structure RdA (W w : World) (g : Nat) (st : Rdr) (v v' : Value) (r : Rl) : Prop where
  bl : Below W.heap.size W w
  hg : W.heap.size ≤ g
  cel : Cel w g 68 [v, .bool st.other, .bool st.ended]
  own : w.ownsRow W.heap.size 63 10 v' (st.rules ++ [r]).length (rcs (st.rules ++ [r]))
theorem RdS.app {W w w' : World} {g : Nat} {st : Rdr} {v v' : Value} {r : Rl} (h : RdS W w g st v) (ho : w'.ownsRow W.heap.size 63 10 v' (st.rules ++ [r]).length (rcs (st.rules ++ [r]))) (hgr : w.grownBy w' v.ownBlock) : RdA W w' g st v v' r := by
  have hap := own_ap h.own h.cel (by decide)
  refine ⟨⟨hgr.os.trans h.bl.os, hgr.tape.trans h.bl.tape, hgr.output.trans h.bl.output, Nat.le_trans h.bl.size hgr.size, fun k hk => ?_⟩, h.hg, (hgr.block g h.cel.lt (fun e => hap e.symm)).trans h.cel, ho⟩
  refine (hgr.block k (Nat.lt_of_lt_of_le hk h.bl.size) (fun e => ?_)).trans (h.bl.block k hk)
  have := (own_cel h.own e.symm).1
  omega
theorem RdA.put {W w : World} {g : Nat} {st : Rdr} {v v' : Value} {r : Rl} (h : RdA W w g st v v' r) (ml : ∀ x ∈ st.rules, x.ms.length = 8) (hm : r.ms.length = 8) (hl : st.rules.length < 256) : RdS W (w.setCell ⟨g, 0, none⟩ v') g ⟨st.rules ++ [r], st.other, st.ended⟩ v' := by
  refine ⟨Below.put h.bl h.hg _ _, h.hg, h.cel.setC 0 v', own_setO h.own (own_ap h.own h.cel (by decide)) _ _, fun x hx => ?_, ?_⟩
  · rcases List.mem_append.1 hx with hx | hx
    · exact ml x hx
    · rw [List.mem_singleton.1 hx]; exact hm
  · simp only [List.length_append, List.length_cons, List.length_nil]; omega
theorem cel_ne {w : World} {g k : Nat} {t u : TypeId} {cs ds : List Value} (h : Cel w g t cs) (h2 : Cel w k u ds) (ht : t ≠ u) : g ≠ k := by
  rintro rfl
  unfold Cel at h h2
  rw [h] at h2
  simp only [Option.some.injEq, Obj.cells.injEq] at h2
  exact ht h2.2.1
theorem grown_cel {w w' : World} {B n z g : Nat} {e t : TypeId} {v : Value} {xs cs : List Value} (h : w.ownsRow B e z v n xs) (hgr : w.grownBy w' v.ownBlock) (hc : Cel w g t cs) (ht : t ≠ e) : Cel w' g t cs := (hgr.block g hc.lt (fun e => own_ap h hc ht e.symm)).trans hc
def RdP (W w : World) (g : Nat) (E : Nat → Addr) (e : Ending) (r : Option Rdr) : Prop :=
  match r with
  | none => e = .returned (.iface 245 (.pointer (some (E 6)))) ∧ Below W.heap.size W w
  | some st => e = .returned .nilIface ∧ ∃ v, RdS W w g st v
theorem RdP.err {W w : World} {g : Nat} {E : Nat → Addr} (h : Below W.heap.size W w) : RdP W w g E (.returned (.iface 245 (.pointer (some (E 6))))) none := ⟨rfl, h⟩
theorem RdP.ok {W w : World} {g : Nat} {E : Nat → Addr} {st : Rdr} {v : Value} (h : RdS W w g st v) : RdP W w g E (.returned .nilIface) (some st) := ⟨rfl, v, h⟩
end Go.Proofs.YtbpdmkohihgnjaaGreatDoor
namespace Go.Proofs.YtbpdmkohihgnjaaGreatDoor
open Go.RowKit
def othB : ByteArray := ⟨oL.toArray⟩
theorem line3D (a b c : ByteArray) : (lineB [a, b, c]).data.toList = a.data.toList ++ 32 :: (b.data.toList ++ 32 :: (c.data.toList ++ [10])) := by
  unfold lineB
  rw [data_app]
  simp [Lib.join, List.intercalate]
theorem rule_line (r : Rl) : (lineB [vB r.al, r.nm, hexB r.ms]).data.toList = ruleL r ++ [10] := by
  rw [line3D]
  unfold ruleL hl
  simp [vB]
theorem oth_line (o : Bool) : (lineB [othB, vB o]).data.toList = othL o ++ [10] := by
  rw [lineD]
  unfold othL
  simp [vB, othB]
theorem vB_size (a : Bool) : (vB a).size ≤ 5 := by cases a <;> decide
def accL (R : List Rl) : List UInt8 := textL (R.map ruleL)
theorem accL_snoc (R : List Rl) (k : Nat) (h : k < R.length) : accL (R.take k) ++ (ruleL R[k] ++ [10]) = accL (R.take (k + 1)) := by
  unfold accL
  rw [List.take_succ_eq_append_getElem h, List.map_append, textL_app]
  simp [textL]
theorem accL_all (R : List Rl) (o : Bool) : accL R ++ (othL o ++ [10]) = textL (linesP R o) := by
  unfold accL linesP
  rw [textL_app, textL_one]
theorem accL_len {R : List Rl} (h : ∀ r ∈ R, r.Good) : (accL R).length ≤ 96 * R.length := by
  induction R with
  | nil => exact Nat.zero_le _
  | cons r R ih =>
    have e : accL (r :: R) = ruleL r ++ 10 :: accL R := by simp [accL, textL]
    have h1 := rule_len (h r List.mem_cons_self)
    have h2 := ih fun x hx => h x (List.mem_cons_of_mem _ hx)
    rw [e]
    simp only [List.length_append, List.length_cons]
    omega
def okP (R : List Rl) : Bool := decide (R.length ≤ 256) && R.all fun r => L.T.name r.nm.data.toList
theorem okP_good {R : List Rl} (ok : ∀ r ∈ R, r.Ok) (h : okP R = true) : R.length ≤ 256 ∧ ∀ r ∈ R, r.Good := by
  unfold okP at h
  rw [Bool.and_eq_true, decide_eq_true_eq, List.all_eq_true] at h
  exact ⟨h.1, fun r hr => ⟨(ok r hr).ml, (ok r hr).mw, h.2 r hr⟩⟩
theorem okP_long {R : List Rl} (h : 256 < R.length) : okP R = false := by
  unfold okP
  rw [decide_eq_false (by omega)]
  rfl
theorem okP_name {R : List Rl} {r : Rl} (hr : r ∈ R) (h : L.T.name r.nm.data.toList = false) : okP R = false := by
  unfold okP
  rw [Bool.and_eq_false_iff]
  right
  rw [List.all_eq_false]
  exact ⟨r, hr, by simp [h]⟩
theorem okP_all {R : List Rl} (h1 : R.length ≤ 256) (h : ∀ r ∈ R, L.T.name r.nm.data.toList = true) : okP R = true := by
  unfold okP
  rw [Bool.and_eq_true, decide_eq_true_eq, List.all_eq_true]
  exact ⟨h1, h⟩
end Go.Proofs.YtbpdmkohihgnjaaGreatDoor
namespace Go.Proofs.YtbpdmkohihgnjaaGreatDoor
open Go.RowKit
set_option maxHeartbeats 4000000
set_option maxRecDepth 100000
theorem rdOther_eq (st : Rdr) (a b : ByteArray) : rdOther st a.data.toList b.data.toList = if a = othB ∧ okA b = true then some ⟨st.rules, isA b, true⟩ else none := by
  unfold rdOther okA isA
  have h : (a.data.toList = oL) = (a = othB) := propext ⟨fun h => bytes_ext h, fun h => by rw [h]; rfl⟩
  cases alw b.data.toList with
  | none => simp
  | some v => simp [h]
theorem readOther_any (W w : World) (E : Nat → Addr) (g : Nat) (st : Rdr) (v : Value) (hE : ErrS w E) (H : RdS W w g st v) (a b : ByteArray) :
    Calls Tryz.prog 45 #[.pointer (some ⟨g, 0, none⟩), .string a, .string b] w fun e w' => RdP W w' g E e (rdOther st a.data.toList b.data.toList) := by
  rw [rdOther_eq]
  have c6 := hE.k6
  have HA := hid (fun w => allows_any w b)
  have HS := hid H
  by_cases ha : a = othB
  · cases hok : okA b with
    | false =>
      rw [if_neg (by rintro ⟨_, h⟩; cases h)]
      rw [hok] at HA
      subst ha
      unfold othB oL
      clear H hE hok
      go_enter Tryz.func45, Tryz.ntmps45
      go_wp2_with (first | (go_at_call 73; refine (HA.out _).mono ?_; rintro e w1 ⟨rfl, hw1⟩; subst w1))
      go_ret
      exact RdP.err HS.out.bl
    | true =>
      rw [if_pos ⟨ha, rfl⟩]
      rw [hok] at HA
      subst ha
      unfold othB oL
      have c1 : w.cell? ⟨g, 1, none⟩ = some (.bool st.other) := H.cel.cell 1
      have f1 := H.cel.free 1
      have c2 : (w.setCell ⟨g, 1, none⟩ (.bool (isA b))).cell? ⟨g, 2, none⟩ = some (.bool st.ended) := (H.cel.setC 1 (.bool (isA b))).cell 2
      have f2 := (H.cel.setC 1 (.bool (isA b))).free 2
      clear H hE hok
      generalize isA b = al at *
      go_enter Tryz.func45, Tryz.ntmps45
      go_wp2_with (first | (go_at_call 73; refine (HA.out _).mono ?_; rintro e w1 ⟨rfl, hw1⟩; subst w1))
      go_ret
      exact RdP.ok (HS.out.said al)
  · rw [if_neg (fun h => ha h.1)]
    have n1 := toList_lit (l := [111, 116, 104, 101, 114]) ha
    clear H hE ha
    generalize okA b = oa at *
    go_enter Tryz.func45, Tryz.ntmps45
    go_wp2_with (first | (go_at_call 73; refine (HA.out _).mono ?_; rintro e w1 ⟨rfl, hw1⟩; subst w1))
    go_ret
    exact RdP.err HS.out.bl
end Go.Proofs.YtbpdmkohihgnjaaGreatDoor
