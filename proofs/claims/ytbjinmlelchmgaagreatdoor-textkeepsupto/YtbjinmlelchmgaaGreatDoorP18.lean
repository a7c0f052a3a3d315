import Derived.Test.YtbjinmlelchmgaaGreatDoorP16
import Derived.Test.YtbjinmlelchmgaaGreatDoorP17
import Derived.Test.YtbjinmlelchmgaaGreatDoorP13
import Derived.Test.YtbjinmlelchmgaaGreatDoorP06
import Derived.Test.YtbjinmlelchmgaaGreatDoorP01
namespace Go.Proofs.YtbjinmlelchmgaaGreatDoor
open Go.RowKit
end Go.Proofs.YtbjinmlelchmgaaGreatDoor
namespace Go.Proofs.YtbjinmlelchmgaaGreatDoor
open Go.RowKit
def okN (m : Nat) : Nat ⊕ List T.Wd → Prop
  | .inl _ => True
  | .inr ws => ws.length ≤ m
theorem okN_cons {m k : Nat} {w : T.Wd} {r : Nat ⊕ List T.Wd} (h : okN m r) (hk : m + 1 ≤ k) : okN k (T.cons w r) := by
  cases r with
  | inl x => trivial
  | inr ws => show (w :: ws).length ≤ k; have : ws.length ≤ m := h; simp; omega
theorem okN_mono {m k : Nat} {r : Nat ⊕ List T.Wd} (h : okN m r) (hk : m ≤ k) : okN k r := by
  cases r with
  | inl x => trivial
  | inr ws => exact Nat.le_trans h hk
theorem rd_len (l : List UInt8) (p : Nat) : okN l.length (T.rd l p) := by
  induction h : l.length using Nat.strongRecOn generalizing l p with
  | _ n ih =>
    subst h
    cases l with
    | nil => rw [T.rd_nil]; exact Nat.le_refl _
    | cons c t =>
      cases hg : T.isGap c with
      | true =>
        rw [T.rd_gap t p hg]
        exact okN_mono (ih t.length (by simp) t (p + 1) rfl) (by simp)
      | false =>
        by_cases h35 : c.toNat = 35
        · rw [T.rd_hash t p hg h35]; exact Nat.zero_le _
        · by_cases h34 : c.toNat = 34
          · cases hq : T.unq t with
            | inl x =>
              rw [T.rd_bad t p x hg h34 hq]
              trivial
            | inr y =>
              obtain ⟨b, m⟩ := y
              cases hp : T.parted (t.drop m) with
              | false =>
                rw [T.rd_joined t b p m hg h34 hq hp]
                trivial
              | true =>
                rw [T.rd_quoted t b p m hg h34 hq hp]
                exact okN_cons (ih (t.drop m).length (by simp; omega) (t.drop m) (p + 1 + m) rfl) (by simp)
          · rw [T.rd_plain t p hg h35 h34]
            have h1 := T.plainN_pos t hg
            have h2 := T.plainN_le (c :: t)
            exact okN_cons (ih ((c :: t).drop (T.plainN (c :: t))).length (by simp; omega) ((c :: t).drop (T.plainN (c :: t))) (p + T.plainN (c :: t)) rfl) (by rw [List.length_drop]; omega)
theorem wdsC_get : ∀ (ws : List T.Wd) (i r : Nat) (h : i < ws.length) (_ : r < 3), (wdsC ws)[i * 3 + r]? = (wdC ws[i])[r]?
  | w :: ws, 0, r, _, hr => by
    simp only [wdsC, List.map_cons, List.flatten_cons, Nat.zero_mul, Nat.zero_add, List.getElem_cons_zero]
    rw [List.getElem?_append_left (by simpa [wdC] using hr)]
  | w :: ws, i + 1, r, h, hr => by
    have ih := wdsC_get ws i r (by simpa using h) hr
    simp only [wdsC, List.map_cons, List.flatten_cons, List.getElem_cons_succ] at ih ⊢
    rw [List.getElem?_append_right (by simp [wdC]; omega), show (i + 1) * 3 + r - (wdC w).length = i * 3 + r from by simp [wdC]; omega]
    exact ih
theorem own_wds {w : World} {B : Nat} {e : TypeId} {v : Value} {ws : List T.Wd} (h : w.ownsRow B e 3 v ws.length (wdsC ws)) : ∃ ao cap, v = .slice ao ws.length cap ∧ WdsAt w ao ws := by
  rcases h.2 with ⟨hv, h0⟩ | ⟨g, cap, cur, h1, h2, h3, _⟩
  · exact ⟨none, 0, by rw [h0]; exact hv, .inl (List.eq_nil_of_length_eq_zero h0)⟩
  · subst h1
    refine ⟨_, cap, rfl, .inr ⟨g, 0, rfl, (Array.getElem?_eq_some_iff.1 h3).1, fun i hi => ?_⟩⟩
    have key : ∀ r (hr : r < 3) u, (wdC ws[i])[r]? = some u → w.cell? ⟨g, 0 + i * 3 + r, none⟩ = some u := by
      intro r hr u hu
      have := h.cells (g := g) rfl (i * 3 + r) u (by rw [wdsC_get ws i r hi hr]; exact hu)
      rw [Addr.add_mid] at this
      rw [Nat.add_assoc]
      exact this
    exact ⟨key 0 (by omega) _ rfl, key 1 (by omega) _ rfl, key 2 (by omega) _ rfl⟩
theorem WdsAt.on {W w : World} {ao : Option Addr} {l : List T.Wd} (h : WdsAt W ao l) (hb : Below W.heap.size W w) : WdsAt w ao l := by
  rcases h with h0 | ⟨b, o, e, hlt, hc⟩
  · exact .inl h0
  · refine .inr ⟨b, o, e, Nat.lt_of_lt_of_le hlt hb.size, fun i hi => ?_⟩
    obtain ⟨h1, h2, h3⟩ := hc i hi
    exact ⟨by rw [hb.cell (p := ⟨b, _, none⟩) hlt]; exact h1, by rw [hb.cell (p := ⟨b, _, none⟩) hlt]; exact h2, by rw [hb.cell (p := ⟨b, _, none⟩) hlt]; exact h3⟩
end Go.Proofs.YtbjinmlelchmgaaGreatDoor
namespace Go.Proofs.YtbjinmlelchmgaaGreatDoor
namespace T

def dv (c : UInt8) : Nat := c.toNat - 48
def step (n : Nat) (c : UInt8) : Nat := n * 10 + dv c
def val (l : List UInt8) : Nat := l.foldl step 0
def tens (s : List UInt8) (most : Nat) : Option Nat :=
  if s.length = 0 ∨ 10 < s.length ∨ (s.headD 0).toNat = 48 ∧ 1 < s.length then none
  else if s.all isDig then (if val s ≤ most then some (val s) else none) else none
def hstep (r : Option Nat) (c : UInt8) : Option Nat := match r, hexV c with
  | some n, some d => some (n * 16 + d)
  | _, _ => none
def hval (l : List UInt8) : Option Nat := l.foldl hstep (some 0)
theorem hval_snoc (l : List UInt8) (c : UInt8) : hval (l ++ [c]) = hstep (hval l) c := by simp [hval]
def hexed (l : List UInt8) : Option Nat := if l.length = 0 ∨ 8 < l.length then none else hval l
def number (s : List UInt8) : Option Nat := if [48, 120].isPrefixOf s then hexed (s.drop 2) else tens s 4294967295
def signed (s : List UInt8) : Option Int :=
  if [45].isPrefixOf s then (match tens (s.drop 1) 2147483648 with
    | some n => if n = 0 then none else some (-(n : Int))
    | none => none)
  else (match tens s 2147483647 with
    | some n => some (n : Int)
    | none => none)
end T
end Go.Proofs.YtbjinmlelchmgaaGreatDoor
