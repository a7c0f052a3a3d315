import Derived.Test.YtildhjiddidghaaGreatDoorP34
import Derived.Test.YtildhjiddidghaaGreatDoorP37
namespace Go.Proofs.YtildhjiddidghaaGreatDoor
open Go.RowKit
set_option maxHeartbeats 4000000
set_option maxRecDepth 100000
structure SX (W w : World) (g : Nat) (p : Dp) (r : Rp) (d e : DS) (g3 : Nat) (cs : List Value) : Prop where
  ss : SS W w g p r d e
  bx : Cel w g3 42 cs
theorem SX.on {W w w' : World} {g : Nat} {p : Dp} {r : Rp} {d e : DS} {g3 : Nat} {cs : List Value} (h : SX W w g p r d e g3 cs) (hb : Below w.heap.size w w') : SX W w' g p r d e g3 cs := ⟨h.ss.on hb, h.bx.on hb⟩
theorem SX.stepA {W w w' : World} {g : Nat} {p : Dp} {r : Rp} {d d' e : DS} {g3 : Nat} {cs : List Value} (h : SX W w g p r d e g3 cs) (hd : DB w' p d') (hb : ButL p.w w w') : SX W w' g p r d' e g3 cs :=
  ⟨h.ss.stepA hd hb, h.bx.but hb (fun hm => by
    rcases h.ss.own.ty g3 (Dp.w_all hm) 42 _ h.bx with e | e | e | e | e <;> (revert e; decide))⟩
theorem SX.stepR {W w w' : World} {g : Nat} {p : Dp} {r q : Rp} {d e e' : DS} {g3 : Nat} {cs : List Value} (h : SX W w g p r d e g3 cs) (hR : RG w w' r q e') : SX W w' g p q d e' g3 cs :=
  ⟨h.ss.stepR hR, h.bx.but hR.but (fun hm => by
    rcases h.ss.doc.ty g3 hm 42 _ h.bx with e | e | e | e | e <;> (revert e; decide))⟩
theorem SX.hold {W w : World} {g : Nat} {p : Dp} {r : Rp} {d e : DS} {g3 : Nat} {cs : List Value} (h : SX W w g p r d e g3 cs) {rg : Nat} (hr : r.g = rg) : Cel w g3 42 cs ∧ w.cell? ⟨g, 1, none⟩ = some (.pointer (some ⟨p.g, 0, none⟩)) ∧ w.cell? ⟨g, 2, none⟩ = some (.pointer (some ⟨rg, 0, none⟩)) := ⟨h.bx, h.ss.c.2.1, by rw [← hr]; exact h.ss.c.2.2⟩
end Go.Proofs.YtildhjiddidghaaGreatDoor
namespace Go.Proofs.YtildhjiddidghaaGreatDoor
open Go.RowKit
set_option maxHeartbeats 4000000
set_option maxRecDepth 100000
end Go.Proofs.YtildhjiddidghaaGreatDoor
namespace Go.Proofs.YtildhjiddidghaaGreatDoor
open Go.RowKit
set_option maxHeartbeats 4000000
set_option maxRecDepth 100000
end Go.Proofs.YtildhjiddidghaaGreatDoor
namespace Go.Proofs.YtildhjiddidghaaGreatDoor
open Go.RowKit
theorem wd_set2 (L : List Int) (i j : Nat) (v : Int) : wd (L.set i v) j = if i = j ∧ j < L.length then v else wd L j := by
  unfold wd
  rw [List.getD_eq_getElem?_getD, List.getD_eq_getElem?_getD, List.getElem?_set]
  by_cases e : i = j
  · subst e
    by_cases h : i < L.length
    · simp [h]
    · simp [h]
  · simp [e]
theorem MS.p_set (m : MS) (k i : Nat) (L : List Int) (c : Int) : (MS.mk m.ns (m.P.set k L) c).p i = if k = i ∧ i < m.P.length then L else m.p i := by
  unfold MS.p
  simp only [List.getD_eq_getElem?_getD, List.getElem?_set]
  by_cases e : k = i
  · subst e
    by_cases h : k < m.P.length
    · simp [h]
    · simp [h]
  · simp [e]
theorem MS.zero_w (m : MS) (s : Bool) (p : Int) (i j : Nat) : wd ((m.zero s p).p i) j = 0 ∨ wd ((m.zero s p).p i) j = wd (m.p i) j := by
  unfold MS.zero
  split
  · exact .inr rfl
  · rename_i k _
    have := MS.p_set m k i zs (m.tick 1024).c
    show wd ((MS.mk m.ns (m.P.set k zs) (m.tick 1024).c).p i) j = 0 ∨ wd ((MS.mk m.ns (m.P.set k zs) (m.tick 1024).c).p i) j = wd (m.p i) j
    rw [this]
    split
    · exact .inl (wd_zsR j)
    · exact .inr rfl
theorem MS.write_w (m : MS) (s : Bool) (p off v : Int) (i j : Nat) : wd ((m.write s p off v).p i) j = v ∨ wd ((m.write s p off v).p i) j = wd (m.p i) j := by
  unfold MS.write
  split
  · exact .inr rfl
  · rename_i k _
    split
    · show wd ((MS.mk m.ns (m.P.set k ((m.p k).set off.toNat v)) (m.tick 1).c).p i) j = v ∨ wd ((MS.mk m.ns (m.P.set k ((m.p k).set off.toNat v)) (m.tick 1).c).p i) j = wd (m.p i) j
      rw [MS.p_set]
      split
      · rename_i h
        rw [wd_set2]
        split
        · exact .inl rfl
        · rw [h.1]; exact .inr rfl
      · exact .inr rfl
    · exact .inr rfl
theorem MS.U.write {m : MS} (h : m.U) (s : Bool) (p o v : Int) (h0 : 0 ≤ v) (h1 : v < 4294967296) : (m.write s p o v).U := fun k j => by
  rcases m.write_w s p o v k j with e | e <;> rw [e]
  · exact ⟨h0, h1⟩
  · exact h k j
theorem MS.U.zero {m : MS} (h : m.U) (s : Bool) (p : Int) : (m.zero s p).U := fun k j => by
  rcases m.zero_w s p k j with e | e <;> rw [e]
  · decide
  · exact h k j
def MS.Z (m : MS) : Prop := ∀ k j, wd (m.p k) j = 0
theorem MS.Z.u {m : MS} (h : m.Z) : m.U := fun k j => by rw [h k j]; decide
theorem MS.Z.new (s n : Nat) : (MS.new s n).Z := fun k j => by
  unfold MS.new MS.p
  simp only [List.getD_eq_getElem?_getD, List.getElem?_replicate]
  split
  · exact wd_zsR j
  · simp [wd]
theorem MS.Z.zero {m : MS} (h : m.Z) (s : Bool) (p : Int) : (m.zero s p).Z := fun k j => by
  rcases m.zero_w s p k j with e | e <;> rw [e]
  exact h k j
theorem MS.Z.zall {m : MS} (h : m.Z) : ∀ k, (m.zall k).Z
  | 0 => h
  | k + 1 => (MS.Z.zall h k).zero true (k : Int)
theorem MS.Z.word {m : MS} (h : m.Z) (s : Bool) (p off : Int) : m.word s p off = 0 := by
  unfold MS.word
  split
  · rfl
  · split
    · exact h _ _
    · rfl
theorem begun_Z (a b : Int) : (DS.begun a b).m.Z := (MS.Z.new (sz a) (sz b)).zall _
theorem begun_ns (a b : Int) : (DS.begun a b).m.ns = sz a := by
  show (MS.zall _ _).ns = _
  rw [MS.zall_ns]
  rfl
theorem fb_none {d : DS} : ∀ (n c : Nat), (∀ i, c ≤ i → i < c + n → ∀ q, q < d.m.ns → d.at12 i q = true) → d.fb c n = (0, 0)
  | 0, _, _ => rfl
  | n + 1, c, h => by
    have h1 : d.bad c = none := bad_none (fun j hj => h c (Nat.le_refl _) (by omega) j hj)
    unfold DS.fb
    rw [h1]
    exact fb_none n (c + 1) (fun i hi hi' q hq => h i (by omega) (by omega) q hq)
end Go.Proofs.YtildhjiddidghaaGreatDoor
