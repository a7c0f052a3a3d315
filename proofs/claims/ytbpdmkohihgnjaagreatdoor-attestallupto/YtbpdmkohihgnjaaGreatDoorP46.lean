import Derived.Test.YtbpdmkohihgnjaaGreatDoorP42
import Derived.Test.YtbpdmkohihgnjaaGreatDoorP01
import Derived.Test.YtbpdmkohihgnjaaGreatDoorP44
import Derived.Test.YtbpdmkohihgnjaaGreatDoorP45
import Derived.Test.YtbpdmkohihgnjaaGreatDoorP39
namespace Go.Proofs.YtbpdmkohihgnjaaGreatDoor
open Go.RowKit
set_option maxHeartbeats 4000000
set_option maxRecDepth 100000
theorem step_sml {st st2 : Rdr} {l : List UInt8} (h : stepP st l = some st2) (hm : ∀ r ∈ st.rules, r.ms.length = 8) (hl : st.rules.length ≤ 256) : (∀ r ∈ st2.rules, r.ms.length = 8) ∧ st2.rules.length ≤ 256 := by
  rw [step_doc] at h
  cases hp : plD l with
  | none => rw [hp] at h; cases h
  | some t =>
    rw [hp] at h
    replace h : stD st t = some st2 := h
    unfold stD at h
    split at h
    · cases h; exact ⟨hm, hl⟩
    · split at h
      · cases h
      · split at h
        · split at h
          · cases h; exact ⟨hm, hl⟩
          · cases h
        · split at h
          · cases h
          · rename_i r hr
            split at h
            · cases h
            · rename_i hne
              cases h
              refine ⟨fun x hx => ?_, ?_⟩
              · rcases List.mem_append.1 hx with hx | hx
                · exact hm x hx
                · rw [List.mem_singleton.1 hx]; exact rl3_ml hr
              · rw [List.length_append, List.length_singleton]; omega
theorem fold_sml : ∀ (ls : List (List UInt8)) (st : Rdr) (k : Nat) {st2 : Rdr}, foldP st ls k = .inl st2 → (∀ r ∈ st.rules, r.ms.length = 8) → st.rules.length ≤ 256 → (∀ r ∈ st2.rules, r.ms.length = 8) ∧ st2.rules.length ≤ 256
  | [], st, k, st2, h, hm, hl => by
    have h2 : (Sum.inl st : Rdr ⊕ Nat) = .inl st2 := h
    cases h2
    exact ⟨hm, hl⟩
  | l :: ls, st, k, st2, h, hm, hl => by
    unfold foldP at h
    split at h
    · cases h
    · rename_i s2 hs
      obtain ⟨h1, h2⟩ := step_sml hs hm hl
      exact fold_sml ls s2 (k + 1) h h1 h2
theorem prs_small (s : ByteArray) : (∀ r ∈ (prs s).rs, r.ms.length = 8) ∧ (prs s).rs.length ≤ 256 := by
  unfold prs
  split
  · cases hf : foldP z0 (L.T.lines s.data.toList) 0 with
    | inr k => exact ⟨(fun r hr => by cases hr), Nat.zero_le _⟩
    | inl st =>
      obtain ⟨h1, h2⟩ := fold_sml _ z0 0 hf (fun r hr => by cases hr) (by decide)
      cases he : st.ended
      · rw [endE_no he]; exact ⟨(fun r hr => by cases hr), Nat.zero_le _⟩
      · rw [endE_yes he]; exact ⟨h1, h2⟩
  · exact ⟨(fun r hr => by cases hr), Nat.zero_le _⟩
theorem own_dif {w : World} {B1 B2 n1 n2 z1 z2 : Nat} {e1 e2 : TypeId} {v1 v2 : Value} {x1 x2 : List Value} (h1 : w.ownsRow B1 e1 z1 v1 n1 x1) (h2 : w.ownsRow B2 e2 z2 v2 n2 x2) (hne : e1 ≠ e2) : v1.ownBlock = none ∨ v1.ownBlock ≠ v2.ownBlock := by
  rcases h1.2 with ⟨rfl, _⟩ | ⟨g, cap, cur, rfl, _, hg, _⟩
  · exact .inl rfl
  · refine .inr fun e => ?_
    rcases h2.2 with ⟨rfl, _⟩ | ⟨g2, cap2, cur2, rfl, _, hg2, _⟩
    · cases e
    · have e' : g = g2 := Option.some.inj e
      subst e'
      rw [hg] at hg2
      cases hg2
      exact hne rfl
theorem own_gr {w w' : World} {B n : Nat} {e : TypeId} {v : Value} {xs : List Value} {ob : Option Nat} (h : w.ownsRow B e 10 v n xs) (hg : w.grownBy w' ob) (hne : ∀ g, v.ownBlock = some g → some g ≠ ob) : w'.ownsRow B e 10 v n xs :=
  h.kept hg (by
    cases hv : v.ownBlock with
    | none => exact .inl rfl
    | some g => exact .inr (hne g hv))
theorem rules_gr {w w' : World} {a : Option Addr} {n c : Nat} {R : List Rl} {ob : Option Nat} (h : RulesAt w a R) (hg : w.grownBy w' ob) (hne : ∀ g, (Value.slice a n c).ownBlock = some g → some g ≠ ob) : RulesAt w' a R := by
  rcases h with h | ⟨b, off, e, hl, hra⟩
  · exact .inl h
  · subst e
    exact .inr ⟨b, off, rfl, Nat.lt_of_lt_of_le hl hg.size, fun t r hr j v hv => (World.cell?_of_block (a := ⟨b, off + t * 10 + j, none⟩) (hg.block b hl (hne b rfl))).trans (hra t r hr j v hv)⟩
theorem rules_bt {w w' : World} {a : Option Addr} {n c g : Nat} {R : List Rl} (h : RulesAt w a R) (hb : But g w w') (hne : ∀ k, (Value.slice a n c).ownBlock = some k → k ≠ g) : RulesAt w' a R := by
  rcases h with h | ⟨b, off, e, hl, hra⟩
  · exact .inl h
  · subst e
    exact .inr ⟨b, off, rfl, Nat.lt_of_lt_of_le hl hb.size, fun t r hr j v hv => (World.cell?_of_block (a := ⟨b, off + t * 10 + j, none⟩) (hb.block b hl (hne b rfl))).trans (hra t r hr j v hv)⟩
theorem bel_gr {B : Nat} {W w w' : World} {ob : Option Nat} (h : Below B W w) (hg : w.grownBy w' ob) (hB : B ≤ W.heap.size) (hob : ∀ g, ob = some g → B ≤ g) : Below B W w' :=
  ⟨hg.os.trans h.os, hg.tape.trans h.tape, hg.output.trans h.output, Nat.le_trans h.size hg.size, fun k hk => (hg.block k (Nat.lt_of_lt_of_le hk (Nat.le_trans hB h.size)) (fun e => by have := hob k e.symm; omega)).trans (h.block k hk)⟩
structure L0 (W : World) (ap : Option Addr) (n cp : Nat) (ot : Bool) (C : List Value) (w : World) : Prop where
  bl : Below W.heap.size W w
  p4 : Cel w W.heap.size 24 [.slice ap n cp, .bool ot]
  c5 : Cel w (W.heap.size + 1) 30 C
theorem L0.on {W w w' : World} {ap : Option Addr} {n cp : Nat} {ot : Bool} {C : List Value} (h : L0 W ap n cp ot C w) (hb : Below w.heap.size w w') : L0 W ap n cp ot C w' := ⟨below_on h.bl hb, h.p4.on hb, h.c5.on hb⟩
theorem L0.gr {W w w' : World} {ap : Option Addr} {n cp : Nat} {ot : Bool} {C : List Value} {B m c : Nat} {a : Option Addr} {xs : List Value} (h : L0 W ap n cp ot C w) (ho : w.ownsRow B 63 10 (.slice a m c) m xs) (hB : W.heap.size ≤ B) (hg : w.grownBy w' (Value.slice a m c).ownBlock) : L0 W ap n cp ot C w' :=
  ⟨bel_gr h.bl hg (Nat.le_refl _) (fun g e => Nat.le_trans hB (ho.lt g e).1), grown_cel ho hg h.p4 (by decide), grown_cel ho hg h.c5 (by decide)⟩
theorem L0.bt {W w w' : World} {ap : Option Addr} {n cp : Nat} {ot : Bool} {C : List Value} {g : Nat} (h : L0 W ap n cp ot C w) (hb : But g w w') (hg : W.heap.size + 1 < g) : L0 W ap n cp ot C w' :=
  ⟨h.bl.trans (hb.below (by omega) h.bl.size), h.p4.but hb (by omega), h.c5.but hb (by omega)⟩
structure L1 (W : World) (ap : Option Addr) (n cp : Nat) (ot : Bool) (C : List Value) (g7 : Nat) (aA : Option Addr) (cA k : Nat) (ob : Bool) (XA : List Rl) (w : World) : Prop where
  z : L0 W ap n cp ot C w
  a7 : Cel w g7 24 [.slice aA k cA, .bool ob]
  oA : w.ownsRow (W.heap.size + 1 + 1) 63 10 (.slice aA k cA) k (rcs XA)
  h7 : W.heap.size + 1 < g7
  lA : ∀ g, (Value.slice aA k cA).ownBlock = some g → g < g7
theorem L1.on {W w w' : World} {ap : Option Addr} {n cp : Nat} {ot : Bool} {C : List Value} {g7 : Nat} {aA : Option Addr} {cA k : Nat} {ob : Bool} {XA : List Rl} (h : L1 W ap n cp ot C g7 aA cA k ob XA w) (hb : Below w.heap.size w w') : L1 W ap n cp ot C g7 aA cA k ob XA w' := ⟨h.z.on hb, h.a7.on hb, L.own_below h.oA hb, h.h7, h.lA⟩
structure L2 (W : World) (ap : Option Addr) (n cp : Nat) (ot : Bool) (C : List Value) (g7 g10 : Nat) (aA aB : Option Addr) (cA cB k : Nat) (ob : Bool) (XA RB : List Rl) (w : World) : Prop where
  o : L1 W ap n cp ot C g7 aA cA k ob XA w
  b10 : Cel w g10 36 [.slice aB k cB, .bool ob]
  oB : w.ownsRow (g7 + 1) 60 10 (.slice aB k cB) k (rcs RB)
  h10 : g7 < g10
theorem L2.on {W w w' : World} {ap : Option Addr} {n cp : Nat} {ot : Bool} {C : List Value} {g7 g10 : Nat} {aA aB : Option Addr} {cA cB k : Nat} {ob : Bool} {XA RB : List Rl} (h : L2 W ap n cp ot C g7 g10 aA aB cA cB k ob XA RB w) (hb : Below w.heap.size w w') : L2 W ap n cp ot C g7 g10 aA aB cA cB k ob XA RB w' := ⟨h.o.on hb, h.b10.on hb, L.own_below h.oB hb, h.h10⟩
structure LQ (W : World) (ap : Option Addr) (n cp : Nat) (ot : Bool) (C : List Value) (g7 g10 g13 : Nat) (aA aB aD : Option Addr) (cA cB cD k : Nat) (ob : Bool) (XA RB XD : List Rl) (w : World) : Prop where
  t : L2 W ap n cp ot C g7 g10 aA aB cA cB k ob XA RB w
  d13 : Cel w g13 24 [.slice aD k cD, .bool ob]
  oD : w.ownsRow (g10 + 1) 63 10 (.slice aD k cD) k (rcs XD)
  h13 : g10 < g13
  lD : ∀ g, (Value.slice aD k cD).ownBlock = some g → g < g13
theorem LQ.on {W w w' : World} {ap : Option Addr} {n cp : Nat} {ot : Bool} {C : List Value} {g7 g10 g13 : Nat} {aA aB aD : Option Addr} {cA cB cD k : Nat} {ob : Bool} {XA RB XD : List Rl} (h : LQ W ap n cp ot C g7 g10 g13 aA aB aD cA cB cD k ob XA RB XD w) (hb : Below w.heap.size w w') : LQ W ap n cp ot C g7 g10 g13 aA aB aD cA cB cD k ob XA RB XD w' := ⟨h.t.on hb, h.d13.on hb, L.own_below h.oD hb, h.h13, h.lD⟩
theorem LQ.mA {W w w' : World} {ap : Option Addr} {n cp : Nat} {ot : Bool} {C : List Value} {g7 g10 g13 : Nat} {aA aB aD : Option Addr} {cA cB cD k : Nat} {ob : Bool} {XA RB XD : List Rl} {X2 : List Rl} (h : LQ W ap n cp ot C g7 g10 g13 aA aB aD cA cB cD k ob XA RB XD w) (ho : w'.ownsRow (W.heap.size + 1 + 1) 63 10 (.slice aA k cA) k (rcs X2)) (hg : w.grownBy w' (Value.slice aA k cA).ownBlock) : LQ W ap n cp ot C g7 g10 g13 aA aB aD cA cB cD k ob X2 RB XD w' :=
  have oA := h.t.o.oA
  ⟨⟨⟨h.t.o.z.gr oA (by omega) hg, grown_cel oA hg h.t.o.a7 (by decide), ho, h.t.o.h7, h.t.o.lA⟩, grown_cel oA hg h.t.b10 (by decide), h.t.oB.kept hg (own_dif h.t.oB oA (by decide)), h.t.h10⟩, grown_cel oA hg h.d13 (by decide),
    own_gr h.oD hg (fun g e e2 => by have h1 := (h.oD.lt g e).1; have h2 := h.t.o.lA g e2.symm; have h3 := h.t.h10; omega), h.h13, h.lD⟩
theorem LQ.mD {W w w' : World} {ap : Option Addr} {n cp : Nat} {ot : Bool} {C : List Value} {g7 g10 g13 : Nat} {aA aB aD : Option Addr} {cA cB cD k : Nat} {ob : Bool} {XA RB XD : List Rl} {X2 : List Rl} (h : LQ W ap n cp ot C g7 g10 g13 aA aB aD cA cB cD k ob XA RB XD w) (ho : w'.ownsRow (g10 + 1) 63 10 (.slice aD k cD) k (rcs X2)) (hg : w.grownBy w' (Value.slice aD k cD).ownBlock) : LQ W ap n cp ot C g7 g10 g13 aA aB aD cA cB cD k ob XA RB X2 w' :=
  have oD := h.oD
  have h7 := h.t.o.h7
  have h10 := h.t.h10
  ⟨⟨⟨h.t.o.z.gr oD (by omega) hg, grown_cel oD hg h.t.o.a7 (by decide), own_gr h.t.o.oA hg (fun g e e2 => by have h1 := (oD.lt g e2.symm).1; have h2 := h.t.o.lA g e; omega), h.t.o.h7, h.t.o.lA⟩, grown_cel oD hg h.t.b10 (by decide), h.t.oB.kept hg (own_dif h.t.oB oD (by decide)), h.t.h10⟩, grown_cel oD hg h.d13 (by decide), ho, h.h13, h.lD⟩
structure LG (W : World) (ap : Option Addr) (n cp : Nat) (ot : Bool) (C : List Value) (g7 g10 g13 : Nat) (aA aB aD aL : Option Addr) (cA cB cD cL k : Nat) (ob : Bool) (RB XD : List Rl) (w : World) : Prop where
  z : L0 W ap n cp ot C w
  a7 : Cel w g7 24 [.slice aA k cA, .bool ob]
  b10 : Cel w g10 36 [.slice aB k cB, .bool ob]
  oB : w.ownsRow (g7 + 1) 60 10 (.slice aB k cB) k (rcs RB)
  oD : w.ownsRow (g10 + 1) 63 10 (.slice aD k cD) k (rcs XD)
  rA : RulesAt w aA (List.replicate k (mkR ⟨#[35]⟩))
  rL : RulesAt w aL (List.replicate (k + 80) (mkR ⟨#[35]⟩))
  h7 : W.heap.size + 1 < g7
  h10 : g7 < g10
  h13 : g10 < g13
  lA : ∀ g, (Value.slice aA k cA).ownBlock = some g → g < g7
  lD : ∀ g, (Value.slice aD k cD).ownBlock = some g → g < g13
  lL : ∀ g, (Value.slice aL (k + 80) cL).ownBlock = some g → g < g7 ∨ g13 < g
theorem LQ.grow {W w w' : World} {ap : Option Addr} {n cp : Nat} {ot : Bool} {C : List Value} {g7 g10 g13 : Nat} {aA aB aD : Option Addr} {cA cB cD k : Nat} {ob : Bool} {XA RB XD : List Rl} {aL : Option Addr} {cL : Nat} (h : LQ W ap n cp ot C g7 g10 g13 aA aB aD cA cB cD k ob XA RB XD w) (hg : w.grownBy w' (Value.slice aA k cA).ownBlock) (rA : RulesAt w' aA (List.replicate k (mkR ⟨#[35]⟩))) (rL : RulesAt w' aL (List.replicate (k + 80) (mkR ⟨#[35]⟩)))
    (hl : ∀ g, (Value.slice aL (k + 80) cL).ownBlock = some g → some g = (Value.slice aA k cA).ownBlock ∨ w.heap.size ≤ g) : LG W ap n cp ot C g7 g10 g13 aA aB aD aL cA cB cD cL k ob RB XD w' :=
  have oA := h.t.o.oA
  ⟨h.t.o.z.gr oA (by omega) hg, grown_cel oA hg h.t.o.a7 (by decide), grown_cel oA hg h.t.b10 (by decide), h.t.oB.kept hg (own_dif h.t.oB oA (by decide)),
    own_gr h.oD hg (fun g e e2 => by have h1 := (h.oD.lt g e).1; have h2 := h.t.o.lA g e2.symm; have h3 := h.t.h10; omega), rA, rL, h.t.o.h7, h.t.h10, h.h13, h.t.o.lA, h.lD,
    fun g e => (hl g e).imp (fun e2 => h.t.o.lA g e2.symm) (fun e2 => Nat.lt_of_lt_of_le h.d13.lt e2)⟩
structure LC (W : World) (ap : Option Addr) (n cp : Nat) (ot : Bool) (C : List Value) (g7 g10 : Nat) (aA aB aD aL aM : Option Addr) (cA cB cD cL cM k : Nat) (ob : Bool) (RB : List Rl) (w : World) : Prop where
  z : L0 W ap n cp ot C w
  b10 : Cel w g10 36 [.slice aB k cB, .bool ob]
  rB : RulesAt w aB RB
  rA : RulesAt w aA (List.replicate k (mkR ⟨#[35]⟩))
  rL : RulesAt w aL (List.replicate (k + 80) (mkR ⟨#[35]⟩))
  rD : RulesAt w aD (List.replicate k (mkR ⟨#[37]⟩))
  rM : RulesAt w aM (List.replicate (k + 80) (mkR ⟨#[37]⟩))
  h7 : W.heap.size + 1 < g7
  h10 : g7 < g10
  nB : ∀ g, (Value.slice aB k cB).ownBlock = some g → g ≠ g7
  nA : ∀ g, (Value.slice aA k cA).ownBlock = some g → g ≠ g7
  nL : ∀ g, (Value.slice aL (k + 80) cL).ownBlock = some g → g ≠ g7
  nD : ∀ g, (Value.slice aD k cD).ownBlock = some g → g ≠ g7
  nM : ∀ g, (Value.slice aM (k + 80) cM).ownBlock = some g → g ≠ g7
theorem LC.on {W w w' : World} {ap : Option Addr} {n cp : Nat} {ot : Bool} {C : List Value} {g7 g10 : Nat} {aA aB aD aL aM : Option Addr} {cA cB cD cL cM k : Nat} {ob : Bool} {RB : List Rl} (h : LC W ap n cp ot C g7 g10 aA aB aD aL aM cA cB cD cL cM k ob RB w) (hb : Below w.heap.size w w') : LC W ap n cp ot C g7 g10 aA aB aD aL aM cA cB cD cL cM k ob RB w' := ⟨h.z.on hb, h.b10.on hb, h.rB.on hb, h.rA.on hb, h.rL.on hb, h.rD.on hb, h.rM.on hb, h.h7, h.h10, h.nB, h.nA, h.nL, h.nD, h.nM⟩
theorem LC.bt {W w w' : World} {ap : Option Addr} {n cp : Nat} {ot : Bool} {C : List Value} {g7 g10 : Nat} {aA aB aD aL aM : Option Addr} {cA cB cD cL cM k : Nat} {ob : Bool} {RB : List Rl} (h : LC W ap n cp ot C g7 g10 aA aB aD aL aM cA cB cD cL cM k ob RB w) (hb : But g7 w w') : LC W ap n cp ot C g7 g10 aA aB aD aL aM cA cB cD cL cM k ob RB w' :=
  have h10 := h.h10
  ⟨h.z.bt hb h.h7, h.b10.but hb (by omega), rules_bt h.rB hb h.nB, rules_bt h.rA hb h.nA, rules_bt h.rL hb h.nL, rules_bt h.rD hb h.nD, rules_bt h.rM hb h.nM, h.h7, h.h10, h.nB, h.nA, h.nL, h.nD, h.nM⟩
theorem LG.grow {W w w' : World} {ap : Option Addr} {n cp : Nat} {ot : Bool} {C : List Value} {g7 g10 : Nat} {aA aB aD aL aM : Option Addr} {cA cB cD cL cM k : Nat} {ob : Bool} {RB : List Rl} {g13 : Nat} {XD : List Rl} (h : LG W ap n cp ot C g7 g10 g13 aA aB aD aL cA cB cD cL k ob RB XD w) (hk : RB.length = k) (hm : ∀ r ∈ RB, r.ms.length = 8) (hg : w.grownBy w' (Value.slice aD k cD).ownBlock) (rD : RulesAt w' aD (List.replicate k (mkR ⟨#[37]⟩))) (rM : RulesAt w' aM (List.replicate (k + 80) (mkR ⟨#[37]⟩)))
    (hl : ∀ g, (Value.slice aM (k + 80) cM).ownBlock = some g → some g = (Value.slice aD k cD).ownBlock ∨ w.heap.size ≤ g) : LC W ap n cp ot C g7 g10 aA aB aD aL aM cA cB cD cL cM k ob RB w' ∧ Cel w' g7 24 [.slice aA k cA, .bool ob] :=
  have oD := h.oD
  have h7 := h.h7
  have h10 := h.h10
  have oB := h.oB.kept hg (own_dif h.oB oD (by decide))
  ⟨⟨h.z.gr oD (by omega) hg, grown_cel oD hg h.b10 (by decide), own_rulesE (by rw [hk]; exact oB) hm,
    rules_gr h.rA hg (fun g e e2 => by have h1 := (oD.lt g e2.symm).1; have h2 := h.lA g e; omega),
    rules_gr h.rL hg (fun g e e2 => by have h1 := (oD.lt g e2.symm).1; have h3 := h.lD g e2.symm; have h2 := h.lL g e; omega),
    rD, rM, h.h7, h.h10, fun g e => by have := (oB.lt g e).1; omega, fun g e => by have := h.lA g e; omega,
    fun g e => by
      rcases h.lL g e with h1 | h1
      · omega
      · have := h.h13; omega,
    fun g e => by have := (oD.lt g e).1; omega,
    fun g e => by
      rcases hl g e with h1 | h1
      · have := (oD.lt g h1.symm).1; omega
      · have := h.a7.lt; omega⟩, grown_cel oD hg h.a7 (by decide)⟩
def Bears (w : World) (v : Value) (m : ByteArray) : Prop := ∃ a n c, v = .slice a n c ∧ RulesAt w a (List.replicate n (mkR m)) ∧ n ≤ 3000000
theorem bears_l {w : World} {v : Value} {m : ByteArray} (h : Bears w v m) : Calls Tryz.prog 10 #[v, .string m] w fun e W' => e = .returned (.bool true) ∧ W' = w := by
  obtain ⟨a, n, c, rfl, hr, hn⟩ := h
  exact bears_any w a n c m hr hn
theorem bears_of {w : World} {a : Option Addr} {n c : Nat} {m : ByteArray} (hr : RulesAt w a (List.replicate n (mkR m))) (hn : n ≤ 3000000) : Bears w (.slice a n c) m := ⟨a, n, c, rfl, hr, hn⟩
def zpp : Obj := .cells #[.slice none 0 0, .bool false] 36
attribute [-simp] Tryz.isAgg24 Tryz.zeroValue24 Tryz.isAgg30 Tryz.zeroValue30 Tryz.isAgg36 Tryz.zeroValue36
set_option maxHeartbeats 40000000 in
theorem law3_any (W : World) (E : Nat → Addr) (hV : Vr W E) (hT : Tabs W) (hR : TR W) (sx : ByteArray) (ap : Option Addr) (n cp : Nat) (ot : Bool) (R : List Rl) (s o m d t : List Int) (ri sa : Bool) (hs : s.length = 8) (ho : o.length = 8) (hm : m.length = 8) (hd : d.length = 8) (ht : t.length = 8) (ws : Wds s) (wo : Wds o) (wm : Wds m) (wd : Wds d) (wt : Wds t)
    (hn : R.length = n) (h2 : RulesAt W ap R) (ok : ∀ r ∈ R, r.Ok) (hmax : n ≤ 2000000) :
    Calls Tryz.prog 3 #[.string sx, .agg #[.slice ap n cp, .bool ot], .agg (claC s o (quoL m d t) ri sa).toArray] W fun e W' => e = .returned (.bool true) ∧ Below W.heap.size W W' := by
  have hz24 : ∀ w, (zeroValue 24).run Tryz.prog w = .ok (.agg #[.slice none 0 0, .bool false]) w := fun w => by rw [Tryz.zeroValue24]
  have hz36 : ∀ w, (zeroValue 36).run Tryz.prog w = .ok (.agg #[.slice none 0 0, .bool false]) w := fun w => by rw [Tryz.zeroValue36]
  have ml : ∀ r ∈ R, r.ms.length = 8 := fun r hr => (ok r hr).ml
  have okF := flR_ok ok
  have hnF : (flR R).length = n := by rw [flR_len]; exact hn
  have hCl : (claC s o (quoL m d t) ri sa).length = 42 := claC_length hs ho (quoL_length hm hd ht)
  obtain ⟨hPm, hPl⟩ := prs_small sx
  have HP4' := hid (fun (w : World) (h : Below W.heap.size W w) => parse4_any w E (hV.on h) sx)
  have HP5' := hid (fun (w : World) => parse5_any w sx)
  generalize prs sx = P at *
  obtain ⟨RB, ob, ln, er⟩ := P
  replace hPm : ∀ r ∈ RB, r.ms.length = 8 := hPm
  replace hPl : RB.length ≤ 256 := hPl
  obtain ⟨k, hk⟩ : ∃ k, RB.length = k := ⟨_, rfl⟩
  rw [hk] at hPl
  obtain ⟨ni, hni⟩ : ∃ x : Int, (ln : Int) = x := ⟨_, rfl⟩
  obtain ⟨ei, hei⟩ : ∃ x : Int, (er : Int) = x := ⟨_, rfl⟩
  have HP4 : Hid (∀ w : World, Below W.heap.size W w → Calls Tryz.prog 4 #[.string sx] w fun e w' => ∃ a c, e = .returned (.tuple #[.agg #[.slice a k c, .bool ob], .int .i64 ni, .int .i64 ei]) ∧ w'.ownsRow w.heap.size 63 10 (.slice a k c) k (rcs RB) ∧ Below w.heap.size w w') := hid (fun w h => (HP4'.out w h).mono fun e w' hh => by
    obtain ⟨v, he, hr, hb⟩ := hh
    replace hr : w'.ownsRow w.heap.size 63 10 v RB.length (rcs RB) := hr
    replace he : e = .returned (.tuple #[.agg #[v, .bool ob], .int .i64 (ln : Int), .int .i64 (er : Int)]) := he
    rw [hk] at hr
    rw [hni, hei] at he
    obtain ⟨a, c, rfl⟩ := L.own_form hr
    exact ⟨a, c, he, hr, hb⟩)
  have HP5 : Hid (∀ w : World, Calls Tryz.prog 5 #[.string sx] w fun e w' => ∃ a c, e = .returned (.tuple #[.agg #[.slice a k c, .bool ob], .int .i64 ni, .int .i64 ei]) ∧ w'.ownsRow w.heap.size 60 10 (.slice a k c) k (rcs RB) ∧ Below w.heap.size w w') := hid (fun w => (HP5'.out w).mono fun e w' hh => by
    obtain ⟨v, he, hr, hb⟩ := hh
    replace hr : w'.ownsRow w.heap.size 60 10 v RB.length (rcs RB) := hr
    replace he : e = .returned (.tuple #[.agg #[v, .bool ob], .int .i64 (ln : Int), .int .i64 (er : Int)]) := he
    rw [hk] at hr
    rw [hni, hei] at he
    obtain ⟨a, c, rfl⟩ := L.own_form hr
    exact ⟨a, c, he, hr, hb⟩)
  clear HP4' HP5' hni hei
  have HS : Hid (∀ (w : World) (a1 a2 : Option Addr) (c1 c2 : Nat), RulesAt w a1 RB → RulesAt w a2 RB → Calls Tryz.prog 6 #[.agg #[.slice a1 k c1, .bool ob], .agg #[.slice a2 k c2, .bool ob]] w fun e w' => e = .returned (.bool true) ∧ Below w.heap.size w w') := hid (fun w a1 a2 c1 c2 q1 q2 => same6_any w a1 c1 a2 c2 k ob RB hk q1 q2 hPm (by omega))
  have HE : Hid (∀ (w : World) (B : Nat) (e : TypeId) (a : Option Addr) (c : Nat), w.ownsRow B e 10 (.slice a k c) k (rcs RB) → RulesAt w a RB) := hid (fun w B e a c q => own_rulesE (by rw [hk]; exact q) hPm)
  have HM8 : Hid (∀ (w : World) (B : Nat) (a : Option Addr) (c : Nat) (mk : ByteArray), w.ownsRow B 63 10 (.slice a k c) k (rcs RB) → Calls Tryz.prog 8 #[.slice a k c, .string mk] w fun e w' => e = .returned (.slice a k c) ∧ w'.ownsRow B 63 10 (.slice a k c) k (rcs (List.replicate k (mkR mk))) ∧ w.grownBy w' (Value.slice a k c).ownBlock) := hid (fun w B a c mk q => marked_any w B a k c RB mk hk q (by omega))
  have HG9 : Hid (∀ (w : World) (B : Nat) (a : Option Addr) (c : Nat) (mk : ByteArray), w.ownsRow B 63 10 (.slice a k c) k (rcs (List.replicate k (mkR mk))) → B ≤ w.heap.size → Calls Tryz.prog 9 #[.slice a k c, .string mk] w fun e w' => ∃ a2 c2, e = .returned (.slice a2 (k + 80) c2) ∧ RulesAt w' a2 (List.replicate (k + 80) (mkR mk)) ∧ RulesAt w' a (List.replicate k (mkR mk)) ∧ w.grownBy w' (Value.slice a k c).ownBlock ∧ (∀ g, (Value.slice a2 (k + 80) c2).ownBlock = some g → some g = (Value.slice a k c).ownBlock ∨ w.heap.size ≤ g)) := hid (fun w B a c mk q hB => grown_any w B a k c mk q hB (by omega))
  have HK3 := hid (show k ≤ 3000000 ∧ k + 80 ≤ 3000000 by omega)
  have HKM := hid (And.intro hk hPm)
  have HN := hid num_any
  have HB10 : Hid (∀ (w : World) (v : Value) (mk : ByteArray), Bears w v mk → Calls Tryz.prog 10 #[v, .string mk] w fun e W' => e = .returned (.bool true) ∧ W' = w) := hid (fun w v mk h => bears_l h)
  have HJ0 : Hid (∀ (w : World) (a : Option Addr) (c : Nat) (b : Bool) (R' : List Rl), Below W.heap.size W w → R'.length = n → (∀ r ∈ R', r.Ok) → RulesAt w a R' → Calls Tryz.prog 11 #[.agg #[.slice a n c, .bool b], .agg (claC s o (quoL m d t) ri sa).toArray] w fun e W' => e = .returned (.bool true) ∧ Below w.heap.size w W') := hid (fun w a c b R' hb hl hok hra =>
    judgedP_any w E (hV.on hb).es (hT.on hb) (hR.on hb) a n c b R' s o m d t ri sa hs ho hm hd ht ws wo wm wd wt hl hra hok hmax)
  have HJ1 : Hid (∀ w : World, Below W.heap.size W w → Calls Tryz.prog 11 #[.agg #[.slice ap n cp, .bool ot], .agg (claC s o (quoL m d t) ri sa).toArray] w fun e W' => e = .returned (.bool true) ∧ Below w.heap.size w W') := hid (fun w hb => HJ0.out w ap cp ot R hb hn ok (h2.on hb))
  have HJ2 : Hid (∀ (w : World) (a : Option Addr) (c : Nat), Below W.heap.size W w → RulesAt w a (flR R) → Calls Tryz.prog 11 #[.agg #[.slice a n c, .bool (!ot)], .agg (claC s o (quoL m d t) ri sa).toArray] w fun e W' => e = .returned (.bool true) ∧ Below w.heap.size w W') := hid (fun w a c hb hra => HJ0.out w a c (!ot) (flR R) hb hnF okF hra)
  have HTu : Hid (∀ w : World, Below W.heap.size W w → Calls Tryz.prog 12 #[.agg #[.slice ap n cp, .bool ot]] w fun e W' => ∃ a c, e = .returned (.agg #[.slice a n c, .bool (!ot)]) ∧ RulesAt W' a (flR R) ∧ Below w.heap.size w W') := hid (fun w hb => (turned_any w ap n cp ot R hn (h2.on hb) ml hmax).mono fun e W' hh => by
    obtain ⟨a, c, he, hrow, hb2⟩ := hh
    exact ⟨a, c, he, own_rulesE (by rw [hnF]; exact hrow) (fun r hr => (okF r hr).ml), hb2⟩)
  clear HJ0
  obtain ⟨C, hC⟩ : ∃ C, C = claC s o (quoL m d t) ri sa := ⟨_, rfl⟩
  rw [← hC] at HJ1 HJ2 hCl ⊢
  obtain ⟨X, hX⟩ : ∃ X, X = (W.alloc (Obj.cells #[.slice ap n cp, .bool ot] 24)).alloc (Obj.cells C.toArray 30) := ⟨_, rfl⟩
  have Y0 : Hid (L0 W ap n cp ot C X ∧ X.heap.size = W.heap.size + 1 + 1) := hid (by
    refine ⟨⟨by rw [hX]; exact below_on (below_one W _) (below_one _ _), ?_, ?_⟩, by rw [hX]; simp⟩
    · rw [hX]; exact Cel.on (heap_alloc_new _ _) (below_one _ _)
    · rw [hX]; exact heap_alloc_new' (by simp) _)
  clear hV hT hR h2 ok ml okF hC ws wo wm wd wt hs ho hm hd ht hnF hPm hk hPl hn hmax
  go_enter Tryz.func3, Tryz.ntmps3
  go_upto_region 1 with fail
  rw [← hX]
  clear hX
  go_upto_region 2 with (first | (go_at_call 4; refine (HP4.out _ Y0.out.1.bl).mono ?_; rintro e w1 ⟨aA, cA, rfl, hrow, hb⟩; have Y1 : Hid (L0 W ap n cp ot C w1 ∧ w1.ownsRow (W.heap.size + 1 + 1) 63 10 (.slice aA k cA) k (rcs RB) ∧ W.heap.size + 1 < w1.heap.size) := hid ⟨Y0.out.1.on hb, L.own_mono hrow (Nat.le_of_eq Y0.out.2.symm), by have h1 := hb.size; have h2 := Y0.out.2; omega⟩; clear hrow hb Y0) | (refine wpList_store_st rfl 24 _ _ rfl w1.heap.size [.slice aA k cA, .bool ob] rfl rfl (heap_alloc_new w1 zpo) size36 rfl rfl ?_; intro w2 hc hb hs; have Y2 : Hid (L1 W ap n cp ot C w1.heap.size aA cA k ob RB w2 ∧ w2.heap.size = w1.heap.size + 1) := hid ⟨⟨Y1.out.1.on (but_box hb), hc, L.own_below Y1.out.2.1 (but_box hb), Y1.out.2.2, fun g e => (Y1.out.2.1.lt g e).2⟩, by rw [hs]; simp⟩; clear hc hb hs Y1))
  generalize w1.heap.size = g7 at *
  go_upto_region 3 with (first | (go_at_call 5; refine (HP5.out _).mono ?_; rintro e w3 ⟨aB, cB, rfl, hrow, hb⟩; have Y3 : Hid (L1 W ap n cp ot C g7 aA cA k ob RB w3 ∧ w3.ownsRow (g7 + 1) 60 10 (.slice aB k cB) k (rcs RB)) := hid ⟨Y2.out.1.on hb, L.own_mono hrow (Nat.le_of_eq Y2.out.2.symm)⟩; clear hrow hb Y2) | (refine wpList_store_st rfl 36 _ _ rfl w3.heap.size [.slice aB k cB, .bool ob] rfl rfl (heap_alloc_new w3 zpp) size36d rfl rfl ?_; intro w4 hc hb hs; have Y4 : Hid (L2 W ap n cp ot C g7 w3.heap.size aA aB cA cB k ob RB RB w4 ∧ w4.heap.size = w3.heap.size + 1) := hid ⟨⟨Y3.out.1.on (but_box hb), hc, L.own_below Y3.out.2 (but_box hb), Y3.out.1.a7.lt⟩, by rw [hs]; simp⟩; clear hc hb hs Y3))
  generalize w3.heap.size = g10 at *
  go_upto_region 5 with (first | (refine wpList_load_mid rfl 24 _ rfl g7 0 rfl [.slice aA k cA, .bool ob] _ (cel_range Y4.out.1.o.a7) Tryz.underlying24 rfl size36 ?_) | (refine wpList_load_mid rfl 36 _ rfl g10 0 rfl [.slice aB k cB, .bool ob] _ (cel_range Y4.out.1.b10) Tryz.underlying36 rfl size36d ?_) | (go_at_call 6; refine (HS.out _ aA aB cA cB (HE.out _ _ _ _ _ Y4.out.1.o.oA) (HE.out _ _ _ _ _ Y4.out.1.oB)).mono ?_; rintro e w5 ⟨rfl, hb⟩; have Y5 : Hid (L2 W ap n cp ot C g7 g10 aA aB cA cB k ob RB RB w5 ∧ g10 + 1 ≤ w5.heap.size) := hid ⟨Y4.out.1.on hb, by have h1 := hb.size; have h2 := Y4.out.2; omega⟩; clear hb Y4) | (go_at_call 7; refine (HN.out _ _).mono ?_; rintro e w0 ⟨rfl, hw⟩; subst w0))
  go_upto_region 6 with (first | (go_at_call 4; refine (HP4.out _ Y5.out.1.o.z.bl).mono ?_; rintro e w6 ⟨aD, cD, rfl, hrow, hb⟩; have Y6 : Hid (L2 W ap n cp ot C g7 g10 aA aB cA cB k ob RB RB w6 ∧ w6.ownsRow (g10 + 1) 63 10 (.slice aD k cD) k (rcs RB)) := hid ⟨Y5.out.1.on hb, L.own_mono hrow Y5.out.2⟩; clear hrow hb Y5) | (refine wpList_store_st rfl 24 _ _ rfl w6.heap.size [.slice aD k cD, .bool ob] rfl rfl (heap_alloc_new w6 zpo) size36 rfl rfl ?_; intro w7 hc hb hs; have Y7 : Hid (LQ W ap n cp ot C g7 g10 w6.heap.size aA aB aD cA cB cD k ob RB RB RB w7) := hid ⟨Y6.out.1.on (but_box hb), hc, L.own_below Y6.out.2 (but_box hb), Y6.out.1.b10.lt, fun g e => (Y6.out.2.lt g e).2⟩; clear hc hb hs Y6))
  generalize w6.heap.size = g13 at *
  go_upto_region 8 with (first | (refine wpList_load_mid rfl 24 _ rfl g13 0 rfl [.slice aD k cD, .bool ob] _ (cel_range Y7.out.d13) Tryz.underlying24 rfl size36 ?_) | (refine wpList_load_mid rfl 36 _ rfl g10 0 rfl [.slice aB k cB, .bool ob] _ (cel_range Y7.out.t.b10) Tryz.underlying36 rfl size36d ?_) | (go_at_call 6; refine (HS.out _ aD aB cD cB (HE.out _ _ _ _ _ Y7.out.oD) (HE.out _ _ _ _ _ Y7.out.t.oB)).mono ?_; rintro e w8 ⟨rfl, hb⟩; have Y8 := hid (Y7.out.on hb); clear hb Y7))
  have d7 : w8.cell? ⟨g7, 0, none⟩ = some (.slice aA k cA) := Y8.out.t.o.a7.cell 0
  go_upto_region 9 with (first | (go_at_call 8; refine (HM8.out _ _ _ _ _ Y8.out.t.o.oA).mono ?_; rintro e w9 ⟨rfl, hrow, hg⟩; have Y9 := hid (Y8.out.mA hrow hg); clear hrow hg d7 Y8))
  have d13 : w9.cell? ⟨g13, 0, none⟩ = some (.slice aD k cD) := Y9.out.d13.cell 0
  go_upto_region 10 with (first | (go_at_call 8; refine (HM8.out _ _ _ _ _ Y9.out.oD).mono ?_; rintro e wa ⟨rfl, hrow, hg⟩; have Ya := hid (Y9.out.mD hrow hg); clear hrow hg d13 Y9))
  go_upto_region 11 with (first | (go_at_call 9; refine (HG9.out _ _ _ _ _ Ya.out.t.o.oA (by have h1 := Ya.out.t.o.a7.lt; have h2 := Ya.out.t.o.h7; omega)).mono ?_; rintro e wb ⟨aL, cL, rfl, hrL, hrA, hg, hl⟩; have Yb := hid (Ya.out.grow hg hrA hrL hl); clear hrL hrA hg hl Ya))
  go_upto_region 12 with (first | (go_at_call 9; refine (HG9.out _ _ _ _ _ Yb.out.oD (by have h1 := Yb.out.b10.lt; omega)).mono ?_; rintro e wc ⟨aM, cM, rfl, hrM, hrD, hg, hl⟩; have Yc := hid (Yb.out.grow HKM.out.1 HKM.out.2 hg hrD hrM hl); clear hrM hrD hg hl Yb))
  go_upto_region 13 with (first | (go_at_call 4; refine (HP4.out _ Yc.out.1.z.bl).mono ?_; rintro e wd ⟨aE, cE, rfl, hrow, hb⟩; have Yd : Hid (LC W ap n cp ot C g7 g10 aA aB aD aL aM cA cB cD cL cM k ob RB wd ∧ Cel wd g7 24 [.slice aA k cA, .bool ob] ∧ RulesAt wd aE RB ∧ (∀ g, (Value.slice aE k cE).ownBlock = some g → g ≠ g7)) := hid ⟨Yc.out.1.on hb, Yc.out.2.on hb, HE.out _ _ _ _ _ hrow, fun g e => by have h1 := (hrow.lt g e).1; have h2 := Yc.out.2.lt; omega⟩; clear hrow hb Yc) | (refine wpList_store_st rfl 24 _ _ rfl g7 [.slice aE k cE, .bool ob] rfl rfl Yd.out.2.1 size36 rfl rfl ?_; intro we hc hb hs; have Ye : Hid (LC W ap n cp ot C g7 g10 aA aB aD aL aM cA cB cD cL cM k ob RB we ∧ Cel we g7 24 [.slice aE k cE, .bool ob] ∧ RulesAt we aE RB) := hid ⟨Yd.out.1.bt hb, hc, rules_bt Yd.out.2.2.1 hb Yd.out.2.2.2⟩; clear hc hb hs Yd))
  go_upto_region 15 with (first | (refine wpList_load_mid rfl 24 _ rfl g7 0 rfl [.slice aE k cE, .bool ob] _ (cel_range Ye.out.2.1) Tryz.underlying24 rfl size36 ?_) | (refine wpList_load_mid rfl 36 _ rfl g10 0 rfl [.slice aB k cB, .bool ob] _ (cel_range Ye.out.1.b10) Tryz.underlying36 rfl size36d ?_) | (go_at_call 6; refine (HS.out _ aE aB cE cB Ye.out.2.2 Ye.out.1.rB).mono ?_; rintro e wf ⟨rfl, hb⟩; have Yf := hid (Ye.out.1.on hb); have BA : Hid (Bears wf (.slice aA k cA) ⟨#[35]⟩) := hid (bears_of Yf.out.rA HK3.out.1); have BL : Hid (Bears wf (.slice aL (k + 80) cL) ⟨#[35]⟩) := hid (bears_of Yf.out.rL HK3.out.2); have BD : Hid (Bears wf (.slice aD k cD) ⟨#[37]⟩) := hid (bears_of Yf.out.rD HK3.out.1); have BM : Hid (Bears wf (.slice aM (k + 80) cM) ⟨#[37]⟩) := hid (bears_of Yf.out.rM HK3.out.2); clear hb Ye) | (go_at_call 7; refine (HN.out _ _).mono ?_; rintro e w0 ⟨rfl, hw⟩; subst w0) | (go_at_call 10; refine (HB10.out _ _ _ BA.out).mono ?_; rintro e w0 ⟨rfl, hw⟩; subst w0; clear BA) | (go_at_call 10; refine (HB10.out _ _ _ BL.out).mono ?_; rintro e w0 ⟨rfl, hw⟩; subst w0; clear BL) | (go_at_call 10; refine (HB10.out _ _ _ BD.out).mono ?_; rintro e w0 ⟨rfl, hw⟩; subst w0; clear BD) | (go_at_call 10; refine (HB10.out _ _ _ BM.out).mono ?_; rintro e w0 ⟨rfl, hw⟩; subst w0; clear BM))
  have Yg := hid (Yf.out.z.on (Below.refl _ _).drew)
  clear Yf
  refine wp_region_held_drew (S := fun w => L0 W ap n cp ot C w) (by kernel_rfl) Yg.out (fun hHeld => ?_)
  generalize World.drew _ = wg at *
  refine tk 0 ⟨some 108, .load 24 (.tmp 4), 24, "law.go:122", #[], none⟩ (.agg #[.slice ap n cp, .bool ot]) ?_ (hy := yieldsIf_load_mid (by rfl) _ _ rfl _ _ rfl _ _ (fun w hSw => cel_range hSw.p4) Tryz.underlying24 rfl size36)
  simp only [Act.put, List.setIfInBounds_toArray, List.set_cons_zero, List.set_cons_succ]
  refine tk 1 ⟨some 109, .load 30 (.tmp 5), 30, "law.go:122", #[], none⟩ (.agg C.toArray) ?_ (hy := yieldsIf_load_mid (by rfl) _ _ rfl _ _ rfl _ _ (fun w hSw => cel_range hSw.c5) Tryz.underlying30 rfl (by rw [hCl]; exact size40))
  simp only [Act.put, List.setIfInBounds_toArray, List.set_cons_zero, List.set_cons_succ]
  refine wpAnyH_ready (rs := [2]) (by kernel_rfl) (by simp) (AllReadyH.cons (o := ⟨some 110, .call { callee := .value (.func 11), args := #[.tmp 108, .tmp 109], argTypes := #[24, 30] }, 4, "law.go:122", #[⟨0, .data⟩, ⟨1, .data⟩], none⟩) rfl (fun KQ hK => ?_) AllReadyH.nil)
  go_simp
  refine (HJ1.out _ Yg.out.bl).mono ?_
  rintro e wh ⟨rfl, hb⟩
  have Yh := hid (Yg.out.on hb)
  clear hb Yg
  go_wp2_with fail
  refine hK.out _ _ Yh.out (fun hHeld => ?_)
  clear hK KQ
  try simp only [Act.put, List.setIfInBounds_toArray, List.set_cons_zero, List.set_cons_succ]
  refine tk 3 ⟨some 111, .move (.tmp 110), 4, "law.go:122", #[⟨2, .data⟩, ⟨2, .chain⟩], none⟩ (.bool true) ?_
  simp only [Act.put, List.setIfInBounds_toArray, List.set_cons_zero, List.set_cons_succ]
  refine tk 4 ⟨some 112, .load 24 (.tmp 4), 24, "law.go:122", #[⟨3, .guard⟩], some (3, true)⟩ (.agg #[.slice ap n cp, .bool ot]) ?_ (hy := yieldsIf_load_mid (by rfl) _ _ rfl _ _ rfl _ _ (fun w hSw => cel_range hSw.p4) Tryz.underlying24 rfl size36)
  simp only [Act.put, List.setIfInBounds_toArray, List.set_cons_zero, List.set_cons_succ]
  refine tk 6 ⟨some 114, .load 30 (.tmp 5), 30, "law.go:122", #[⟨3, .guard⟩], some (3, true)⟩ (.agg C.toArray) ?_ (hy := yieldsIf_load_mid (by rfl) _ _ rfl _ _ rfl _ _ (fun w hSw => cel_range hSw.c5) Tryz.underlying30 rfl (by rw [hCl]; exact size40))
  simp only [Act.put, List.setIfInBounds_toArray, List.set_cons_zero, List.set_cons_succ]
  refine wpAnyH_ready (rs := [5]) (by kernel_rfl) (by simp) (AllReadyH.cons (o := ⟨some 113, .call { callee := .value (.func 12), args := #[.tmp 112], argTypes := #[24] }, 24, "law.go:122", #[⟨4, .data⟩, ⟨3, .chain⟩, ⟨3, .guard⟩], some (3, true)⟩) rfl (fun KQ hK => ?_) AllReadyH.nil)
  go_simp
  refine (HTu.out _ Yh.out.bl).mono ?_
  rintro e wi ⟨aT, cT, rfl, hra, hb⟩
  have Yi := hid (Yh.out.on hb)
  have RT := hid hra
  clear hb hra Yh
  go_wp2_with fail
  refine hK.out _ _ Yi.out (fun hHeld => ?_)
  clear hK KQ
  try simp only [Act.put, List.setIfInBounds_toArray, List.set_cons_zero, List.set_cons_succ]
  refine wpAnyH_ready (rs := [7]) (by kernel_rfl) (by simp) (AllReadyH.cons (o := ⟨some 115, .call { callee := .value (.func 11), args := #[.tmp 113, .tmp 114], argTypes := #[24, 30] }, 4, "law.go:122", #[⟨5, .data⟩, ⟨6, .data⟩, ⟨5, .chain⟩, ⟨3, .guard⟩], some (3, true)⟩) rfl (fun KQ hK => ?_) AllReadyH.nil)
  go_simp
  refine (HJ2.out _ aT cT Yi.out.bl RT.out).mono ?_
  rintro e wj ⟨rfl, hb⟩
  have Yj := hid (Yi.out.on hb)
  clear hb Yi RT
  go_wp2_with fail
  refine hK.out _ _ Yj.out (fun hHeld => ?_)
  clear hK KQ
  try simp only [Act.put, List.setIfInBounds_toArray, List.set_cons_zero, List.set_cons_succ]
  refine tk 8 ⟨some 116, .pick (.tmp 111) (.tmp 115) (.const (.bool false)), 4, "law.go:122", #[⟨3, .data⟩, ⟨7, .data⟩], none⟩ (.bool true) ?_
  simp only [Act.put, List.setIfInBounds_toArray, List.set_cons_zero, List.set_cons_succ]
  refine wpAnyH_ready (rs := [9]) (by kernel_rfl) (by simp) (AllReadyH.cons (o := ⟨some 6, .assign (.tmp 116), 4, "law.go:122", #[⟨8, .data⟩, ⟨7, .chain⟩, ⟨0, .phase⟩, ⟨1, .phase⟩, ⟨2, .phase⟩, ⟨3, .phase⟩, ⟨4, .phase⟩, ⟨5, .phase⟩, ⟨6, .phase⟩, ⟨7, .phase⟩, ⟨8, .phase⟩], none⟩) rfl (fun KQ hK => ?_) AllReadyH.nil)
  go_simp
  refine hK.out _ _ Yj.out (fun hHeld => ?_)
  clear hK KQ
  try simp only [Act.put, List.setIfInBounds_toArray, List.set_cons_zero, List.set_cons_succ]
  refine wpAnyH_done (by kernel_rfl) ?_ _
  go_wp2_with fail
  go_ret
  exact ⟨rfl, Yj.out.bl⟩
end Go.Proofs.YtbpdmkohihgnjaaGreatDoor
