import Derived.Test.YtdfnbcbnmiohnaaGreatDoorP43
import Derived.Test.YtdfnbcbnmiohnaaGreatDoorP23
import Derived.Test.YtdfnbcbnmiohnaaGreatDoorP14
namespace Go.Proofs.YtdfnbcbnmiohnaaGreatDoor
open Go.RowKit
set_option maxRecDepth 100000
set_option maxHeartbeats 4000000
theorem lay8_whole {d : DS} (h : d.m.Whole) (s : Int) (L : List Int) : ∀ j, (d.lay8 s L j).m.Whole
  | 0 => h
  | j + 1 => (lay8_whole h s L j).write _ _ _ _
theorem lay8_at (d : DS) (s : Int) (L : List Int) (x : Bool) (q : Int) : ∀ j, (d.lay8 s L j).m.at x q = d.m.at x q
  | 0 => rfl
  | j + 1 => (MS.write_at _ _ _ _ _ _ _).trans (lay8_at d s L x q j)
theorem lay8_E (d : DS) (s : Int) (L : List Int) : ∀ j, (d.lay8 s L j).E = d.E ∧ (d.lay8 s L j).b = d.b ∧ (d.lay8 s L j).m.ns = d.m.ns
  | 0 => ⟨rfl, rfl, rfl⟩
  | j + 1 => ⟨(lay8_E d s L j).1, (lay8_E d s L j).2.1, (MS.write_ns _ _ _ _ _).trans (lay8_E d s L j).2.2⟩
theorem lay8_word {d : DS} (h : d.m.Whole) (s : Int) (L : List Int) (hs : d.there s = true) (o : Int) : ∀ j, j ≤ 8 → (d.lay8 s L j).m.word true s o = if 3 ≤ o ∧ o < 3 + (j : Int) then L.getD (o - 3).toNat 0 else d.m.word true s o
  | 0, _ => by rw [if_neg (by omega)]; rfl
  | j + 1, hj => by
    have hi := lay8_word h s L hs o j (by omega)
    obtain ⟨s0, s1, s2⟩ := there_lt hs
    have hat : (d.lay8 s L j).m.at true s = some s.toNat := by rw [lay8_at]; exact at_sec s0 (by omega)
    by_cases e : o = 3 + (j : Int)
    · subst e
      rw [if_pos (by omega)]
      show ((d.lay8 s L j).m.write true s (3 + (j : Int)) (L.getD j 0)).word true s (3 + (j : Int)) = _
      rw [MS.word_same (lay8_whole h s L j).ns0 (lay8_whole h s L j).full hat (by unfold In; omega)]
      congr 1
      omega
    · show ((d.lay8 s L j).m.write true s (3 + (j : Int)) (L.getD j 0)).word true s o = _
      rw [MS.write_word (lay8_whole h s L j).ns0 _ _ _ _ _ _ _ (fun x => e x.2.2.symm), hi]
      by_cases e2 : 3 ≤ o ∧ o < 3 + (j : Int)
      · rw [if_pos e2, if_pos (by omega)]
      · rw [if_neg e2, if_neg (by omega)]
theorem msr_word {d : DS} (h : d.m.Whole) (s : Int) (L : List Int) (hs : d.there s = true) (o : Int) : (d.msr s L).m.word true s o = if 3 ≤ o ∧ o < 11 then L.getD (o - 3).toNat 0 else if 11 ≤ o ∧ o < 37 then 0 else d.m.word true s o := by
  have hs8 : (d.lay8 s L 8).there s = true := by unfold DS.there at hs ⊢; rw [(lay8_E d s L 8).2.2]; exact hs
  unfold DS.msr
  rw [dig_word (lay8_whole h s L 8) s zz hs8 o 26 (Nat.le_refl _), lay8_word h s L hs o 8 (Nat.le_refl _)]
  by_cases e1 : 3 ≤ o ∧ o < 11
  · rw [if_pos e1, if_neg (by omega), if_pos (by omega)]
  · rw [if_neg e1]
    by_cases e2 : 11 ≤ o ∧ o < 37
    · rw [if_pos e2, if_pos (by omega)]
      exact zdig _
    · rw [if_neg e2, if_neg (by omega), if_neg (by omega)]
theorem msr_E (d : DS) (s : Int) (L : List Int) : (d.msr s L).E = d.E ∧ (d.msr s L).m.ns = d.m.ns :=
  ⟨(dig_E _ _ _ 26).1.trans (lay8_E d s L 8).1, (dig_E _ _ _ 26).2.2.trans (lay8_E d s L 8).2.2⟩
structure LM (d : DS) (L : List Int) : Prop where
  E : d.E = [En.zero, ⟨1, 1, 1, 1, false⟩, En.zero, ⟨3, 1, 0, 0, false⟩]
  ns : d.m.ns = 4
  U : d.m.U
  wh : d.m.Whole
  st : d.st 1 = H.saveOf L
  w0 : d.m.word true 1 0 = 3
  w1 : d.m.word true 1 1 = 0
theorem LM.there {d : DS} {L : List Int} (h : LM d L) : d.there 1 = true := by unfold DS.there; rw [h.ns]; decide
theorem LM.ent {d : DS} {L : List Int} (h : LM d L) : d.ent 1 = ⟨1, 1, 1, 1, false⟩ := by
  unfold DS.ent
  rw [if_pos h.there]
  unfold DS.at
  rw [h.E]
  rfl
theorem LM.ext {d : DS} {L : List Int} (h : LM d L) (o : Q.MOp) (ho : H.Wds o.wds) (hl : L.length + o.wds.length ≤ 36028797018963968) : LM (d.ext 1 o) (L ++ o.wds) := by
  have hk : H.LoadOk (d.st 1) := by rw [h.st]; exact Q.save_ok L (by omega)
  have e1 : d.exE 1 = 0 := by unfold DS.exE; rw [if_pos hk]
  have e2 : d.exL 1 o = H.saveOf (L ++ o.wds) := by unfold DS.exL; rw [if_pos hk, h.st, Q.exS_save L o.wds hl]
  have e3 : d.ext 1 o = d.dig 1 (H.saveOf (L ++ o.wds)) 26 := by unfold DS.ext; rw [if_pos e1, e2]
  have hw : H.Wds (H.saveOf (L ++ o.wds)) := by rw [← e2]; unfold DS.exL; rw [if_pos hk]; exact Q.exS_wds (DS.st_wds h.U 1) ho
  rw [e3]
  obtain ⟨d1, _, d3⟩ := dig_E d 1 (H.saveOf (L ++ o.wds)) 26
  refine ⟨d1.trans h.E, d3.trans h.ns, (fit_dig d 1 _ hw 26).U h.U, dig_whole h.wh _ _ 26, dig_st h.wh 1 _ h.there (H.saveOf_length _), ?_, ?_⟩
  · rw [dig_word h.wh 1 _ h.there 0 26 (Nat.le_refl _), if_neg (by decide)]; exact h.w0
  · rw [dig_word h.wh 1 _ h.there 1 26 (Nat.le_refl _), if_neg (by decide)]; exact h.w1
theorem LM.fi {d : DS} {L : List Int} (h : LM d L) (hl : L.length ≤ 36028797018963968) : d.fiC 1 = 0 ∧ d.fnL 1 = H.sumW L ∧ d.saE 1 = 0 := by
  have hk : H.LoadOk (d.st 1) := by rw [h.st]; exact Q.save_ok L hl
  have e1 : d.fnE 1 = 0 := by unfold DS.fnE; rw [if_pos hk]
  have e2 : d.fnL 1 = H.sumW L := by unfold DS.fnL; rw [if_pos hk, h.st, Q.fiS_save]
  have e3 : d.saE 1 = 0 := by unfold DS.saE; rw [h.ns, h.ent]; rfl
  refine ⟨?_, e2, e3⟩
  unfold DS.fiC
  rw [e3, h.ent, e1]
  rfl
end Go.Proofs.YtdfnbcbnmiohnaaGreatDoor
namespace Go.Proofs.YtdfnbcbnmiohnaaGreatDoor.Q
open Go.RowKit
open Go.Proofs.YtdfnbcbnmiohnaaGreatDoor.H
set_option maxHeartbeats 4000000
set_option maxRecDepth 100000
theorem HO.butG {W w w' : World} {v : Value} {l : List Ov} {G : List Nat} (h : HO W w v l) (hb : ButL G w w') (hG : ∀ k ∈ G, W.heap.size ≤ k) (hT : ∀ k ∈ G, ∀ t cur, w.heap[k]? = some (.cells cur t (0, 0)) → t ≠ 53 ∧ t ≠ 43) : HO W w' v l := by
  have key : ∀ {e s n : Nat} {x : Value} {L : List Value}, (e = 53 ∨ e = 43) → w.ownsRow W.heap.size e s x n L → w'.ownsRow W.heap.size e s x n L := fun he h => by
    refine ⟨h.1, h.2.imp id ?_⟩
    rintro ⟨g, cap, cur, e1, h1, h2, h3⟩
    refine ⟨g, cap, cur, e1, h1, (hb.block g (Array.getElem?_eq_some_iff.1 h2).1 (fun hm => ?_)).trans h2, h3⟩
    have := hT g hm _ _ h2
    rcases he with rfl | rfl
    · exact this.1 rfl
    · exact this.2 rfl
  exact ⟨key (.inl rfl) h.own, h.below.trans (hb.below hG h.below.size), fun x hx => key (.inr rfl) (h.ws x hx), h.apart⟩
end Go.Proofs.YtdfnbcbnmiohnaaGreatDoor.Q
namespace Go.Proofs.YtdfnbcbnmiohnaaGreatDoor
open Go.RowKit
set_option maxHeartbeats 8000000
set_option maxRecDepth 100000
theorem DB.types {w : World} {p : Dp} {d : DS} (h : DB w p d) : ∀ k ∈ p.all, ∀ cur, w.heap[k]? ≠ some (.cells cur 53 (0, 0)) := fun k hk cur e => by
  have hc : Cel w k 53 cur.toList := by unfold Cel; simpa using e
  simp only [Dp.all, List.mem_cons] at hk
  rcases hk with rfl | rfl | hk
  · exact absurd (hc.ty h.cel) (by decide)
  · exact absurd (hc.ty h.wds) (by decide)
  · rcases h.mem.ty_w k hk 53 _ hc with e | e | e <;> exact absurd e (by decide)
theorem OD.grown {W0 w w' : World} {p : Dp} {d : DS} {v : Value} {n : Nat} {L : List Value} (h : OD W0 w p d) (hO : w.ownsRow W0.heap.size 53 3 v n L) (hg : w.grownBy w' v.ownBlock) : OD W0 w' p d := by
  rcases hO.2 with ⟨ex, _⟩ | ⟨b, cap, cur, ex, hb, h2, _⟩
  · have hB : ButL [] w w' := ⟨hg.os, hg.tape, hg.output, hg.size, fun k hk _ => hg.block k hk (by rw [ex]; intro e; cases e)⟩
    exact ⟨h.db.frame hB (by simp), h.bl.trans (hB.below (by simp) h.bl.size), h.own⟩
  · have hB : ButL [b] w w' := ⟨hg.os, hg.tape, hg.output, hg.size, fun k hk hn => hg.block k hk (by rw [ex]; intro e; injection e with e; exact hn (by rw [show k = b from e]; simp))⟩
    exact ⟨h.db.frame hB (fun k hk hm => by rw [List.mem_singleton] at hm; subst hm; exact h.db.types k hk cur h2), h.bl.trans (hB.below (by simpa using hb) h.bl.size), h.own⟩
theorem HO_f {W w w' : World} {p : Dp} {d : DS} {v : Value} {l : List Q.Ov} (h : Q.HO W w v l) (ho : OD W w p d) (hb : ButL p.f.w w w') : Q.HO W w' v l :=
  h.butG hb (fun k hk => ho.own k (p.w_all' k (p.fw_w k hk))) (fun k hk t cur e => by
    have hc : Cel w k t cur.toList := by unfold Cel; simpa using e
    rcases ho.db.mem.ty_w k (Fp.w_all hk) t _ hc with rfl | rfl | rfl <;> decide)
structure Oq where
  k : Int
  a : Int
  b : Int
  t : Int
  f : Int
  v : Int
instance : Inhabited Oq := ⟨⟨0, 0, 0, 0, 0, 0⟩⟩
def Oq.cs (x : Oq) : List Value := opC x.k x.a x.b x.t x.f x.v
structure Oq.Ok (x : Oq) : Prop where
  a0 : 0 ≤ x.a
  a1 : x.a < 4294967296
  b0 : 0 ≤ x.b
  b1 : x.b < 4294967296
  v0 : 0 ≤ x.v
  v1 : x.v < 4294967296
structure OpsAt (W : World) (ao : Option Addr) (n : Nat) (q : Nat → Oq) : Prop where
  at_ : 0 < n → ∃ g off, ao = some ⟨g, off, none⟩ ∧ g < W.heap.size ∧ ∀ j, j < n → W.rangeAt g (off + j * 6) (q j).cs
  v : ∀ j, j < n → (q j).Ok
theorem stepO_wds (t v : Int) (v0 : 0 ≤ v) (v1 : v < 4294967296) : H.Wds (stepO t v).wds ∧ (stepO t v).wds.length ≤ 1026 := by
  have h4 : 0 ≤ t % 4 := Int.emod_nonneg t (by decide)
  have h5 : t % 4 < 4 := Int.emod_lt_of_pos t (by decide)
  constructor
  · show H.Wds (wi t 1 4 :: v :: opW (wi t 1 4) v)
    refine Q.wds_cons (by unfold wi; omega) (by unfold wi; omega) (Q.wds_cons v0 v1 (fun i => ?_))
    unfold opW
    split
    · rw [List.getD_eq_getElem?_getD, List.getElem?_replicate]
      split
      · exact ⟨v0, v1⟩
      · decide
    · simp
  · show (wi t 1 4 :: v :: opW (wi t 1 4) v).length ≤ 1026
    unfold opW
    split <;> simp
end Go.Proofs.YtdfnbcbnmiohnaaGreatDoor
namespace Go.Proofs.YtdfnbcbnmiohnaaGreatDoor
open Go.RowKit
set_option maxRecDepth 100000
set_option maxHeartbeats 8000000
attribute [-simp] Tryz.isAgg44 Tryz.sizeOf44 Tryz.zeroValue44 Tryz.isAgg55 Tryz.sizeOf55 Tryz.zeroValue55
def q0 : DS := DS.fresh (MS.new 4 1)
def q1 : DS := q0.takeSpace 1 3
def q2 : DS := q1.dig 1 (H.saveOf []) 26
structure LQ (W w : World) (p : Dp) (lv : Value) (l : List Q.Ov) (d : DS) : Prop where
  o : OD W w p d
  lm : LM d (Q.enc (l.map Q.Ov.o))
  ho : Q.HO W w lv l
  ok : ∀ x ∈ l.map Q.Ov.o, x.Ok
  len : (Q.enc (l.map Q.Ov.o)).length ≤ 1026 * l.length
theorem LQ.on {W w w' : World} {p : Dp} {lv : Value} {l : List Q.Ov} {d : DS} (h : LQ W w p lv l d) (hb : Below w.heap.size w w') : LQ W w' p lv l d := ⟨h.o.on hb, h.lm, h.ho.on hb, h.ok, h.len⟩
theorem LQ.ext {W w w' : World} {p : Dp} {lv : Value} {l : List Q.Ov} {d d' : DS} (h : LQ W w p lv l d) (hd : DB w' p d') (hb : ButL p.f.w w w') : OD W w' p d' ∧ Q.HO W w' lv l := ⟨h.o.stepf hd hb, HO_f h.ho h.o hb⟩
end Go.Proofs.YtdfnbcbnmiohnaaGreatDoor
