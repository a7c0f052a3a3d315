import Derived.Test.YtgbpbfnpeeciaaaP34
namespace Go.Proofs.Ytgbpbfnpeeciaaa
open Go.RowKit
structure MF (m : MS) : Prop where
  ns : m.ns = 8
  len : m.P.length = 12
  full : ∀ k, k < 12 → (m.p k).length = 1024
  U : m.U
theorem MF.wc {m : MS} (h : MF m) (c : Int) : MF (m.wc c) := ⟨h.ns, h.len, h.full, h.U⟩
theorem MF.read {m : MS} (h : MF m) (s : Bool) (p o : Int) : MF (m.read s p o) := by rw [MS.read_wc]; exact h.wc _
theorem MS.p_setL (m : MS) (k i : Nat) (L : List Int) (c : Int) : (MS.mk m.ns (m.P.set k L) c).p i = if k = i ∧ i < m.P.length then L else m.p i := by
  unfold MS.p
  simp only [List.getD_eq_getElem?_getD, List.getElem?_set]
  by_cases h : k = i
  · subst h
    by_cases h2 : k < m.P.length <;> simp [h2]
  · simp [h]
theorem MF.set {m : MS} (h : MF m) (k : Nat) (L : List Int) (hL : L.length = 1024) (hu : ∀ j, 0 ≤ wd L j ∧ wd L j < 4294967296) (c : Int) : MF ⟨m.ns, m.P.set k L, c⟩ := by
  refine ⟨h.ns, by simpa using h.len, fun i hi => ?_, fun i j => ?_⟩
  · rw [MS.p_setL]
    split
    · exact hL
    · exact h.full i hi
  · rw [MS.p_setL]
    split
    · exact hu j
    · exact h.U i j
theorem wd_zs (j : Nat) : wd zs j = 0 := by
  unfold wd zs
  rw [List.getD_eq_getElem?_getD, List.getElem?_replicate]
  split <;> rfl
theorem MF.new : MF (MS.new 8 4) := by
  refine ⟨rfl, by simp [MS.new], fun k hk => ?_, MS.U.new 8 4⟩
  unfold MS.p MS.new
  rw [rep_p k 12 hk]
  exact zs_len
theorem MF.zero {m : MS} (h : MF m) (s : Bool) (p : Int) : MF (m.zero s p) := by
  unfold MS.zero
  split
  · exact h
  · exact (h.wc _).set _ zs zs_len (fun j => by rw [wd_zs]; decide) _
theorem MF.zall {m : MS} (h : MF m) : ∀ k, MF (m.zall k)
  | 0 => h
  | k + 1 => (MF.zall h k).zero _ _
theorem MF.write {m : MS} (h : MF m) (s : Bool) (p o v : Int) (v0 : 0 ≤ v) (v1 : v < 4294967296) : MF (m.write s p o v) := by
  have hu := h.U.write s p o v v0 v1
  unfold MS.write at hu ⊢
  cases he : m.at s p with
  | none => exact h
  | some k =>
    rw [he] at hu
    simp only at hu ⊢
    by_cases ho : In o
    · rw [if_pos ho] at hu ⊢
      refine ⟨h.ns, by simpa using h.len, fun i hi => ?_, hu⟩
      show ((MS.mk m.ns (m.P.set k ((m.p k).set o.toNat v)) _).p i).length = 1024
      rw [MS.p_setL]
      split
      · rename_i hc; rw [List.length_set, hc.1]; exact h.full i hi
      · exact h.full i hi
    · rw [if_neg ho]; exact h
theorem MF.atS {m : MS} (h : MF m) (q : Int) (h0 : 0 ≤ q) (h1 : q < 8) : m.at true q = some q.toNat := by
  unfold MS.at
  rw [if_pos h0, h.ns]
  simp only [if_true]
  rw [if_pos (by omega)]
theorem MF.self {m : MS} (h : MF m) (q o v : Int) (h0 : 0 ≤ q) (h1 : q < 8) (o0 : 0 ≤ o) (o1 : o < 1024) : (m.write true q o v).word true q o = v := by
  have ha := h.atS q h0 h1
  unfold MS.word
  rw [MS.write_at, ha]
  simp only
  rw [if_pos ⟨o0, o1⟩]
  unfold MS.write
  rw [ha]
  simp only
  rw [if_pos ⟨o0, o1⟩]
  show wd ((MS.mk m.ns (m.P.set q.toNat _) _).p q.toNat) o.toNat = v
  rw [MS.p_setL, if_pos ⟨rfl, by rw [h.len]; omega⟩, wd_set, if_pos ⟨rfl, by rw [h.full q.toNat (by omega)]; omega⟩]
theorem MF.other {m : MS} (h : MF m) (s : Bool) (p o v : Int) (s' : Bool) (p' o' : Int) (hn : ¬ (s = s' ∧ p = p' ∧ o = o')) : (m.write s p o v).word s' p' o' = m.word s' p' o' := MS.write_word (by rw [h.ns, h.len]; decide) s p o v s' p' o' hn
theorem MF.z {m : MS} (_h : MF m) (hz : ∀ k j, wd (m.p k) j = 0) (s : Bool) (p o : Int) : m.word s p o = 0 := by
  unfold MS.word
  split
  · rfl
  · split
    · exact hz _ _
    · rfl
theorem zero_z {m : MS} (hz : ∀ k j, wd (m.p k) j = 0) (s : Bool) (p : Int) : ∀ k j, wd ((m.zero s p).p k) j = 0 := by
  intro k j
  unfold MS.zero
  split
  · exact hz k j
  · show wd ((MS.mk m.ns (m.P.set _ zs) _).p k) j = 0
    rw [MS.p_setL]
    split
    · exact wd_zs j
    · exact hz k j
theorem zall_z {m : MS} (hz : ∀ k j, wd (m.p k) j = 0) : ∀ n k j, wd ((m.zall n).p k) j = 0
  | 0 => hz
  | n + 1 => zero_z (zall_z hz n) _ _
theorem new_z : ∀ k j, wd ((MS.new 8 4).p k) j = 0 := by
  intro k j
  unfold MS.p MS.new
  rw [List.getD_eq_getElem?_getD, List.getElem?_replicate]
  split
  · exact wd_zs j
  · simp [wd]
end Go.Proofs.Ytgbpbfnpeeciaaa
namespace Go.Proofs.Ytgbpbfnpeeciaaa
open Go.RowKit
def E0 : List En := [⟨1, 0, 4, 1, false⟩, ⟨3, 0, 0, 0, false⟩, ⟨4, 0, 0, 0, false⟩, ⟨4, 0, 0, 0, false⟩, ⟨5, 0, 0, 0, false⟩, En.zero, En.zero, En.zero]
structure Inv (d : DS) (G : Int → Int → Int) : Prop where
  E : d.E = E0
  mf : MF d.m
  w0 : d.m.word true 0 0 = 1
  w1 : ∀ i : Int, 0 ≤ i → i < 256 → d.m.word true 1 i = if i = 0 then 513 else if i = 5 then 769 else 0
  t : ∀ q j : Int, (q = 2 ∨ q = 3) → 0 ≤ j → j < 1024 → d.m.word true q j = G q j
def upd (G : Int → Int → Int) (q j v : Int) : Int → Int → Int := fun a b => if a = q ∧ b = j then v else G a b
variable {d : DS} {G : Int → Int → Int}
theorem Inv.wc (h : Inv d G) (c : Int) : Inv (d.wc c) G := ⟨h.E, h.mf.wc c, h.w0, h.w1, h.t⟩
theorem Inv.rd (h : Inv d G) (a b : Int) : Inv (d.rd a b) G := by rw [DS.rd_wc]; exact h.wc _
theorem Inv.wr (h : Inv d G) (q j v : Int) (hq : q = 2 ∨ q = 3) (j0 : 0 ≤ j) (j1 : j < 1024) (v0 : 0 ≤ v) (v1 : v < 4294967296) : Inv (d.wr q j v) (upd G q j v) := by
  refine ⟨h.E, h.mf.write _ _ _ _ v0 v1, ?_, fun i i0 i1 => ?_, fun a b ha b0 b1 => ?_⟩
  · exact (h.mf.other true q j v true 0 0 (by omega)).trans h.w0
  · exact (h.mf.other true q j v true 1 i (by omega)).trans (h.w1 i i0 i1)
  · unfold upd
    by_cases hc : a = q ∧ b = j
    · obtain ⟨rfl, rfl⟩ := hc
      rw [if_pos ⟨rfl, rfl⟩]
      exact h.mf.self a b v (by omega) (by omega) j0 j1
    · rw [if_neg hc]
      exact (h.mf.other true q j v true a b (by omega)).trans (h.t a b ha b0 b1)
theorem Inv.tn (h : Inv d G) (q j v e : Int) (hq : q = 2 ∨ q = 3) (j0 : 0 ≤ j) (j1 : j < 1024) (v0 : 0 ≤ v) (v1 : v < 4294967296) : Inv (d.tn q j v e) (if e = 0 then upd G q j v else G) := by
  unfold DS.tn
  split
  · exact (h.rd q j).wr q j v hq j0 j1 v0 v1
  · exact h.rd q j
theorem Inv.ent (h : Inv d G) (q : Int) (h0 : 0 ≤ q) (h1 : q < 8) : d.ent q = E0.getD q.toNat En.zero ∧ d.entE q = 0 := by
  have ht : d.there q = true := decide_eq_true ⟨h0, by rw [h.mf.ns]; exact h1⟩
  unfold DS.ent DS.entE DS.at
  rw [if_pos ht, if_pos ht, h.E]
  exact ⟨rfl, rfl⟩
theorem Inv.own (h : Inv d G) (s q k : Int) (h0 : 0 ≤ q) (h1 : q < 8) : d.own s q k = ((E0.getD q.toNat En.zero).t == k && (E0.getD q.toNat En.zero).o == s) := by
  unfold DS.own
  rw [(h.ent q h0 h1).1]
theorem Inv.fst (h : Inv d G) : d.fst 0 = 1 := h.w0
theorem Inv.preE (h : Inv d G) : d.preE 0 = 0 := by
  unfold DS.preE
  rw [(h.ent 0 (by decide) (by decide)).1, (h.ent 0 (by decide) (by decide)).2]
  decide
theorem Inv.folE (h : Inv d G) : d.folE 0 = 0 := by
  unfold DS.folE
  rw [h.preE, h.fst, h.own 0 1 3 (by decide) (by decide)]
  decide
theorem Inv.folD (h : Inv d G) : Inv (d.folD 0) G := by
  unfold DS.folD
  rw [if_pos h.preE]
  exact h.rd 0 0
theorem Inv.isS (h : Inv d G) : d.isS 0 513 = true ∧ d.isS 0 769 = true ∧ d.isS 0 0 = false := by
  unfold DS.isS
  rw [show pf 513 = 2 by decide, show pf 769 = 3 by decide, show pf 0 = 0 by decide, h.own 0 2 4 (by decide) (by decide), h.own 0 3 4 (by decide) (by decide), h.own 0 0 4 (by decide) (by decide)]
  decide
def tbl (va : Int) : Int := if spI va = 0 then 2 else 3
def HasT (va : Int) : Prop := spI va = 0 ∨ spI va = 5
instance (va : Int) : Decidable (HasT va) := by unfold HasT; exact inferInstance
theorem tbl_23 (va : Int) : tbl va = 2 ∨ tbl va = 3 := by unfold tbl; split <;> simp
theorem sp_range {va : Int} (v0 : 0 ≤ va) (h : spE va = 0) : 0 ≤ spI va ∧ spI va < 256 ∧ 0 ≤ spJ va ∧ spJ va < 1024 := by
  unfold spE at h
  split at h
  · rename_i hv
    have hv2 := hv
    unfold VaOk at hv2
    unfold spI spJ
    rw [if_pos hv, if_pos hv]
    omega
  · exact absurd h (by decide)
theorem spE_cases (va : Int) : spE va = 0 ∨ spE va = 91 := by unfold spE; split <;> simp
theorem Inv.w1_va (h : Inv d G) {va : Int} (v0 : 0 ≤ va) (hs : spE va = 0) : d.w1 0 va = if spI va = 0 then 513 else if spI va = 5 then 769 else 0 := by
  obtain ⟨a, b, _⟩ := sp_range v0 hs
  unfold DS.w1
  rw [h.fst]
  exact h.w1 _ a b
theorem Inv.isT (h : Inv d G) {va : Int} (v0 : 0 ≤ va) (hs : spE va = 0) : d.isS 0 (d.w1 0 va) = decide (HasT va) := by
  obtain ⟨a, b, c⟩ := h.isS
  rw [h.w1_va v0 hs]
  unfold HasT
  by_cases h0 : spI va = 0
  · rw [if_pos h0, a]; simp [h0]
  · by_cases h5 : spI va = 5
    · rw [if_neg h0, if_pos h5, b]; simp [h5]
    · rw [if_neg h0, if_neg h5, c]; simp [h0, h5]
theorem Inv.pfT (h : Inv d G) {va : Int} (v0 : 0 ≤ va) (hs : spE va = 0) (ht : HasT va) : pf (d.w1 0 va) = tbl va := by
  rw [h.w1_va v0 hs]
  unfold tbl
  rcases ht with h0 | h5
  · rw [if_pos h0, if_pos h0]; decide
  · rw [if_neg (by omega), if_pos h5, if_neg (by omega)]; decide
theorem Inv.fndE (h : Inv d G) {va : Int} (v0 : 0 ≤ va) : d.fndE 0 va = if spE va = 0 then (if HasT va then 0 else 141) else 91 := by
  unfold DS.fndE
  rw [h.folE]
  simp only [ne_eq, not_true_eq_false, if_false]
  rcases spE_cases va with hs | hs
  · rw [hs, h.isT v0 hs]
    by_cases ht : HasT va <;> simp [ht]
  · rw [hs]; simp
theorem Inv.fndD (h : Inv d G) (va : Int) : Inv (d.fndD 0 va) G := by
  unfold DS.fndD
  split
  · exact h.folD
  · split
    · exact h.folD
    · exact h.folD.rd _ _
theorem Inv.w2 (h : Inv d G) {va : Int} (v0 : 0 ≤ va) (hs : spE va = 0) (ht : HasT va) : d.w2 0 va = G (tbl va) (spJ va) := by
  obtain ⟨_, _, c, e⟩ := sp_range v0 hs
  unfold DS.w2
  rw [h.pfT v0 hs ht]
  exact h.t _ _ (tbl_23 va) c e
theorem enc_range (m : Mp) : 0 ≤ m.enc ∧ m.enc < 4294967296 := by
  unfold Mp.enc Mp.err Mp.code
  by_cases hp : Pg m.p
  · obtain ⟨a, b⟩ := hp
    have h1 : 0 ≤ b2 m.s 2 ∧ b2 m.s 2 ≤ 2 := by unfold b2; split <;> omega
    have h2 : 0 ≤ b2 m.wr 4 ∧ b2 m.wr 4 ≤ 4 := by unfold b2; split <;> omega
    have h3 : 0 ≤ b2 m.ex 8 ∧ b2 m.ex 8 ≤ 8 := by unfold b2; split <;> omega
    split <;> omega
  · rw [if_neg hp, if_neg (by decide)]; decide
theorem filW_range (x : Int) (m : Mp) : 0 ≤ filW x m.enc ∧ filW x m.enc < 4294967296 := by
  unfold filW
  split
  · exact enc_range m
  · decide
theorem Inv.putE (h : Inv d G) {va : Int} (v0 : 0 ≤ va) (m : Mp) : d.putE 0 va m = if spE va = 0 then (if HasT va then filE (G (tbl va) (spJ va)) m.err else 141) else 91 := by
  unfold DS.putE
  rw [h.fndE v0]
  by_cases hs : spE va = 0
  · by_cases ht : HasT va
    · rw [h.w2 v0 hs ht]; simp [hs, ht]
    · simp [hs, ht]
  · simp [hs]
theorem Inv.put (h : Inv d G) {va : Int} (v0 : 0 ≤ va) (m : Mp) : Inv (d.put 0 va m) (if d.putE 0 va m = 0 then upd G (tbl va) (spJ va) m.enc else G) := by
  rw [h.putE v0]
  unfold DS.put
  rw [h.fndE v0]
  by_cases hs : spE va = 0
  · by_cases ht : HasT va
    · obtain ⟨_, _, c, e⟩ := sp_range v0 hs
      simp only [hs, ht, if_true]
      rw [h.w2 v0 hs ht, h.pfT v0 hs ht]
      have hr := filW_range (G (tbl va) (spJ va)) m
      have := (h.fndD va).tn (tbl va) (spJ va) (filW (G (tbl va) (spJ va)) m.enc) (filE (G (tbl va) (spJ va)) m.err) (tbl_23 va) c e hr.1 hr.2
      by_cases hf : filE (G (tbl va) (spJ va)) m.err = 0
      · rw [if_pos hf] at this ⊢
        have hx : G (tbl va) (spJ va) = 0 := by
          unfold filE at hf
          by_cases hx : G (tbl va) (spJ va) = 0
          · exact hx
          · rw [if_neg hx] at hf; exact absurd hf (by decide)
        rw [show filW (G (tbl va) (spJ va)) m.enc = m.enc by unfold filW; rw [if_pos hx]] at this
        rw [show filW (G (tbl va) (spJ va)) m.enc = m.enc by unfold filW; rw [if_pos hx]]
        exact this
      · rw [if_neg hf] at this ⊢
        exact this
    · simp only [hs, ht, if_true, if_false, Int.reduceEq]
      exact h.fndD va
  · simp only [hs, if_false, Int.reduceEq]
    exact h.fndD va
theorem Inv.cutE (h : Inv d G) {va : Int} (v0 : 0 ≤ va) : d.cutE 0 va = if spE va = 0 then (if HasT va then empE (G (tbl va) (spJ va)) else 141) else 91 := by
  unfold DS.cutE
  rw [h.fndE v0]
  by_cases hs : spE va = 0
  · by_cases ht : HasT va
    · rw [h.w2 v0 hs ht]; simp [hs, ht]
    · simp [hs, ht]
  · simp [hs]
theorem Inv.cut (h : Inv d G) {va : Int} (v0 : 0 ≤ va) : Inv (d.cut 0 va) (if d.cutE 0 va = 0 then upd G (tbl va) (spJ va) 0 else G) := by
  rw [h.cutE v0]
  unfold DS.cut
  rw [h.fndE v0]
  by_cases hs : spE va = 0
  · by_cases ht : HasT va
    · obtain ⟨_, _, c, e⟩ := sp_range v0 hs
      simp only [hs, ht, if_true]
      rw [h.w2 v0 hs ht, h.pfT v0 hs ht]
      exact (h.fndD va).tn (tbl va) (spJ va) 0 (empE (G (tbl va) (spJ va))) (tbl_23 va) c e (by decide) (by decide)
    · simp only [hs, ht, if_true, if_false, Int.reduceEq]
      exact h.fndD va
  · simp only [hs, if_false, Int.reduceEq]
    exact h.fndD va
theorem Inv.look (h : Inv d G) (va : Int) : Inv (d.look 0 va) G := by
  unfold DS.look
  split
  · exact (h.fndD va).rd _ _
  · exact h.fndD va
end Go.Proofs.Ytgbpbfnpeeciaaa
namespace Go.Proofs.Ytgbpbfnpeeciaaa
open Go.RowKit
set_option maxRecDepth 100000
theorem ent8 {d : DS} {L : List En} (hn : d.m.ns = 8) (hE : d.E = L) (q : Int) (h0 : 0 ≤ q) (h1 : q < 8) : d.ent q = L.getD q.toNat En.zero ∧ d.entE q = 0 := by
  have ht : d.there q = true := decide_eq_true ⟨h0, by rw [hn]; exact h1⟩
  unfold DS.ent DS.entE DS.at
  rw [if_pos ht, if_pos ht, hE]
  exact ⟨rfl, rfl⟩
def dB0 : DS := DS.fresh (MS.new 8 4)
def dB1 : DS := dB0.takeSpace 0 1
def dB2 : DS := dB1.take 2 4 0
def dB3 : DS := dB2.take 3 4 0
def dB4 : DS := dB3.take 4 5 0
def dB5 : DS := dB4.add 0 0 2
def dB6 : DS := dB5.add 0 5 3
theorem dB0_m : dB0.m = (MS.new 8 4).zall 8 := rfl
theorem dB0_f : MF dB0.m := MF.new.zall 8
theorem dB0_E : dB0.E = List.replicate 8 En.zero := rfl
theorem dB0_b : dB0.b = 0 := rfl
theorem bear0 : dB0.bearE 0 1 = 0 := by
  unfold DS.bearE
  rw [(ent8 dB0_f.ns dB0_E 0 (by decide) (by decide)).1, (ent8 dB0_f.ns dB0_E 0 (by decide) (by decide)).2, (ent8 dB0_f.ns dB0_E 1 (by decide) (by decide)).1, (ent8 dB0_f.ns dB0_E 1 (by decide) (by decide)).2, dB0_b]
  decide
theorem dB1_eq : dB1 = dB0.space 0 1 := by unfold dB1 DS.takeSpace; rw [if_pos bear0]
theorem dB1_E : dB1.E = [⟨1, 0, 1, 1, false⟩, ⟨3, 0, 0, 0, false⟩, En.zero, En.zero, En.zero, En.zero, En.zero, En.zero] := by rw [dB1_eq]; rfl
theorem dB1_m : dB1.m = dB0.m.born 0 1 0 := by rw [dB1_eq]; rfl
theorem dB1_f : MF dB1.m := by
  rw [dB1_m]
  exact ((dB0_f.write _ _ _ _ (by decide) (by decide)).write _ _ _ _ (by decide) (by decide)).write _ _ _ _ (by decide) (by decide)
theorem tk2 : dB1.takeE 2 4 0 = 0 := by
  unfold DS.takeE DS.more
  rw [(ent8 dB1_f.ns dB1_E 0 (by decide) (by decide)).1, (ent8 dB1_f.ns dB1_E 2 (by decide) (by decide)).1, (ent8 dB1_f.ns dB1_E 2 (by decide) (by decide)).2]
  decide
theorem dB2_eq : dB2 = dB1.taken 2 4 0 := by unfold dB2 DS.take; rw [if_pos tk2]
theorem dB2_E : dB2.E = [⟨1, 0, 2, 1, false⟩, ⟨3, 0, 0, 0, false⟩, ⟨4, 0, 0, 0, false⟩, En.zero, En.zero, En.zero, En.zero, En.zero] := by
  rw [dB2_eq]
  unfold DS.taken DS.cnt DS.lay DS.at
  simp only [dB1_E]
  rfl
theorem taken_m (d : DS) (q t s : Int) : (d.taken q t s).m = d.m := rfl
theorem dB2_m : dB2.m = dB1.m := by rw [dB2_eq, taken_m]
theorem dB2_f : MF dB2.m := by rw [dB2_m]; exact dB1_f
theorem tk3 : dB2.takeE 3 4 0 = 0 := by
  unfold DS.takeE DS.more
  rw [(ent8 dB2_f.ns dB2_E 0 (by decide) (by decide)).1, (ent8 dB2_f.ns dB2_E 3 (by decide) (by decide)).1, (ent8 dB2_f.ns dB2_E 3 (by decide) (by decide)).2]
  decide
theorem dB3_eq : dB3 = dB2.taken 3 4 0 := by unfold dB3 DS.take; rw [if_pos tk3]
theorem dB3_E : dB3.E = [⟨1, 0, 3, 1, false⟩, ⟨3, 0, 0, 0, false⟩, ⟨4, 0, 0, 0, false⟩, ⟨4, 0, 0, 0, false⟩, En.zero, En.zero, En.zero, En.zero] := by
  rw [dB3_eq]
  unfold DS.taken DS.cnt DS.lay DS.at
  simp only [dB2_E]
  rfl
theorem dB3_m : dB3.m = dB1.m := by rw [dB3_eq, taken_m, dB2_m]
theorem dB3_f : MF dB3.m := by rw [dB3_m]; exact dB1_f
theorem tk4 : dB3.takeE 4 5 0 = 0 := by
  unfold DS.takeE DS.more
  rw [(ent8 dB3_f.ns dB3_E 0 (by decide) (by decide)).1, (ent8 dB3_f.ns dB3_E 4 (by decide) (by decide)).1, (ent8 dB3_f.ns dB3_E 4 (by decide) (by decide)).2]
  decide
theorem dB4_eq : dB4 = dB3.taken 4 5 0 := by unfold dB4 DS.take; rw [if_pos tk4]
theorem dB4_E : dB4.E = E0 := by
  rw [dB4_eq]
  unfold DS.taken DS.cnt DS.lay DS.at
  simp only [dB3_E]
  rfl
theorem dB4_m : dB4.m = dB1.m := by rw [dB4_eq, taken_m, dB3_m]
theorem dB4_f : MF dB4.m := by rw [dB4_m]; exact dB1_f
theorem dB1_w (q j : Int) (_h0 : 0 ≤ q) (_h1 : q < 8) : dB1.m.word true q j = if q = 0 ∧ j = 0 then 1 else 0 := by
  have hz0 : ∀ k j, wd (dB0.m.p k) j = 0 := by rw [dB0_m]; exact zall_z new_z 8
  have hz : ∀ p o, dB0.m.word true p o = 0 := fun p o => dB0_f.z hz0 true p o
  have f1 := dB0_f.write true 0 0 1 (by decide) (by decide)
  have f2 := f1.write true 0 1 0 (by decide) (by decide)
  rw [dB1_m]
  unfold MS.born
  by_cases hq : q = 0
  · subst hq
    by_cases j2 : j = 2
    · subst j2; rw [f2.self 0 2 0 (by decide) (by decide) (by decide) (by decide)]; rfl
    · rw [f2.other _ _ _ _ _ _ _ (by omega)]
      by_cases j1 : j = 1
      · subst j1; rw [f1.self 0 1 0 (by decide) (by decide) (by decide) (by decide)]; rfl
      · rw [f1.other _ _ _ _ _ _ _ (by omega)]
        by_cases j0 : j = 0
        · subst j0; rw [dB0_f.self 0 0 1 (by decide) (by decide) (by decide) (by decide)]; rfl
        · rw [dB0_f.other _ _ _ _ _ _ _ (by omega), hz, if_neg (by omega)]
  · rw [f2.other _ _ _ _ _ _ _ (by omega), f1.other _ _ _ _ _ _ _ (by omega), dB0_f.other _ _ _ _ _ _ _ (by omega), hz, if_neg (by omega)]
theorem addT {d : DS} (hE : d.E = E0) (hf : MF d.m) (hw : d.m.word true 0 0 = 1) (i q : Int) (i0 : 0 ≤ i) (i1 : i < 256) (hq : q = 2 ∨ q = 3) (hx : d.m.word true 1 i = 0) :
    d.addE 0 i q = 0 ∧ (d.add 0 i q).E = E0 ∧ MF (d.add 0 i q).m ∧ ∀ a b : Int, (d.add 0 i q).m.word true a b = if a = 1 ∧ b = i then 256 * q + 1 else d.m.word true a b := by
  have e0 := ent8 hf.ns hE 0 (by decide) (by decide)
  have eq := ent8 hf.ns hE q (by omega) (by omega)
  have hfst : d.fst 0 = 1 := hw
  have hpre : d.preE 0 = 0 := by unfold DS.preE; rw [e0.1, e0.2]; decide
  have hown1 : d.own 0 1 3 = true := by unfold DS.own; rw [(ent8 hf.ns hE 1 (by decide) (by decide)).1]; decide
  have hownq : d.own 0 q 4 = true := by
    unfold DS.own
    rw [eq.1]
    rcases hq with rfl | rfl <;> decide
  have hfol : d.folE 0 = 0 := by unfold DS.folE; rw [hpre, hfst, hown1]; decide
  have hP : Pg q := ⟨by omega, by omega⟩
  have hfE : fE q = 0 := by unfold fE; rw [if_pos hP]
  have hfW : fW q = 256 * q + 1 := by unfold fW; rw [if_pos hP]
  have hfd : d.folD 0 = d.rd 0 0 := by unfold DS.folD; rw [if_pos hpre]
  have hadd : d.add 0 i q = ((d.rd 0 0).rd 1 i).wr 1 i (256 * q + 1) := by
    unfold DS.add
    rw [if_pos ⟨hfol, ⟨i0, i1⟩, eq.2, hownq⟩, hfst, hx, hfE, hfW, hfd]
    rfl
  refine ⟨?_, ?_, ?_, fun a b => ?_⟩
  · unfold DS.addE
    rw [if_pos hfol, if_pos ⟨i0, i1⟩, if_pos eq.2, if_pos hownq, hfst, hx, hfE]
    rfl
  · rw [hadd]; exact hE
  · rw [hadd]; exact ((hf.read _ _ _).read _ _ _).write _ _ _ _ (by omega) (by omega)
  · rw [hadd]
    have hf2 := (hf.read true 0 0).read true 1 i
    by_cases hc : a = 1 ∧ b = i
    · obtain ⟨rfl, rfl⟩ := hc
      rw [if_pos ⟨rfl, rfl⟩]
      exact hf2.self 1 b _ (by decide) (by decide) i0 (by omega)
    · rw [if_neg hc]
      refine (hf2.other true 1 i _ true a b (by omega)).trans ?_
      rw [MS.read_word, MS.read_word]
theorem dB4_w (q j : Int) (h0 : 0 ≤ q) (h1 : q < 8) : dB4.m.word true q j = if q = 0 ∧ j = 0 then 1 else 0 := by rw [dB4_m]; exact dB1_w q j h0 h1
theorem dB5_all : dB4.addE 0 0 2 = 0 ∧ dB5.E = E0 ∧ MF dB5.m ∧ ∀ a b : Int, dB5.m.word true a b = if a = 1 ∧ b = 0 then 256 * 2 + 1 else dB4.m.word true a b := addT dB4_E dB4_f (by rw [dB4_w 0 0 (by decide) (by decide)]; rfl) 0 2 (by decide) (by decide) (.inl rfl) (by rw [dB4_w 1 0 (by decide) (by decide)]; rfl)
theorem dB6_all : dB5.addE 0 5 3 = 0 ∧ dB6.E = E0 ∧ MF dB6.m ∧ ∀ a b : Int, dB6.m.word true a b = if a = 1 ∧ b = 5 then 256 * 3 + 1 else dB5.m.word true a b := addT dB5_all.2.1 dB5_all.2.2.1 (by rw [dB5_all.2.2.2, if_neg (by decide), dB4_w 0 0 (by decide) (by decide)]; rfl) 5 3 (by decide) (by decide) (.inr rfl) (by rw [dB5_all.2.2.2, if_neg (by decide), dB4_w 1 5 (by decide) (by decide)]; rfl)
theorem dB6_inv : Inv dB6 (fun _ _ => 0) := by
  have hw : ∀ a b : Int, 0 ≤ a → a < 8 → dB6.m.word true a b = if a = 1 ∧ b = 5 then 769 else if a = 1 ∧ b = 0 then 513 else if a = 0 ∧ b = 0 then 1 else 0 := fun a b h0 h1 => by
    rw [dB6_all.2.2.2, dB5_all.2.2.2, dB4_w a b h0 h1]
    rfl
  refine ⟨dB6_all.2.1, dB6_all.2.2.1, ?_, fun i i0 i1 => ?_, fun q j hq j0 j1 => ?_⟩
  · rw [hw 0 0 (by decide) (by decide)]; rfl
  · rw [hw 1 i (by decide) (by decide)]
    by_cases h5 : i = 5
    · subst h5; rfl
    · by_cases h0 : i = 0
      · subst h0; rfl
      · rw [if_neg (by omega), if_neg (by omega), if_neg (by omega), if_neg h0, if_neg h5]
  · rw [hw q j (by omega) (by omega), if_neg (by omega), if_neg (by omega), if_neg (by omega)]
set_option maxHeartbeats 4000000
theorem built_l (W : World) : Calls Try.prog 10 #[] W fun x W' => ∃ p, x = .returned (ptr p.g) ∧ NewDB W W' p dB6 := by
  have HN := hid (new_any W 8 4 (by decide) (by decide) (by decide) (by decide))
  have HD := hid (fun w f (h : Mem w f (MS.new 8 4)) => newDB_any w f (MS.new 8 4) h (by decide))
  rw [show DS.fresh (MS.new 8 4) = dB0 from rfl] at HD
  have H1 := hid (fun w p (h : DB w p dB0) => takeSpace_any w p dB0 h 0 1)
  rw [bear0, show dB0.takeSpace 0 1 = dB1 from rfl] at H1
  have H2 := hid (fun w p (h : DB w p dB1) => take_any w p dB1 h 2 4 0)
  rw [tk2, show dB1.take 2 4 0 = dB2 from rfl] at H2
  have H3 := hid (fun w p (h : DB w p dB2) => take_any w p dB2 h 3 4 0)
  rw [tk3, show dB2.take 3 4 0 = dB3 from rfl] at H3
  have H4 := hid (fun w p (h : DB w p dB3) => take_any w p dB3 h 4 5 0)
  rw [tk4, show dB3.take 4 5 0 = dB4 from rfl] at H4
  have H5 := hid (fun w p (h : DB w p dB4) => addTable_any w p dB4 h dB4_f.U 0 0 2)
  rw [dB5_all.1, show dB4.add 0 0 2 = dB5 from rfl] at H5
  have H6 := hid (fun w p (h : DB w p dB5) => addTable_any w p dB5 h dB5_all.2.2.1.U 0 5 3)
  rw [dB6_all.1, show dB5.add 0 5 3 = dB6 from rfl] at H6
  generalize dB0 = d0 at *
  generalize dB1 = d1 at *
  generalize dB2 = d2 at *
  generalize dB3 = d3 at *
  generalize dB4 = d4 at *
  generalize dB5 = d5 at *
  generalize dB6 = d6 at *
  generalize MS.new 8 4 = m0 at *
  simp only [ptr] at *
  have key : Hid (∀ (w : World) (p : Dp) (d : DS) (w' : World) (d' : DS) (G : List Nat), NewDB W w p d → (∀ k ∈ G, k ∈ p.all) → DB w' p d' → ButL G w w' → NewDB W w' p d') := hid (fun w p d w' d' G h hG hd hb => ⟨hd, h.below.trans (hb.below (B := W.heap.size) (fun k hk => h.new k (hG k hk)) h.below.size), h.new⟩)
  have pw : Hid (∀ (p : Dp) (k : Nat), k ∈ p.w → k ∈ p.all) := hid (fun p k hk => by simp only [Dp.w, Dp.all, List.mem_cons] at *; rcases hk with h | h; exact .inr (.inl h); exact .inr (.inr (Fp.w_all h)))
  have pfw : Hid (∀ (p : Dp) (k : Nat), k ∈ p.f.w → k ∈ p.all) := hid (fun p k hk => Fp.w_dp hk)
  go_enter Try.func10, Try.ntmps10
  go_upto_region 5 with (first | (go_at_call 29; refine HN.out.mono ?_; rintro x w1 ⟨f, rfl, hm⟩; have HM := hid hm; clear hm) | (go_at_call 30; refine (HD.out _ _ HM.out.mem).mono ?_; rintro x w2 ⟨g, gw, rfl, hd, hg, hgw, hb⟩; have Q0 : Hid (NewDB W w2 ⟨g, gw, f⟩ d0) := hid ⟨hd, HM.out.below.trans (hb.below (B := W.heap.size) (fun k hk => HM.out.new k (Fp.w_all hk)) HM.out.below.size), fun k hk => by (simp only [Dp.all, List.mem_cons] at hk; have hs := HM.out.below.size; rcases hk with rfl | rfl | hk; omega; omega; exact HM.out.new k hk)⟩; clear hd hg hgw hb))
  clear HN HD HM
  obtain ⟨p, hp⟩ : ∃ p : Dp, p = ⟨g, gw, f⟩ := ⟨_, rfl⟩
  rw [← hp] at Q0
  rw [show g = p.g by rw [hp]]
  clear hp
  go_wp2_with (first | (go_at_call 31; refine (H1.out _ _ Q0.out.db).mono ?_; rintro x w3 ⟨rfl, hd, hb⟩; have Q1 := hid (key.out _ _ _ _ _ _ Q0.out (pw.out p) hd hb); clear hd hb H1) | (go_at_call 32; first | (refine (H2.out _ _ Q1.out.db).mono ?_; rintro x w4 ⟨rfl, hd, hb⟩; have Q2 := hid (key.out _ _ _ _ _ _ Q1.out (pw.out p) hd hb); clear hd hb H2) | (refine (H3.out _ _ Q2.out.db).mono ?_; rintro x w5 ⟨rfl, hd, hb⟩; have Q3 := hid (key.out _ _ _ _ _ _ Q2.out (pw.out p) hd hb); clear hd hb H3) | (refine (H4.out _ _ Q3.out.db).mono ?_; rintro x w6 ⟨rfl, hd, hb⟩; have Q4 := hid (key.out _ _ _ _ _ _ Q3.out (pw.out p) hd hb); clear hd hb H4)) | (go_at_call 33; first | (refine (H5.out _ _ Q4.out.db).mono ?_; rintro x w7 ⟨rfl, hd, hb⟩; have Q5 := hid (key.out _ _ _ _ _ _ Q4.out (pfw.out p) hd hb); clear hd hb H5) | (refine (H6.out _ _ Q5.out.db).mono ?_; rintro x w8 ⟨rfl, hd, hb⟩; have Q6 := hid (key.out _ _ _ _ _ _ Q5.out (pfw.out p) hd hb); clear hd hb H6)))
  go_returns
  exact ⟨p, rfl, Q6.out⟩
end Go.Proofs.Ytgbpbfnpeeciaaa
namespace Go.Proofs.Ytgbpbfnpeeciaaa
open Go.RowKit
set_option maxRecDepth 100000
set_option maxHeartbeats 4000000
theorem turned_l (W : World) (m : Mp) : Calls Try.prog 17 #[m.v] W fun x W' => x = .returned m.v ∧ Below W.heap.size W W' := by
  have B0 := hid (Bag.two W 40 49 m.cs Mp.z.cs)
  obtain ⟨s, p, wr, ex⟩ := m
  simp only [Mp.cs, Mp.z, Mp.v] at *
  have c0 := (B0.out.get 1 rfl).cell 0
  have c1 := (B0.out.get 1 rfl).cell 1
  have c2 := (B0.out.get 1 rfl).cell 2
  have c3 := (B0.out.get 1 rfl).cell 3
  simp only [List.getElem?_cons_zero, List.getElem?_cons_succ] at c0 c1 c2 c3
  go_enter Try.func17, Try.ntmps17
  go_upto_region 1 with fail
  generalize (World.alloc _ _).alloc _ = X at *
  generalize hg : W.heap.size = g1 at B0 c0 c1 c2 c3 ⊢
  have HG := hid hg
  clear hg
  go_wp2_with (first | (refine wpList_store_st rfl 49 _ _ rfl (g1 + 1) [.bool s, .int .i64 p, .bool wr, .bool ex] rfl rfl (B0.out.get 0 rfl) size49 rfl rfl ?_; intro w4 hc hb hs; have HE := hid (And.intro hc (B0.out.below.trans (hb.below (by have := HG.out; simp; omega) B0.out.below.size))); clear hc hb hs))
  exact ret_st rfl rfl (g1 + 1) _ rfl HE.out.1 under49 rfl (by rw [size49]; rfl) ⟨rfl, HE.out.2⟩
def Mp.rdb (m : Mp) : Bool := decide (0 ≤ m.p) && (m.s && decide (m.p < 8) || !m.s && decide (m.p < 4))
end Go.Proofs.Ytgbpbfnpeeciaaa
namespace Go.Proofs.Ytgbpbfnpeeciaaa
open Go.RowKit
structure Mv where
  cut : Bool
  va : Int
  m : Mp
def Mv.cs (x : Mv) : List Value := [.bool x.cut, .int .u32 x.va, .bool x.m.s, .int .i64 x.m.p, .bool x.m.wr, .bool x.m.ex]
structure MvAt (W : World) (ao : Option Addr) (n : Nat) (q : Nat → Mv) : Prop where
  at_ : 0 < n → ∃ g off, ao = some ⟨g, off, none⟩ ∧ g < W.heap.size ∧ ∀ j, j < n → W.rangeAt g (off + j * 6) (q j).cs
  v : ∀ j, j < n → 0 ≤ (q j).va ∧ (q j).va < 4294967296
theorem rangeAt_on {W W' : World} {g off : Nat} {cs : List Value} (h : W.rangeAt g off cs) (hg : g < W.heap.size) (hb : Below W.heap.size W W') : W'.rangeAt g off cs := fun j v hv => by
  have := h j v hv
  unfold World.cell? at this ⊢
  rw [hb.block g hg]
  exact this
theorem MvAt.on {W W' : World} {ao : Option Addr} {n : Nat} {q : Nat → Mv} (h : MvAt W ao n q) (hb : Below W.heap.size W W') : MvAt W' ao n q :=
  ⟨fun hn => by
    obtain ⟨g, off, h1, h2, h3⟩ := h.at_ hn
    exact ⟨g, off, h1, by have := hb.size; omega, fun j hj => rangeAt_on (h3 j hj) h2 hb⟩, h.v⟩
theorem NewDB.step {W w w' : World} {p : Dp} {d d' : DS} (h : NewDB W w p d) (hd : DB w' p d') (hb : ButL p.f.w w w') : NewDB W w' p d' :=
  ⟨hd, h.below.trans (hb.below (B := W.heap.size) (fun k hk => h.new k (Fp.w_dp hk)) h.below.size), h.new⟩
theorem NewDB.on {W w w' : World} {p : Dp} {d : DS} (h : NewDB W w p d) (hb : Below w.heap.size w w') : NewDB W w' p d := h.step (h.db.on hb) (.of hb)
variable {d : DS} {G : Int → Int → Int}
theorem MF.err {m : MS} (h : MF m) (q j : Int) (h0 : 0 ≤ q) (h1 : q < 8) (j0 : 0 ≤ j) (j1 : j < 1024) : m.err true q j = 0 := by
  unfold MS.err
  rw [h.atS q h0 h1]
  simp only
  rw [if_pos ⟨j0, j1⟩]
theorem MF.f2 {m : MS} (h : MF m) (q j : Int) (h0 : 0 ≤ q) (h1 : q < 8) (j0 : 0 ≤ j) (j1 : j < 1024) : m.f2E q j = m.mE (m.word true q j) ∧ m.f2 q j = m.mM (m.word true q j) := by
  have he := h.err q j h0 h1 j0 j1
  have e1 : m.f2E q j = m.mE (m.word true q j) := by unfold MS.f2E MS.mE; rw [if_pos he]
  refine ⟨e1, ?_⟩
  unfold MS.f2 MS.mM
  rw [e1]
theorem MF.inn {m : MS} (h : MF m) (i q : Int) (h0 : 0 ≤ q) (h1 : q < 8) : ∀ j, j ≤ 1024 → m.inn i q j = m.und i q j
  | 0, _ => rfl
  | j + 1, hj => by
    rw [MS.inn, MS.und, h.inn i q h0 h1 j (by omega), (h.f2 q (j : Int) h0 h1 (by omega) (by omega)).1, (h.f2 q (j : Int) h0 h1 (by omega) (by omega)).2]
theorem Inv.f1 (h : Inv d G) (i : Int) (i0 : 0 ≤ i) (i1 : i < 256) : d.m.f1E 1 i = (if i = 0 ∨ i = 5 then 0 else 92) ∧ (i = 0 ∨ i = 5 → d.m.f1 1 i = if i = 0 then 2 else 3) := by
  have he := h.mf.err 1 i (by decide) (by decide) i0 (by omega)
  have hw := h.w1 i i0 i1
  have h2 : (d.m.at true 2).isSome = true := by rw [h.mf.atS 2 (by decide) (by decide)]; rfl
  have h3 : (d.m.at true 3).isSome = true := by rw [h.mf.atS 3 (by decide) (by decide)]; rfl
  by_cases c0 : i = 0
  · rw [if_pos c0] at hw
    have e1 : d.m.f1E 1 i = 0 := by
      unfold MS.f1E
      rw [if_pos he, hw, if_pos (by decide), show pf 513 = 2 by decide, if_pos h2]
    refine ⟨by rw [e1, if_pos (.inl c0)], fun _ => ?_⟩
    unfold MS.f1
    rw [if_pos e1, hw, if_pos c0]
    decide
  · by_cases c5 : i = 5
    · rw [if_neg c0, if_pos c5] at hw
      have e1 : d.m.f1E 1 i = 0 := by
        unfold MS.f1E
        rw [if_pos he, hw, if_pos (by decide), show pf 769 = 3 by decide, if_pos h3]
      refine ⟨by rw [e1, if_pos (.inr c5)], fun _ => ?_⟩
      unfold MS.f1
      rw [if_pos e1, hw, if_neg c0]
      decide
    · rw [if_neg c0, if_neg c5] at hw
      refine ⟨?_, fun h => by omega⟩
      unfold MS.f1E
      rw [if_pos he, hw, if_neg (by decide), if_neg (by omega)]
      decide
theorem Inv.isI (h : Inv d G) (i : Int) (i0 : 0 ≤ i) (i1 : i < 256) : d.isS 0 (d.m.word true 1 i) = decide (i = 0 ∨ i = 5) ∧ (i = 0 ∨ i = 5 → pf (d.m.word true 1 i) = if i = 0 then 2 else 3) := by
  obtain ⟨a, b, c⟩ := h.isS
  rw [h.w1 i i0 i1]
  by_cases c0 : i = 0
  · rw [if_pos c0, a, if_pos c0]; exact ⟨by simp [c0], fun _ => by decide⟩
  · by_cases c5 : i = 5
    · rw [if_neg c0, if_pos c5, b, if_neg c0]; exact ⟨by simp [c5], fun _ => by decide⟩
    · rw [if_neg c0, if_neg c5, c]; exact ⟨by simp [c0, c5], fun h => by omega⟩
theorem Inv.lst (h : Inv d G) : ∀ k, k ≤ 256 → d.m.lst 1 k = d.lsn 0 k
  | 0, _ => rfl
  | k + 1, hk => by
    have ih := h.lst k (by omega)
    obtain ⟨a, b⟩ := h.f1 (k : Int) (by omega) (by omega)
    obtain ⟨a', b'⟩ := h.isI (k : Int) (by omega) (by omega)
    rw [MS.lst, DS.lsn, ih, h.fst, a, a']
    by_cases hc : (k : Int) = 0 ∨ (k : Int) = 5
    · rw [if_pos hc, if_pos rfl, if_pos (decide_eq_true hc), b hc, b' hc, h.mf.inn (k : Int) _ (by split <;> omega) (by split <;> omega) 1024 (by decide)]
    · rw [if_neg hc, if_neg (by decide), if_neg (by simpa using hc)]
theorem Inv.atE (h : Inv d G) {va : Int} (v0 : 0 ≤ va) : d.atE 0 va = (if spE va = 0 then (if HasT va then d.m.mE (G (tbl va) (spJ va)) else 141) else 91) ∧ d.atM 0 va = (if spE va = 0 ∧ HasT va then d.m.mM (G (tbl va) (spJ va)) else Mp.z) := by
  unfold DS.atE DS.atM
  rw [h.fndE v0]
  by_cases hs : spE va = 0
  · by_cases ht : HasT va
    · rw [h.w2 v0 hs ht]; simp [hs, ht]
    · simp [hs, ht]
  · simp [hs]
theorem Inv.walk (h : Inv d G) {va : Int} (v0 : 0 ≤ va) : d.m.wk 1 va = d.atM 0 va ∧ (d.m.wkE 1 va = 0 ↔ d.atE 0 va = 0) := by
  obtain ⟨a, b⟩ := h.atE v0
  rw [a, b]
  unfold MS.wk MS.wkE
  by_cases hs : spE va = 0
  · obtain ⟨i0, i1, j0, j1⟩ := sp_range v0 hs
    obtain ⟨f, g⟩ := h.f1 (spI va) i0 i1
    rw [if_pos hs, if_pos hs, f]
    by_cases ht : HasT va
    · have hq : d.m.f1 1 (spI va) = tbl va := by rw [g ht]; rfl
      have h2 := h.mf.f2 (tbl va) (spJ va) (by have := tbl_23 va; omega) (by have := tbl_23 va; omega) j0 j1
      rw [h.t _ _ (tbl_23 va) j0 j1] at h2
      have ht' : spI va = 0 ∨ spI va = 5 := ht
      rw [if_pos ht', if_pos rfl, if_pos rfl, hq, h2.1, h2.2, if_pos ⟨hs, ht⟩, if_pos hs, if_pos ht]
      exact ⟨rfl, Iff.rfl⟩
    · have ht' : ¬ (spI va = 0 ∨ spI va = 5) := ht
      have e92 : ¬ ((92 : Int) = 0) := by decide
      rw [if_neg ht', if_neg e92, if_neg e92, if_neg (show ¬ (spE va = 0 ∧ HasT va) from fun h => ht h.2), if_pos hs, if_neg ht]
      exact ⟨rfl, by simp⟩
  · rw [if_neg hs, if_neg hs, if_neg (fun h => hs h.1), if_neg hs]
    exact ⟨rfl, by rcases spE_cases va with h | h <;> simp [h] at hs ⊢⟩
def m3 : Mp := ⟨false, 3, false, false⟩
end Go.Proofs.Ytgbpbfnpeeciaaa
