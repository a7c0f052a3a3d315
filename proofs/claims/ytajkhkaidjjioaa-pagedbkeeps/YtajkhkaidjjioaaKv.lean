/- PagedbKeeps: what stays of the machine; a second database beside the first. -/
import Derived.Test.YtajkhkaidjjioaaKq
import Derived.Test.YtajkhkaidjjioaaPd
namespace Go.Proofs.Ytajkhkaidjjioaa
open Go.RowKit
set_option maxRecDepth 100000
set_option maxHeartbeats 4000000
def e8a : List En := [En.zero, En.zero, En.zero, enS 3, enF 3, En.zero, En.zero, En.zero]
def e8b : List En := [En.zero, En.zero, En.zero, ⟨1, 3, 2, 1, false⟩, enF 3, enT 2 3, En.zero, En.zero]
theorem kb1 (P : List (List Int)) (c : Int) : ∃ P' c', DS.takeSpace ⟨⟨8, P, c⟩, 1, e8⟩ 3 4 = ⟨⟨8, P', c'⟩, 2, e8a⟩ ∧ DS.bearE ⟨⟨8, P, c⟩, 1, e8⟩ 3 4 = 0 := ⟨_, _, rfl, rfl⟩
theorem kb2 (P : List (List Int)) (c : Int) : DS.take ⟨⟨8, P, c⟩, 2, e8a⟩ 5 2 3 = ⟨⟨8, P, c⟩, 2, e8b⟩ ∧ DS.takeE ⟨⟨8, P, c⟩, 2, e8a⟩ 5 2 3 = 0 := ⟨rfl, rfl⟩
structure KV (d : DS) : Prop where
  ns : d.m.ns = 8
  l : d.E.length = 8
  t3 : (d.at 3).t = 1
  t4 : (d.at 4).t ≠ 0 ∧ (d.at 4).o = 3
  t5 : (d.at 5).t ≠ 0 ∧ (d.at 5).o = 3
theorem KV.start (P : List (List Int)) (c : Int) : KV ⟨⟨8, P, c⟩, 2, e8b⟩ := ⟨rfl, rfl, rfl, ⟨by show (3 : Int) ≠ 0; decide, rfl⟩, ⟨by show (2 : Int) ≠ 0; decide, rfl⟩⟩
theorem KV.upd {d d' : DS} (h : KV d) (hn : d'.m.ns = d.m.ns) (hl : d'.E.length = d.E.length) (h3 : (d'.at 3).t = (d.at 3).t) (h4 : (d'.at 4).t ≠ 0 ∧ (d'.at 4).o = (d.at 4).o) (h5 : (d'.at 5).t ≠ 0 ∧ (d'.at 5).o = (d.at 5).o) : KV d' :=
  ⟨by rw [hn, h.ns], by rw [hl, h.l], by rw [h3, h.t3], ⟨h4.1, by rw [h4.2, h.t4.2]⟩, ⟨h5.1, by rw [h5.2, h.t5.2]⟩⟩
theorem KV.lay {d : DS} (h : KV d) (q : Nat) (x : En) (hq : q < 8) (hx : (x.t = (d.at q).t ∧ x.o = (d.at q).o) ∨ (q ≠ 3 ∧ x.t ≠ 0 ∧ (x.o = (d.at q).o ∨ (d.at q).t = 0))) : KV (d.lay q x) := by
  have hl : q < d.E.length := by rw [h.l]; exact hq
  refine h.upd rfl (by simp [DS.lay]) ?_ ?_ ?_
  · rw [lay_at q 3 x hl]
    split
    · rename_i e; subst e
      rcases hx with ⟨a, _⟩ | ⟨a, _⟩
      · exact a
      · exact absurd rfl a
    · rfl
  · rw [lay_at q 4 x hl]
    split
    · rename_i e; subst e
      rcases hx with ⟨a, b⟩ | ⟨_, a, b⟩
      · exact ⟨by rw [a]; exact h.t4.1, b⟩
      · rcases b with b | b
        · exact ⟨a, b⟩
        · exact absurd b h.t4.1
    · exact ⟨h.t4.1, rfl⟩
  · rw [lay_at q 5 x hl]
    split
    · rename_i e; subst e
      rcases hx with ⟨a, b⟩ | ⟨_, a, b⟩
      · exact ⟨by rw [a]; exact h.t5.1, b⟩
      · rcases b with b | b
        · exact ⟨a, b⟩
        · exact absurd b h.t5.1
    · exact ⟨h.t5.1, rfl⟩
theorem kv_lt {d : DS} (h : KV d) {q : Int} (hq : d.there q = true) : q.toNat < 8 := by
  unfold DS.there at hq
  rw [h.ns] at hq
  simp only [decide_eq_true_eq] at hq
  omega
theorem kv_ent {d : DS} {q : Int} (hq : d.there q = true) : d.ent q = d.at q.toNat := by unfold DS.ent; rw [if_pos hq]
theorem KV.take {d : DS} (h : KV d) (q t s : Int) : KV (d.take q t s) := by
  unfold DS.take
  split
  · rename_i he
    have hq : d.there q = true := by
      by_cases hh : d.there q = true
      · exact hh
      · simp [DS.takeE, DS.entE, hh] at he
    have hent := kv_ent hq
    have hs : d.more s = true := by
      by_cases hh : d.more s = true
      · exact hh
      · simp only [Bool.not_eq_true] at hh
        simp [DS.takeE, DS.entE, hq, hh] at he
        split at he <;> simp_all
    have hf : (d.ent q).t = 0 := by
      by_cases hh : (d.ent q).t = 0
      · exact hh
      · simp [DS.takeE, DS.entE, hq, hs, hh] at he
        split at he <;> simp_all
    have ht : t ≠ 0 := by
      intro h0
      subst h0
      simp [DS.takeE, DS.entE, hq, trn] at he
    have hts : (d.ent s).t = 1 := by unfold DS.more at hs; simp at hs; exact hs.1
    have hsq : d.there s = true := by
      by_cases hh : d.there s = true
      · exact hh
      · simp [DS.ent, hh, En.zero] at hts
    rw [hent] at hf
    rw [kv_ent hsq] at hts
    have k1 : KV (d.lay q.toNat (enT t s)) := h.lay _ _ (kv_lt h hq) (.inr ⟨fun e => (by rw [e, h.t3] at hf; exact absurd hf (by decide)), ht, .inr hf⟩)
    unfold DS.taken DS.cnt
    exact k1.lay _ _ (kv_lt h hsq) (.inl ⟨rfl, rfl⟩)
  · exact h
theorem KV.turn {d : DS} (h : KV d) (q t : Int) : KV (d.turn q t) := by
  unfold DS.turn
  split
  · rename_i he
    have hq : d.there q = true := by
      by_cases hh : d.there q = true
      · exact hh
      · simp [DS.turnE, DS.entE, hh] at he
    have hent := kv_ent hq
    have h1 : trn (d.ent q).t = true := by
      by_cases hh : trn (d.ent q).t = true
      · exact hh
      · simp [DS.turnE, DS.entE, hq, hh] at he
    have h2 : trn t = true := by
      by_cases hh : trn t = true
      · exact hh
      · simp [DS.turnE, DS.entE, hq, h1, hh] at he
    have h3 : t ≠ 0 := fun e => by subst e; simp [trn] at h2
    rw [hent] at h1
    unfold DS.turned
    rw [hent]
    have := h.lay q.toNat (enT t (d.at q.toNat).o) (kv_lt h hq) (.inr ⟨fun e => (by rw [e, h.t3] at h1; simp [trn] at h1), h3, .inl rfl⟩)
    exact ⟨by rw [DS.wipe]; simp only [MS.zero_ns]; exact this.ns, this.l, this.t3, this.t4, this.t5⟩
  · exact h
theorem lst_step (f : Nat → Bool) (k : Nat) : (lstN f (k + 1)).length = (lstN f k).length + (if f k = true then 1 else 0) := by
  rw [lstN]
  split <;> simp
theorem KV.owned {d : DS} (h : KV d) : 2 ≤ (d.owned 3).length ∧ (d.owned 3).length ≤ 64 := by
  have h3 : d.ent 3 = d.at 3 := by unfold DS.ent DS.there; rw [h.ns]; rfl
  unfold DS.owned
  rw [h3, if_pos h.t3, h.ns]
  refine ⟨?_, Nat.le_trans (lstN_len _ _) (by decide)⟩
  have f4 : isO 3 ((4 : Nat) : Int) (d.at 4) = true := by simp [isO, h.t4.1, h.t4.2]
  have f5 : isO 3 ((5 : Nat) : Int) (d.at 5) = true := by simp [isO, h.t5.1, h.t5.2]
  rw [lst_step, lst_step, lst_step, lst_step, if_pos f4, if_pos f5]
  omega
theorem KR.other {W x x' : World} {p q : Dp} {d d' : DS} {Z D : List RowT} (h : KR W x p d Z D) (hn : NewDB x x' q d') : KR W x' q d' Z D := by
  have h' := h.on hn.below
  refine ⟨hn.db, h'.below, fun k hk => Nat.le_trans h.below.size (hn.new k hk), h'.own, h'.ap, h'.dn, h'.zd, fun z hz g hg hm => ?_⟩
  have h1 := ((h.own z hz).lt g hg).2
  have h2 := hn.new g hm
  omega
theorem KR.nilZ {W x : World} {p : Dp} {d : DS} {Z D : List RowT} (h : KR W x p d Z D) (e : TypeId) : KR W x p d (Z ++ [⟨e, .slice none 0 0, []⟩]) D := h.addZ (Below.refl _ _) (World.ownsRow_nil _ _ _ _)
theorem KR.none {W x : World} {p : Dp} {d : DS} {Z D : List RowT} (h : KR W x p d Z D) : KR W x p d [] D := ⟨h.a, h.below, h.la, by simp, by simp, h.dn, by simp, by simp⟩
/-- The head of a row of words. -/
theorem head_wl {x : World} {B g n m c : Nat} {A B' : List Value} {L : List Int} (h : x.ownsRow B 27 1 (.slice (some ⟨g, 0, none⟩) m c) m A) (hA : A = u32s L ++ B') (hn : L.length = n) (hr : ∀ y ∈ L, 0 ≤ y ∧ y < 4294967296) : WL x (some ⟨g, 0, none⟩) n L := by
  refine ⟨hn, hr, fun _ => ⟨g, 0, rfl, fun j u hu => ?_, (h.lt g rfl).2⟩⟩
  rw [Nat.zero_add]
  subst hA
  refine own_cell h ?_
  rw [List.getElem?_append_left (List.getElem?_eq_some_iff.1 hu).1]
  exact hu
def fb : Value := .int .u32 4276993775
def ones (n : Nat) : List Int := List.replicate n 1
theorem ones_u (n : Nat) : u32s (ones n) = mrk (.int .u32 1) n := by simp [u32s, ones, mrk]
theorem ones_len (n : Nat) : (ones n).length = n := by simp [ones]
theorem ones_rg (n : Nat) : ∀ y ∈ ones n, 0 ≤ y ∧ y < 4294967296 := by intro y hy; rw [ones, List.mem_replicate] at hy; omega
theorem KV.play {d : DS} (h : KV d) (o : Oq) (hk : o.k = 2 ∨ o.k = 3) : KV (d.call o) := by
  unfold DS.call
  rcases hk with hk | hk
  · rw [if_neg (by omega), if_pos hk]; exact h.take _ _ _
  · rw [if_neg (by omega), if_neg (by omega), if_pos hk]; exact h.turn _ _
end Go.Proofs.Ytajkhkaidjjioaa
