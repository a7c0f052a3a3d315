/- PagedbKeeps: rows of the call's own beside a database: rows that are written yet (Z), rows that are done (D). -/
import Derived.Test.YtajkhkaidjjioaaRo
namespace Go.Proofs.Ytajkhkaidjjioaa
open Go.RowKit
set_option maxRecDepth 100000
theorem own_on2 {x x' : World} {B : Nat} {e : TypeId} {st : Nat} {v : Value} {n : Nat} {xs : List Value} (h : x.ownsRow B e st v n xs) (hb : Below x.heap.size x x') : x'.ownsRow B e st v n xs := own_keep h (G := []) (.of hb) (by simp)
structure RowT where
  e : TypeId
  v : Value
  l : List Value
def Rw (x : World) (B : Nat) (z : RowT) : Prop := x.ownsRow B z.e 1 z.v z.l.length z.l
structure KR (W x : World) (fa : Dp) (m : DS) (Z D : List RowT) : Prop where
  a : DB x fa m
  below : Below W.heap.size W x
  la : ∀ k ∈ fa.all, W.heap.size ≤ k
  own : ∀ z ∈ Z, Rw x W.heap.size z
  ap : Z.Pairwise (fun z y => Ap z.v y.v)
  dn : ∀ d ∈ D, Rw x W.heap.size d
  zd : ∀ z ∈ Z, ∀ d ∈ D, Ap z.v d.v
  off : ∀ z ∈ Z, ∀ g, z.v.ownBlock = some g → g ∉ fa.all
theorem KR.on {W x x' : World} {fa : Dp} {m : DS} {Z D : List RowT} (h : KR W x fa m Z D) (hb : Below x.heap.size x x') : KR W x' fa m Z D :=
  ⟨h.a.on hb, below_on h.below hb, h.la, fun z hz => own_on2 (h.own z hz) hb, h.ap, fun z hz => own_on2 (h.dn z hz) hb, h.zd, h.off⟩
theorem KR.newOff {W x : World} {fa : Dp} {m : DS} {Z D : List RowT} (h : KR W x fa m Z D) {x' : World} {e : TypeId} {v : Value} {n : Nat} {A : List Value} (ho : x'.ownsRow x.heap.size e 1 v n A) : ∀ g, v.ownBlock = some g → g ∉ fa.all := fun g hg hm => by
  have h1 := (ho.lt g hg).1
  have h2 := h.a.lt g hm
  omega
theorem KR.addZ {W x x' : World} {fa : Dp} {m : DS} {Z D : List RowT} (h : KR W x fa m Z D) (hb : Below x.heap.size x x') {e : TypeId} {v : Value} {A : List Value} (ho : x'.ownsRow x.heap.size e 1 v A.length A) : KR W x' fa m (Z ++ [⟨e, v, A⟩]) D := by
  have h' := h.on hb
  refine ⟨h'.a, h'.below, h'.la, fun z hz => ?_, ?_, h'.dn, fun z hz d hd => ?_, fun z hz => ?_⟩
  · rcases List.mem_append.1 hz with hz | hz
    · exact h'.own z hz
    · rw [List.mem_singleton] at hz; subst hz; exact own_mono ho h.below.size
  · rw [List.pairwise_append]
    refine ⟨h'.ap, by simp, fun z hz y hy => ?_⟩
    rw [List.mem_singleton] at hy; subst hy
    exact own_new (h.own z hz) ho
  · rcases List.mem_append.1 hz with hz | hz
    · exact h'.zd z hz d hd
    · rw [List.mem_singleton] at hz; subst hz; exact (own_new (h.dn d hd) ho).symm
  · rcases List.mem_append.1 hz with hz | hz
    · exact h'.off z hz
    · rw [List.mem_singleton] at hz; subst hz; exact h.newOff ho
theorem KR.addD {W x x' : World} {fa : Dp} {m : DS} {Z D : List RowT} (h : KR W x fa m Z D) (hb : Below x.heap.size x x') {e : TypeId} {v : Value} {A : List Value} (ho : x'.ownsRow x.heap.size e 1 v A.length A) : KR W x' fa m Z (D ++ [⟨e, v, A⟩]) := by
  have h' := h.on hb
  refine ⟨h'.a, h'.below, h'.la, h'.own, h'.ap, fun z hz => ?_, fun z hz d hd => ?_, h'.off⟩
  · rcases List.mem_append.1 hz with hz | hz
    · exact h'.dn z hz
    · rw [List.mem_singleton] at hz; subst hz; exact own_mono ho h.below.size
  · rcases List.mem_append.1 hd with hd | hd
    · exact h'.zd z hz d hd
    · rw [List.mem_singleton] at hd; subst hd; exact own_new (h.own z hz) ho
/-- What an append leaves. -/
def Two2 (x x' : World) (B : Nat) (e : TypeId) (st : Nat) (v v' : Value) (n k : Nat) (xs : List Value) : Prop :=
  (∃ g cap, v = .slice (some ⟨g, 0, none⟩) n cap ∧ v' = .slice (some ⟨g, 0, none⟩) (n + k) cap ∧ x'.ownsRow B e st v' (n + k) xs ∧ ButL [g] x x') ∨ (x'.ownsRow x.heap.size e st v' (n + k) xs ∧ Below x.heap.size x x')
/-- A row of Z's block changed, the row with it. -/
theorem KR.put {W x x' : World} {fa : Dp} {m : DS} {Z1 Z2 D : List RowT} {e : TypeId} {v : Value} {A : List Value} (h : KR W x fa m (Z1 ++ ⟨e, v, A⟩ :: Z2) D) {g : Nat} (hg : v.ownBlock = some g) (hb : ButL [g] x x') {v' : Value} {A' : List Value} (hv' : v'.ownBlock = some g) (ho : x'.ownsRow W.heap.size e 1 v' A'.length A') : KR W x' fa m (Z1 ++ ⟨e, v', A'⟩ :: Z2) D := by
  have hm : (⟨e, v, A⟩ : RowT) ∈ Z1 ++ ⟨e, v, A⟩ :: Z2 := by simp
  have hz := h.own _ hm
  have hW : W.heap.size ≤ g := (hz.lt g hg).1
  have hap := List.pairwise_append.1 h.ap
  have hap2 := List.pairwise_cons.1 hap.2.1
  have k1 : ∀ z ∈ Z1, Ap z.v v := fun z hz => hap.2.2 z hz ⟨e, v, A⟩ (by simp)
  have k2 : ∀ z ∈ Z2, Ap v z.v := fun z hz => hap2.1 z hz
  have hv : ∀ (k : Nat), v'.ownBlock = some k → v.ownBlock = some k := fun k hk => by rw [hg]; rw [hv'] at hk; exact hk
  refine ⟨h.a.frame hb (fun k hk hm' => by rw [List.mem_singleton] at hm'; exact h.off _ hm g hg (hm' ▸ hk)), h.below.trans (hb.below (by simpa using hW) h.below.size), h.la, fun z hz' => ?_, ?_, fun d hd => own_keep (h.dn d hd) hb (fun j hj hm' => by rw [List.mem_singleton] at hm'; exact h.zd _ hm d hd g hg (hm' ▸ hj)), fun z hz' d hd => ?_, fun z hz' => ?_⟩
  · rcases List.mem_append.1 hz' with h1 | h1
    · exact own_keep (h.own z (by simp [h1])) hb (fun j hj hm' => by rw [List.mem_singleton] at hm'; exact k1 z h1 j hj (hm' ▸ hg))
    · rcases List.mem_cons.1 h1 with rfl | h1
      · exact ho
      · exact own_keep (h.own z (by simp [h1])) hb (fun j hj hm' => by rw [List.mem_singleton] at hm'; exact k2 z h1 j (hm' ▸ hg) hj)
  · rw [List.pairwise_append]
    refine ⟨hap.1, List.pairwise_cons.2 ⟨fun z hz' k hk => k2 z hz' k (hv k hk), hap2.2⟩, fun z hz' y hy => ?_⟩
    rcases List.mem_cons.1 hy with rfl | hy
    · exact fun k hk hk' => k1 z hz' k hk (hv k hk')
    · exact hap.2.2 z hz' y (by simp [hy])
  · rcases List.mem_append.1 hz' with h1 | h1
    · exact h.zd z (by simp [h1]) d hd
    · rcases List.mem_cons.1 h1 with rfl | h1
      · exact fun k hk => h.zd _ hm d hd k (hv k hk)
      · exact h.zd z (by simp [h1]) d hd
  · rcases List.mem_append.1 hz' with h1 | h1
    · exact h.off z (by simp [h1])
    · rcases List.mem_cons.1 h1 with rfl | h1
      · exact fun k hk => h.off _ hm k (hv k hk)
      · exact h.off z (by simp [h1])
/-- A row of Z is another one now, that is new. -/
theorem KR.fresh {W x x' : World} {fa : Dp} {m : DS} {Z1 Z2 D : List RowT} {z0 : RowT} (h : KR W x fa m (Z1 ++ z0 :: Z2) D) (hb : Below x.heap.size x x') {e : TypeId} {v' : Value} {A' : List Value} (ho : x'.ownsRow x.heap.size e 1 v' A'.length A') : KR W x' fa m (Z1 ++ ⟨e, v', A'⟩ :: Z2) D := by
  have h' := h.on hb
  have hap := List.pairwise_append.1 h.ap
  have hap2 := List.pairwise_cons.1 hap.2.1
  refine ⟨h'.a, h'.below, h'.la, fun z hz' => ?_, ?_, h'.dn, fun z hz' d hd => ?_, fun z hz' => ?_⟩
  · rcases List.mem_append.1 hz' with h1 | h1
    · exact h'.own z (by simp [h1])
    · rcases List.mem_cons.1 h1 with rfl | h1
      · exact own_mono ho h.below.size
      · exact h'.own z (by simp [h1])
  · rw [List.pairwise_append]
    refine ⟨hap.1, List.pairwise_cons.2 ⟨fun z hz' => (own_new (h.own z (by simp [hz'])) ho).symm, hap2.2⟩, fun z hz' y hy => ?_⟩
    rcases List.mem_cons.1 hy with rfl | hy
    · exact own_new (h.own z (by simp [hz'])) ho
    · exact hap.2.2 z hz' y (by simp [hy])
  · rcases List.mem_append.1 hz' with h1 | h1
    · exact h'.zd z (by simp [h1]) d hd
    · rcases List.mem_cons.1 h1 with rfl | h1
      · exact (own_new (h.dn d hd) ho).symm
      · exact h'.zd z (by simp [h1]) d hd
  · rcases List.mem_append.1 hz' with h1 | h1
    · exact h'.off z (by simp [h1])
    · rcases List.mem_cons.1 h1 with rfl | h1
      · exact h.newOff ho
      · exact h'.off z (by simp [h1])
/-- A row of Z is lengthened. -/
theorem KR.app {W x x' : World} {fa : Dp} {m : DS} {Z1 Z2 D : List RowT} {e : TypeId} {v v' u : Value} {A : List Value} (h : KR W x fa m (Z1 ++ ⟨e, v, A⟩ :: Z2) D) (ht : Two2 x x' W.heap.size e 1 v v' A.length 1 (A ++ [u])) : KR W x' fa m (Z1 ++ ⟨e, v', A ++ [u]⟩ :: Z2) D := by
  rcases ht with ⟨g, cap, rfl, rfl, ho, hb⟩ | ⟨ho, hb⟩
  · exact h.put rfl hb rfl (by rw [List.length_append]; exact ho)
  · exact h.fresh hb (by rw [List.length_append]; exact ho)
/-- A row of Z is lengthened into another one: both are done. -/
theorem KR.mv {W x x' : World} {fa : Dp} {m : DS} {Z1 Z2 D : List RowT} {e : TypeId} {v v' u : Value} {A : List Value} (h : KR W x fa m (Z1 ++ ⟨e, v, A⟩ :: Z2) D) (ht : Two2 x x' W.heap.size e 1 v v' A.length 1 (A ++ [u])) : KR W x' fa m (Z1 ++ Z2) (D ++ [⟨e, v, A⟩, ⟨e, v', A ++ [u]⟩]) := by
  have hm : (⟨e, v, A⟩ : RowT) ∈ Z1 ++ ⟨e, v, A⟩ :: Z2 := by simp
  have hz := h.own _ hm
  have hap := List.pairwise_append.1 h.ap
  have hap2 := List.pairwise_cons.1 hap.2.1
  have hsub : ∀ z ∈ Z1 ++ Z2, z ∈ Z1 ++ (⟨e, v, A⟩ : RowT) :: Z2 := fun z hz => by
    rcases List.mem_append.1 hz with h1 | h1 <;> simp [h1]
  have hz' : ∀ z ∈ Z1 ++ Z2, Ap z.v v := fun z hz => by
    rcases List.mem_append.1 hz with h1 | h1
    · exact hap.2.2 z h1 ⟨e, v, A⟩ (by simp)
    · exact (hap2.1 z h1).symm
  have hpw : (Z1 ++ Z2).Pairwise (fun z y => Ap z.v y.v) := List.pairwise_append.2 ⟨hap.1, hap2.2, fun z h1 y h2 => hap.2.2 z h1 y (by simp [h2])⟩
  rcases ht with ⟨g, cap, rfl, rfl, ho, hb⟩ | ⟨ho, hb⟩
  · have h' := h.put (v' := .slice (some ⟨g, 0, none⟩) (A.length + 1) cap) (A' := A ++ [u]) rfl hb rfl (by rw [List.length_append]; exact ho)
    have hsub' : ∀ z ∈ Z1 ++ Z2, z ∈ Z1 ++ (⟨e, .slice (some ⟨g, 0, none⟩) (A.length + 1) cap, A ++ [u]⟩ : RowT) :: Z2 := fun z hz => by
      rcases List.mem_append.1 hz with h1 | h1 <;> simp [h1]
    refine ⟨h'.a, h'.below, h'.la, fun z hz => h'.own z (hsub' z hz), hpw, fun d hd => ?_, fun z hz d hd => ?_, fun z hz => h'.off z (hsub' z hz)⟩
    · simp only [List.mem_append, List.mem_cons, List.not_mem_nil, or_false] at hd
      rcases hd with hd | rfl | rfl
      · exact h'.dn d hd
      · exact own_prefix ho (by simp)
      · show x'.ownsRow _ _ _ _ (A ++ [u]).length _
        rw [List.length_append]; exact ho
    · simp only [List.mem_append, List.mem_cons, List.not_mem_nil, or_false] at hd
      rcases hd with hd | rfl | rfl
      · exact h.zd z (hsub z hz) d hd
      · exact hz' z hz
      · exact fun k hk hk' => hz' z hz k hk hk'
  · have h' := h.on hb
    have ho2 : x'.ownsRow x.heap.size e 1 v' (A ++ [u]).length (A ++ [u]) := by rw [List.length_append]; exact ho
    refine ⟨h'.a, h'.below, h'.la, fun z hz => h'.own z (hsub z hz), hpw, fun d hd => ?_, fun z hz d hd => ?_, fun z hz => h'.off z (hsub z hz)⟩
    · simp only [List.mem_append, List.mem_cons, List.not_mem_nil, or_false] at hd
      rcases hd with hd | rfl | rfl
      · exact h'.dn d hd
      · exact h'.own _ hm
      · exact own_mono ho2 h.below.size
    · simp only [List.mem_append, List.mem_cons, List.not_mem_nil, or_false] at hd
      rcases hd with hd | rfl | rfl
      · exact h'.zd z (hsub z hz) d hd
      · exact hz' z hz
      · exact own_new (h.own z (hsub z hz)) ho2
/-- Nothing more is written into a row. -/
theorem KR.seal {W x : World} {fa : Dp} {m : DS} {Z1 Z2 D : List RowT} {z0 : RowT} (h : KR W x fa m (Z1 ++ z0 :: Z2) D) : KR W x fa m (Z1 ++ Z2) (D ++ [z0]) := by
  have hap := List.pairwise_append.1 h.ap
  have hap2 := List.pairwise_cons.1 hap.2.1
  have hsub : ∀ z ∈ Z1 ++ Z2, z ∈ Z1 ++ z0 :: Z2 := fun z hz => by
    rcases List.mem_append.1 hz with h1 | h1 <;> simp [h1]
  refine ⟨h.a, h.below, h.la, fun z hz => h.own z (hsub z hz), List.pairwise_append.2 ⟨hap.1, hap2.2, fun z h1 y h2 => hap.2.2 z h1 y (by simp [h2])⟩, fun d hd => ?_, fun z hz d hd => ?_, fun z hz => h.off z (hsub z hz)⟩
  · rcases List.mem_append.1 hd with hd | hd
    · exact h.dn d hd
    · rw [List.mem_singleton] at hd; subst hd; exact h.own _ (by simp)
  · rcases List.mem_append.1 hd with hd | hd
    · exact h.zd z (hsub z hz) d hd
    · rw [List.mem_singleton] at hd; subst hd
      rcases List.mem_append.1 hz with h1 | h1
      · exact hap.2.2 z h1 _ (by simp)
      · exact (hap2.1 z h1).symm
theorem KR.begin {W w : World} {p : Dp} {d : DS} (h : NewDB W w p d) : KR W w p d [] [] :=
  ⟨h.db, h.below, h.new, by simp, by simp, by simp, by simp, by simp⟩
end Go.Proofs.Ytajkhkaidjjioaa
