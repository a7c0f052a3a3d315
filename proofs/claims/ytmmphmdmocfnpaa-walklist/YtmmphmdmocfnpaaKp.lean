/- WalkKeeps: its lists. -/
import Derived.Test.YtmmphmdmocfnpaaRo
import Derived.Test.YtmmphmdmocfnpaaG2
namespace Go.Proofs.Ytmmphmdmocfnpaa
open Go.RowKit
set_option maxRecDepth 100000
abbrev RowT := Value × List (Int × Mp)
def Rw (x : World) (B : Nat) (z : RowT) : Prop := x.ownsRow B 67 5 z.1 z.2.length (flat z.2)
structure KR (W x : World) (fa : Fp) (m : MS) (Z D : List RowT) (hv : Value) (hs : List Value) (gv : Value) (gs : List Value) : Prop where
  a : Mem x fa m
  below : Below W.heap.size W x
  la : ∀ k ∈ fa.all, W.heap.size ≤ k
  own : ∀ z ∈ Z, Rw x W.heap.size z
  ap : Z.Pairwise (fun z y => Ap z.1 y.1)
  dn : ∀ d ∈ D, Rw x W.heap.size d
  zd : ∀ z ∈ Z, ∀ d ∈ D, Ap z.1 d.1
  h1 : x.ownsRow W.heap.size 60 1 hv hs.length hs
  h2 : x.ownsRow W.heap.size 60 1 gv gs.length gs
  h12 : Ap hv gv
theorem Mem.not {x : World} {f : Fp} {m : MS} (h : Mem x f m) {g : Nat} {cur : Array Value} {e : TypeId} (hg : x.heap[g]? = some (.cells cur e (0, 0))) (he : e = 67 ∨ e = 60) : g ∉ f.all := by
  have hne : ∀ g' t cs, Cel x g' t cs → t ≠ 67 → t ≠ 60 → g ≠ g' := fun g' t cs hc h1 h2 hgg => by
    subst hgg
    unfold Cel at hc
    rw [hg] at hc
    injection hc with hc
    injection hc with _ h3 _
    rcases he with rfl | rfl
    · exact h1 h3.symm
    · exact h2 h3.symm
  intro hm
  simp only [Fp.all, List.mem_cons] at hm
  rcases hm with hm | hm | hm | hm
  · exact hne _ _ _ h.cel (by decide) (by decide) hm
  · exact hne _ _ _ h.sec (by decide) (by decide) hm
  · exact hne _ _ _ h.ins (by decide) (by decide) hm
  · obtain ⟨i, hi, rfl⟩ := List.mem_iff_getElem.1 hm
    have hp := h.pg i (by rw [← h.len]; exact hi)
    exact hne _ _ _ hp (by decide) (by decide) (by simp [Fp.b, List.getD_eq_getElem?_getD, hi])
theorem KR.keep {W x x' : World} {fa : Fp} {m m' : MS} {Z D : List RowT} {hv gv : Value} {hs gs : List Value} {G : List Nat} (h : KR W x fa m Z D hv hs gv gs) (hb : ButL G x x') (hG : ∀ g cur e, x.heap[g]? = some (.cells cur e (0, 0)) → e = 67 ∨ e = 60 → g ∉ G) (ha : Mem x' fa m') (hl : Below W.heap.size W x') : KR W x' fa m' Z D hv hs gv gs :=
  ⟨ha, hl, h.la, fun z hz => own_keep (h.own z hz) hb (fun g hg => by obtain ⟨cur, hc⟩ := own_ty (h.own z hz) hg; exact hG g cur 67 hc (.inl rfl)), h.ap,
   fun z hz => own_keep (h.dn z hz) hb (fun g hg => by obtain ⟨cur, hc⟩ := own_ty (h.dn z hz) hg; exact hG g cur 67 hc (.inl rfl)), h.zd,
   own_keep h.h1 hb (fun g hg => by obtain ⟨cur, hc⟩ := own_ty h.h1 hg; exact hG g cur 60 hc (.inr rfl)), own_keep h.h2 hb (fun g hg => by obtain ⟨cur, hc⟩ := own_ty h.h2 hg; exact hG g cur 60 hc (.inr rfl)), h.h12⟩
theorem KR.on {W x x' : World} {fa : Fp} {m : MS} {Z D : List RowT} {hv gv : Value} {hs gs : List Value} (h : KR W x fa m Z D hv hs gv gs) (hb : Below x.heap.size x x') : KR W x' fa m Z D hv hs gv gs := h.keep (G := []) (.of hb) (by simp) (h.a.on hb) (below_on h.below hb)
theorem KR.rd {W x x' : World} {fa : Fp} {m m' : MS} {Z D : List RowT} {hv gv : Value} {hs gs : List Value} (h : KR W x fa m Z D hv hs gv gs) (s : Rd x x' fa m') : KR W x' fa m' Z D hv hs gv gs :=
  h.keep s.but (fun _ _ _ hg he hm => h.a.not hg he (Fp.w_all hm)) s.mem (h.below.trans (s.but.below (fun k hk => h.la k (Fp.w_all hk)) h.below.size))
theorem KR.addZ {W x x' : World} {fa : Fp} {m m' : MS} {Z D : List RowT} {hv gv : Value} {hs gs : List Value} (h : KR W x fa m Z D hv hs gv gs) (h' : KR W x' fa m' Z D hv hs gv gs) {v : Value} {A : List (Int × Mp)} (ho : x'.ownsRow x.heap.size 67 5 v A.length (flat A)) : KR W x' fa m' (Z ++ [(v, A)]) D hv hs gv gs := by
  refine ⟨h'.a, h'.below, h'.la, fun z hz => ?_, ?_, h'.dn, fun z hz d hd => ?_, h'.h1, h'.h2, h'.h12⟩
  · rcases List.mem_append.1 hz with hz | hz
    · exact h'.own z hz
    · rw [List.mem_singleton] at hz; subst hz; exact own_mono ho h.below.size
  · rw [List.pairwise_append]
    refine ⟨h'.ap, by simp, fun z hz y hy => ?_⟩
    rw [List.mem_singleton] at hy; subst hy
    exact own_new (h.own z hz) ho
  · rcases List.mem_append.1 hz with hz | hz
    · exact h'.zd z hz d hd
    · rw [List.mem_singleton] at hz; subst hz; exact (own_new (h.dn d hd) ho).symm
theorem KR.addD {W x x' : World} {fa : Fp} {m m' : MS} {Z D : List RowT} {hv gv : Value} {hs gs : List Value} (h : KR W x fa m Z D hv hs gv gs) (h' : KR W x' fa m' Z D hv hs gv gs) {v : Value} {A : List (Int × Mp)} (ho : x'.ownsRow x.heap.size 67 5 v A.length (flat A)) : KR W x' fa m' Z (D ++ [(v, A)]) hv hs gv gs := by
  refine ⟨h'.a, h'.below, h'.la, h'.own, h'.ap, fun z hz => ?_, fun z hz d hd => ?_, h'.h1, h'.h2, h'.h12⟩
  · rcases List.mem_append.1 hz with hz | hz
    · exact h'.dn z hz
    · rw [List.mem_singleton] at hz; subst hz; exact own_mono ho h.below.size
  · rcases List.mem_append.1 hd with hd | hd
    · exact h'.zd z hz d hd
    · rw [List.mem_singleton] at hd; subst hd; exact own_new (h.own z hz) ho
/-- What an append leaves. -/
def Two2 (x x' : World) (B : Nat) (e : TypeId) (st : Nat) (v v' : Value) (n k : Nat) (xs : List Value) : Prop :=
  (∃ g cap, v = .slice (some ⟨g, 0, none⟩) n cap ∧ v' = .slice (some ⟨g, 0, none⟩) (n + k) cap ∧ x'.ownsRow B e st v' (n + k) xs ∧ ButL [g] x x') ∨ (x'.ownsRow x.heap.size e st v' (n + k) xs ∧ Below x.heap.size x x')
theorem KR.mid {W x x' : World} {fa : Fp} {m : MS} {Z D : List RowT} {hv gv : Value} {hs gs : List Value} (h : KR W x fa m Z D hv hs gv gs) {g : Nat} {cur : Array Value} {e : TypeId} (hg : x.heap[g]? = some (.cells cur e (0, 0))) (he : e = 67 ∨ e = 60) (hW : W.heap.size ≤ g) (hb : ButL [g] x x') : Mem x' fa m ∧ Below W.heap.size W x' :=
  ⟨h.a.frame hb (fun k hk hm => by rw [List.mem_singleton] at hm; exact h.a.not hg he (hm ▸ hk)), h.below.trans (hb.below (by simpa using hW) h.below.size)⟩
theorem KR.headL {W x x' : World} {fa : Fp} {m : MS} {Z D : List RowT} {hv gv hv' u : Value} {hs gs : List Value} (h : KR W x fa m Z D hv hs gv gs) (ht : Two2 x x' W.heap.size 60 1 hv hv' hs.length 1 (hs ++ [u])) : KR W x' fa m Z D hv' (hs ++ [u]) gv gs := by
  rcases ht with ⟨g, cap, rfl, rfl, ho, hb⟩ | ⟨ho, hb⟩
  · obtain ⟨cur, hc⟩ := own_ty h.h1 (g := g) rfl
    obtain ⟨m1, m2⟩ := h.mid hc (.inr rfl) (h.h1.lt g rfl).1 hb
    exact ⟨m1, m2, h.la, fun z hz => own_keep (h.own z hz) hb (fun k hk hm => own_ne (h.own z hz) h.h1 (by decide) k hk (by rw [List.mem_singleton] at hm; rw [hm]; rfl)), h.ap, fun z hz => own_keep (h.dn z hz) hb (fun k hk hm => own_ne (h.dn z hz) h.h1 (by decide) k hk (by rw [List.mem_singleton] at hm; rw [hm]; rfl)), h.zd, by rw [List.length_append]; exact ho, own_keep h.h2 hb (fun k hk hm => h.h12 k (by rw [List.mem_singleton] at hm; rw [hm]; rfl) hk), fun k hk => h.h12 k hk⟩
  · have h' := h.on hb
    exact ⟨h'.a, h'.below, h'.la, h'.own, h'.ap, h'.dn, h'.zd, by rw [List.length_append]; exact own_mono ho h.below.size, h'.h2, (own_new h.h2 ho).symm⟩
theorem KR.headM {W x x' : World} {fa : Fp} {m : MS} {Z D : List RowT} {hv gv gv' u : Value} {hs gs : List Value} (h : KR W x fa m Z D hv hs gv gs) (ht : Two2 x x' W.heap.size 60 1 gv gv' gs.length 1 (gs ++ [u])) : KR W x' fa m Z D hv hs gv' (gs ++ [u]) := by
  have hs' : KR W x fa m Z D gv gs hv hs := ⟨h.a, h.below, h.la, h.own, h.ap, h.dn, h.zd, h.h2, h.h1, h.h12.symm⟩
  have h' := hs'.headL ht
  exact ⟨h'.a, h'.below, h'.la, h'.own, h'.ap, h'.dn, h'.zd, h'.h2, h'.h1, h'.h12.symm⟩
/-- A row is written. -/
theorem KR.set {W x x' : World} {fa : Fp} {m : MS} {Z D : List RowT} {hv gv : Value} {hs gs : List Value} (h : KR W x fa m Z D hv hs gv gs) (k : Nat) {v : Value} {A A' : List (Int × Mp)} (hk : Z[k]? = some (v, A)) {g : Nat} (hg : v.ownBlock = some g) (hb : ButL [g] x x') (ho : x'.ownsRow W.heap.size 67 5 v A'.length (flat A')) : KR W x' fa m (Z.set k (v, A')) D hv hs gv gs := by
  have hm := List.mem_of_getElem? hk
  obtain ⟨hkl, hke⟩ := List.getElem?_eq_some_iff.1 hk
  have hv := h.own _ hm
  obtain ⟨cur, hc⟩ := own_ty hv hg
  obtain ⟨m1, m2⟩ := h.mid hc (.inl rfl) (hv.lt g hg).1 hb
  have hap : ∀ j y, Z[j]? = some y → j ≠ k → Ap y.1 v := fun j y hj hjk => by
    obtain ⟨hjl, hje⟩ := List.getElem?_eq_some_iff.1 hj
    rcases Nat.lt_or_gt_of_ne hjk with hlt | hlt
    · have := List.pairwise_iff_getElem.1 h.ap j k hjl hkl hlt
      rw [hje, hke] at this
      exact this
    · have := List.pairwise_iff_getElem.1 h.ap k j hkl hjl hlt
      rw [hje, hke] at this
      exact this.symm
  have hset : ∀ y ∈ Z.set k (v, A'), (∃ j, Z[j]? = some y ∧ j ≠ k) ∨ y = (v, A') := fun y hy => by
    obtain ⟨j, hj⟩ := List.getElem?_of_mem hy
    by_cases e : k = j
    · subst e
      rw [List.getElem?_set_self hkl] at hj
      exact .inr (Option.some.inj hj).symm
    · rw [List.getElem?_set_ne e] at hj
      exact .inl ⟨j, hj, fun e' => e e'.symm⟩
  refine ⟨m1, m2, h.la, fun z hz => ?_, ?_, fun d hd => own_keep (h.dn d hd) hb (fun j hj hm' => by rw [List.mem_singleton] at hm'; exact h.zd _ hm d hd g hg (hm' ▸ hj)), fun z hz d hd => ?_, own_keep h.h1 hb (fun j hj hm' => by rw [List.mem_singleton] at hm'; exact own_ne hv h.h1 (by decide) g hg (hm' ▸ hj)), own_keep h.h2 hb (fun j hj hm' => by rw [List.mem_singleton] at hm'; exact own_ne hv h.h2 (by decide) g hg (hm' ▸ hj)), h.h12⟩
  · rcases hset z hz with ⟨j, hj, hjk⟩ | rfl
    · exact own_keep (h.own z (List.mem_of_getElem? hj)) hb (fun i hi hm' => by rw [List.mem_singleton] at hm'; exact hap j z hj hjk g (hm' ▸ hi) hg)
    · exact ho
  · have he : (Z.set k (v, A')).map (·.1) = Z.map (·.1) := by
      rw [List.map_set]
      apply List.ext_getElem?
      intro j
      by_cases e : k = j
      · subst e
        rw [List.getElem?_set_self (by simpa using hkl)]
        simp [hk]
      · rw [List.getElem?_set_ne e]
    have h1 : (Z.map (·.1)).Pairwise Ap := List.pairwise_map.2 h.ap
    rw [← he] at h1
    exact List.pairwise_map.1 h1
  · rcases hset z hz with ⟨j, hj, _⟩ | rfl
    · exact h.zd z (List.mem_of_getElem? hj) d hd
    · exact h.zd _ hm d hd
/-- A list that is lengthened, and the list that it was. -/
structure LV (W x : World) (fa : Fp) (m : MS) (Z D : List RowT) (hv : Value) (hs : List Value) (gv : Value) (gs : List Value) (lv : Value) (B : List (Int × Mp)) (vt : Value) (A : List (Int × Mp)) : Prop where
  k : KR W x fa m Z D hv hs gv gs
  ol : Rw x W.heap.size (lv, B)
  ot : Rw x W.heap.size (vt, A)
  lz : ∀ z ∈ Z, Ap lv z.1
  ld : ∀ d ∈ D, Ap lv d.1
  tz : ∀ z ∈ Z, Ap vt z.1
  al : Ap lv vt ∨ ∃ g cap C, lv = .slice (some ⟨g, 0, none⟩) B.length cap ∧ vt = .slice (some ⟨g, 0, none⟩) A.length cap ∧ B = A ++ C
theorem LV.start {W x : World} {fa : Fp} {m : MS} {Z D : List RowT} {hv gv vt : Value} {hs gs : List Value} {A : List (Int × Mp)} (h : KR W x fa m ((vt, A) :: Z) D hv hs gv gs) : LV W x fa m Z D hv hs gv gs vt A vt A := by
  have ho := h.own (vt, A) (by simp)
  have hp := List.pairwise_cons.1 h.ap
  refine ⟨⟨h.a, h.below, h.la, fun z hz => h.own z (by simp [hz]), hp.2, h.dn, fun z hz => h.zd z (by simp [hz]), h.h1, h.h2, h.h12⟩, ho, ho, fun z hz => hp.1 z hz, fun d hd => h.zd (vt, A) (by simp) d hd, fun z hz => hp.1 z hz, ?_⟩
  rcases ho.2 with ⟨hn, _⟩ | ⟨g, cap, cur, hn, _⟩
  · left
    simp only at hn
    subst hn
    intro g hg
    cases hg
  · right
    exact ⟨g, cap, [], hn, hn, by simp⟩
theorem LV.on {W x x' : World} {fa : Fp} {m : MS} {Z D : List RowT} {hv gv lv vt : Value} {hs gs : List Value} {A B : List (Int × Mp)} (h : LV W x fa m Z D hv hs gv gs lv B vt A) (hb : Below x.heap.size x x') : LV W x' fa m Z D hv hs gv gs lv B vt A :=
  ⟨h.k.on hb, own_on h.ol hb, own_on h.ot hb, h.lz, h.ld, h.tz, h.al⟩
theorem flat_len (A : List (Int × Mp)) : (flat A).length = A.length * 5 := by
  induction A with
  | nil => rfl
  | cons y A ih =>
    show (atC y ++ flat A).length = _
    rw [List.length_append, ih, List.length_cons, Nat.succ_mul]
    show 5 + _ = _
    omega
theorem LV.app {W x x' : World} {fa : Fp} {m : MS} {Z D : List RowT} {hv gv lv lv' vt : Value} {hs gs : List Value} {A B : List (Int × Mp)} {y : Int × Mp} (h : LV W x fa m Z D hv hs gv gs lv B vt A) (ht : Two2 x x' W.heap.size 67 5 lv lv' B.length 1 (flat B ++ atC y)) : LV W x' fa m Z D hv hs gv gs lv' (B ++ [y]) vt A := by
  rcases ht with ⟨g, cap, rfl, rfl, ho, hb⟩ | ⟨ho, hb⟩
  · have hol := h.ol
    obtain ⟨cur, hc⟩ := own_ty hol (g := g) rfl
    obtain ⟨m1, m2⟩ := h.k.mid hc (.inl rfl) (hol.lt g rfl).1 hb
    have hk : KR W x' fa m Z D hv hs gv gs := ⟨m1, m2, h.k.la, fun z hz => own_keep (h.k.own z hz) hb (fun i hi hm => by rw [List.mem_singleton] at hm; exact h.lz z hz g rfl (hm ▸ hi)), h.k.ap, fun z hz => own_keep (h.k.dn z hz) hb (fun i hi hm => by rw [List.mem_singleton] at hm; exact h.ld z hz g rfl (hm ▸ hi)), h.k.zd, own_keep h.k.h1 hb (fun i hi hm => by rw [List.mem_singleton] at hm; exact own_ne hol h.k.h1 (by decide) g rfl (hm ▸ hi)), own_keep h.k.h2 hb (fun i hi hm => by rw [List.mem_singleton] at hm; exact own_ne hol h.k.h2 (by decide) g rfl (hm ▸ hi)), h.k.h12⟩
    have ho2 : Rw x' W.heap.size (.slice (some ⟨g, 0, none⟩) (B.length + 1) cap, B ++ [y]) := by
      unfold Rw
      simp only [List.length_append, List.length_singleton, flat_snoc]
      exact ho
    refine ⟨hk, ho2, ?_, fun z hz i hi => h.lz z hz i hi, fun d hd i hi => h.ld d hd i hi, h.tz, ?_⟩
    · rcases h.al with hap | ⟨g', cap', C, e1, e2, e3⟩
      · exact own_keep h.ot hb (fun i hi hm => by rw [List.mem_singleton] at hm; exact hap g rfl (hm ▸ hi))
      · cases e1
        subst e2
        unfold Rw
        subst e3
        have e4 : flat (A ++ C) ++ atC y = flat A ++ (flat (C ++ [y])) := by rw [flat_snoc]; simp [flat, List.flatMap_append]
        rw [e4, show (A ++ C).length + 1 = A.length + (C.length + 1) by rw [List.length_append]; omega] at ho
        exact own_prefix ho (flat_len A)
    · rcases h.al with hap | ⟨g', cap', C, e1, e2, e3⟩
      · exact .inl (fun i hi => hap i hi)
      · cases e1
        exact .inr ⟨g, cap, C ++ [y], by simp, e2, by rw [e3, List.append_assoc]⟩
  · have ho2 : x'.ownsRow x.heap.size 67 5 lv' (B ++ [y]).length (flat (B ++ [y])) := by
      rw [List.length_append, List.length_singleton, flat_snoc]; exact ho
    exact ⟨h.k.on hb, own_mono ho2 h.k.below.size, own_on h.ot hb, fun z hz => (own_new (h.k.own z hz) ho2).symm, fun d hd => (own_new (h.k.dn d hd) ho2).symm, h.tz, .inl (own_new h.ot ho2).symm⟩
theorem LV.done {W x : World} {fa : Fp} {m : MS} {Z D : List RowT} {hv gv lv vt : Value} {hs gs : List Value} {A B : List (Int × Mp)} (h : LV W x fa m Z D hv hs gv gs lv B vt A) : KR W x fa m Z (D ++ [(vt, A), (lv, B)]) hv hs gv gs := by
  refine ⟨h.k.a, h.k.below, h.k.la, h.k.own, h.k.ap, fun d hd => ?_, fun z hz d hd => ?_, h.k.h1, h.k.h2, h.k.h12⟩
  · simp only [List.mem_append, List.mem_cons, List.not_mem_nil, or_false] at hd
    rcases hd with hd | rfl | rfl
    · exact h.k.dn d hd
    · exact h.ot
    · exact h.ol
  · simp only [List.mem_append, List.mem_cons, List.not_mem_nil, or_false] at hd
    rcases hd with hd | rfl | rfl
    · exact h.k.zd z hz d hd
    · exact (h.tz z hz).symm
    · exact (h.lz z hz).symm
end Go.Proofs.Ytmmphmdmocfnpaa
