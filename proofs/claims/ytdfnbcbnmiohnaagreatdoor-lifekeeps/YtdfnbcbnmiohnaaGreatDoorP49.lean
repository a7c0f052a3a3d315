import Derived.Test.YtdfnbcbnmiohnaaGreatDoorP31
import Derived.Test.YtdfnbcbnmiohnaaGreatDoorP48
namespace Go.Proofs.YtdfnbcbnmiohnaaGreatDoor
open Go.RowKit
set_option maxRecDepth 100000
theorem own_on2 {x x' : World} {B : Nat} {e : TypeId} {st : Nat} {v : Value} {n : Nat} {xs : List Value} (h : x.ownsRow B e st v n xs) (hb : Below x.heap.size x x') : x'.ownsRow B e st v n xs := own_keep h (G := []) (.of hb) (by simp)
abbrev RowT := Value × List Value
def Rw (x : World) (B : Nat) (z : RowT) : Prop := x.ownsRow B 3 1 z.1 z.2.length z.2
structure KR (W x : World) (fa : Dp) (m : DS) (Z D : List RowT) (hv : Value) (hs : List Value) (gv : Value) (gs : List Value) : Prop where
  a : DB x fa m
  below : Below W.heap.size W x
  la : ∀ k ∈ fa.all, W.heap.size ≤ k
  own : ∀ z ∈ Z, Rw x W.heap.size z
  ap : Z.Pairwise (fun z y => Ap z.1 y.1)
  dn : ∀ d ∈ D, Rw x W.heap.size d
  zd : ∀ z ∈ Z, ∀ d ∈ D, Ap z.1 d.1
  h1 : x.ownsRow W.heap.size 25 1 hv hs.length hs
  h2 : x.ownsRow W.heap.size 25 1 gv gs.length gs
  h12 : Ap hv gv
theorem DB.not {x : World} {f : Dp} {m : DS} (h : DB x f m) {g : Nat} {cur : Array Value} {e : TypeId} (hg : x.heap[g]? = some (.cells cur e (0, 0))) (he : e = 3 ∨ e = 25) : g ∉ f.all := by
  intro hk
  have hc : Cel x g e cur.toList := by unfold Cel; simpa using hg
  simp only [Dp.all, List.mem_cons] at hk
  rcases hk with rfl | rfl | hk
  · have := hc.ty h.cel; subst this; revert he; decide
  · have := hc.ty h.wds; subst this; revert he; decide
  · rcases h.mem.ty_w g hk e _ hc with e1 | e1 | e1 <;> (subst e1; revert he; decide)
theorem KR.keep {W x x' : World} {fa : Dp} {m m' : DS} {Z D : List RowT} {hv gv : Value} {hs gs : List Value} {G : List Nat} (h : KR W x fa m Z D hv hs gv gs) (hb : ButL G x x') (hG : ∀ g cur e, x.heap[g]? = some (.cells cur e (0, 0)) → e = 3 ∨ e = 25 → g ∉ G) (ha : DB x' fa m') (hl : Below W.heap.size W x') : KR W x' fa m' Z D hv hs gv gs :=
  ⟨ha, hl, h.la, fun z hz => own_keep (h.own z hz) hb (fun g hg => by obtain ⟨cur, hc⟩ := own_ty (h.own z hz) hg; exact hG g cur 3 hc (.inl rfl)), h.ap,
   fun z hz => own_keep (h.dn z hz) hb (fun g hg => by obtain ⟨cur, hc⟩ := own_ty (h.dn z hz) hg; exact hG g cur 3 hc (.inl rfl)), h.zd,
   own_keep h.h1 hb (fun g hg => by obtain ⟨cur, hc⟩ := own_ty h.h1 hg; exact hG g cur 25 hc (.inr rfl)), own_keep h.h2 hb (fun g hg => by obtain ⟨cur, hc⟩ := own_ty h.h2 hg; exact hG g cur 25 hc (.inr rfl)), h.h12⟩
theorem KR.on {W x x' : World} {fa : Dp} {m : DS} {Z D : List RowT} {hv gv : Value} {hs gs : List Value} (h : KR W x fa m Z D hv hs gv gs) (hb : Below x.heap.size x x') : KR W x' fa m Z D hv hs gv gs := h.keep (G := []) (.of hb) (by simp) (h.a.on hb) (below_on h.below hb)
theorem KR.addZ {W x x' : World} {fa : Dp} {m m' : DS} {Z D : List RowT} {hv gv : Value} {hs gs : List Value} (h : KR W x fa m Z D hv hs gv gs) (h' : KR W x' fa m' Z D hv hs gv gs) {v : Value} {A : List Value} (ho : x'.ownsRow x.heap.size 3 1 v A.length A) : KR W x' fa m' (Z ++ [(v, A)]) D hv hs gv gs := by
  refine ⟨h'.a, h'.below, h'.la, fun z hz => ?_, ?_, h'.dn, fun z hz d hd => ?_, h'.h1, h'.h2, h'.h12⟩
  · rcases List.mem_append.1 hz with hz | hz
    · exact h'.own z hz
    · rw [List.mem_singleton] at hz; subst hz; exact own_mono ho h.below.size
  · rw [List.pairwise_append]
    refine ⟨h'.ap, by simp, fun z hz y hy => ?_⟩
    rw [List.mem_singleton] at hy; subst hy
    exact own_new (h.own z hz) ho
  · rcases List.mem_append.1 hz with hz | hz
    · exact h'.zd z hz d hd
    · rw [List.mem_singleton] at hz; subst hz; exact (own_new (h.dn d hd) ho).symm
theorem KR.addD {W x x' : World} {fa : Dp} {m m' : DS} {Z D : List RowT} {hv gv : Value} {hs gs : List Value} (h : KR W x fa m Z D hv hs gv gs) (h' : KR W x' fa m' Z D hv hs gv gs) {v : Value} {A : List Value} (ho : x'.ownsRow x.heap.size 3 1 v A.length A) : KR W x' fa m' Z (D ++ [(v, A)]) hv hs gv gs := by
  refine ⟨h'.a, h'.below, h'.la, h'.own, h'.ap, fun z hz => ?_, fun z hz d hd => ?_, h'.h1, h'.h2, h'.h12⟩
  · rcases List.mem_append.1 hz with hz | hz
    · exact h'.dn z hz
    · rw [List.mem_singleton] at hz; subst hz; exact own_mono ho h.below.size
  · rcases List.mem_append.1 hd with hd | hd
    · exact h'.zd z hz d hd
    · rw [List.mem_singleton] at hd; subst hd; exact own_new (h.own z hz) ho
/-- What an append leaves. -/
def Two2 (x x' : World) (B : Nat) (e : TypeId) (st : Nat) (v v' : Value) (n k : Nat) (xs : List Value) : Prop :=
  (∃ g cap, v = .slice (some ⟨g, 0, none⟩) n cap ∧ v' = .slice (some ⟨g, 0, none⟩) (n + k) cap ∧ x'.ownsRow B e st v' (n + k) xs ∧ ButL [g] x x') ∨ (x'.ownsRow x.heap.size e st v' (n + k) xs ∧ Below x.heap.size x x')
theorem KR.mid {W x x' : World} {fa : Dp} {m : DS} {Z D : List RowT} {hv gv : Value} {hs gs : List Value} (h : KR W x fa m Z D hv hs gv gs) {g : Nat} {cur : Array Value} {e : TypeId} (hg : x.heap[g]? = some (.cells cur e (0, 0))) (he : e = 3 ∨ e = 25) (hW : W.heap.size ≤ g) (hb : ButL [g] x x') : DB x' fa m ∧ Below W.heap.size W x' :=
  ⟨h.a.frame hb (fun k hk hm => by rw [List.mem_singleton] at hm; exact h.a.not hg he (hm ▸ hk)), h.below.trans (hb.below (by simpa using hW) h.below.size)⟩
theorem KR.headL {W x x' : World} {fa : Dp} {m : DS} {Z D : List RowT} {hv gv hv' u : Value} {hs gs : List Value} (h : KR W x fa m Z D hv hs gv gs) (ht : Two2 x x' W.heap.size 25 1 hv hv' hs.length 1 (hs ++ [u])) : KR W x' fa m Z D hv' (hs ++ [u]) gv gs := by
  rcases ht with ⟨g, cap, rfl, rfl, ho, hb⟩ | ⟨ho, hb⟩
  · obtain ⟨cur, hc⟩ := own_ty h.h1 (g := g) rfl
    obtain ⟨m1, m2⟩ := h.mid hc (.inr rfl) (h.h1.lt g rfl).1 hb
    exact ⟨m1, m2, h.la, fun z hz => own_keep (h.own z hz) hb (fun k hk hm => own_ne (h.own z hz) h.h1 (by decide) k hk (by rw [List.mem_singleton] at hm; rw [hm]; rfl)), h.ap, fun z hz => own_keep (h.dn z hz) hb (fun k hk hm => own_ne (h.dn z hz) h.h1 (by decide) k hk (by rw [List.mem_singleton] at hm; rw [hm]; rfl)), h.zd, by rw [List.length_append]; exact ho, own_keep h.h2 hb (fun k hk hm => h.h12 k (by rw [List.mem_singleton] at hm; rw [hm]; rfl) hk), fun k hk => h.h12 k hk⟩
  · have h' := h.on hb
    exact ⟨h'.a, h'.below, h'.la, h'.own, h'.ap, h'.dn, h'.zd, by rw [List.length_append]; exact own_mono ho h.below.size, h'.h2, (own_new h.h2 ho).symm⟩
theorem KR.headM {W x x' : World} {fa : Dp} {m : DS} {Z D : List RowT} {hv gv gv' u : Value} {hs gs : List Value} (h : KR W x fa m Z D hv hs gv gs) (ht : Two2 x x' W.heap.size 25 1 gv gv' gs.length 1 (gs ++ [u])) : KR W x' fa m Z D hv hs gv' (gs ++ [u]) := by
  have hs' : KR W x fa m Z D gv gs hv hs := ⟨h.a, h.below, h.la, h.own, h.ap, h.dn, h.zd, h.h2, h.h1, h.h12.symm⟩
  have h' := hs'.headL ht
  exact ⟨h'.a, h'.below, h'.la, h'.own, h'.ap, h'.dn, h'.zd, h'.h2, h'.h1, h'.h12.symm⟩
/-- A row is written. -/
theorem KR.set {W x x' : World} {fa : Dp} {m : DS} {Z D : List RowT} {hv gv : Value} {hs gs : List Value} (h : KR W x fa m Z D hv hs gv gs) (k : Nat) {v : Value} {A A' : List Value} (hk : Z[k]? = some (v, A)) {g : Nat} (hg : v.ownBlock = some g) (hb : ButL [g] x x') (ho : x'.ownsRow W.heap.size 3 1 v A'.length A') : KR W x' fa m (Z.set k (v, A')) D hv hs gv gs := by
  have hm := List.mem_of_getElem? hk
  obtain ⟨hkl, hke⟩ := List.getElem?_eq_some_iff.1 hk
  have hv := h.own _ hm
  obtain ⟨cur, hc⟩ := own_ty hv hg
  obtain ⟨m1, m2⟩ := h.mid hc (.inl rfl) (hv.lt g hg).1 hb
  have hap : ∀ j y, Z[j]? = some y → j ≠ k → Ap y.1 v := fun j y hj hjk => by
    obtain ⟨hjl, hje⟩ := List.getElem?_eq_some_iff.1 hj
    rcases Nat.lt_or_gt_of_ne hjk with hlt | hlt
    · have := List.pairwise_iff_getElem.1 h.ap j k hjl hkl hlt
      rw [hje, hke] at this
      exact this
    · have := List.pairwise_iff_getElem.1 h.ap k j hkl hjl hlt
      rw [hje, hke] at this
      exact this.symm
  have hset : ∀ y ∈ Z.set k (v, A'), (∃ j, Z[j]? = some y ∧ j ≠ k) ∨ y = (v, A') := fun y hy => by
    obtain ⟨j, hj⟩ := List.getElem?_of_mem hy
    by_cases e : k = j
    · subst e
      rw [List.getElem?_set_self hkl] at hj
      exact .inr (Option.some.inj hj).symm
    · rw [List.getElem?_set_ne e] at hj
      exact .inl ⟨j, hj, fun e' => e e'.symm⟩
  refine ⟨m1, m2, h.la, fun z hz => ?_, ?_, fun d hd => own_keep (h.dn d hd) hb (fun j hj hm' => by rw [List.mem_singleton] at hm'; exact h.zd _ hm d hd g hg (hm' ▸ hj)), fun z hz d hd => ?_, own_keep h.h1 hb (fun j hj hm' => by rw [List.mem_singleton] at hm'; exact own_ne hv h.h1 (by decide) g hg (hm' ▸ hj)), own_keep h.h2 hb (fun j hj hm' => by rw [List.mem_singleton] at hm'; exact own_ne hv h.h2 (by decide) g hg (hm' ▸ hj)), h.h12⟩
  · rcases hset z hz with ⟨j, hj, hjk⟩ | rfl
    · exact own_keep (h.own z (List.mem_of_getElem? hj)) hb (fun i hi hm' => by rw [List.mem_singleton] at hm'; exact hap j z hj hjk g (hm' ▸ hi) hg)
    · exact ho
  · have he : (Z.set k (v, A')).map (·.1) = Z.map (·.1) := by
      rw [List.map_set]
      apply List.ext_getElem?
      intro j
      by_cases e : k = j
      · subst e
        rw [List.getElem?_set_self (by simpa using hkl)]
        simp [hk]
      · rw [List.getElem?_set_ne e]
    have h1 : (Z.map (·.1)).Pairwise Ap := List.pairwise_map.2 h.ap
    rw [← he] at h1
    exact List.pairwise_map.1 h1
  · rcases hset z hz with ⟨j, hj, _⟩ | rfl
    · exact h.zd z (List.mem_of_getElem? hj) d hd
    · exact h.zd _ hm d hd
/-- A list that is lengthened, and the list that it was. -/
structure LV (W x : World) (fa : Dp) (m : DS) (Z D : List RowT) (hv : Value) (hs : List Value) (gv : Value) (gs : List Value) (lv : Value) (B : List Value) (vt : Value) (A : List Value) : Prop where
  k : KR W x fa m Z D hv hs gv gs
  ol : Rw x W.heap.size (lv, B)
  ot : Rw x W.heap.size (vt, A)
  lz : ∀ z ∈ Z, Ap lv z.1
  ld : ∀ d ∈ D, Ap lv d.1
  tz : ∀ z ∈ Z, Ap vt z.1
  al : Ap lv vt ∨ ∃ g cap C, lv = .slice (some ⟨g, 0, none⟩) B.length cap ∧ vt = .slice (some ⟨g, 0, none⟩) A.length cap ∧ B = A ++ C
theorem LV.start {W x : World} {fa : Dp} {m : DS} {Z D : List RowT} {hv gv vt : Value} {hs gs : List Value} {A : List Value} (h : KR W x fa m ((vt, A) :: Z) D hv hs gv gs) : LV W x fa m Z D hv hs gv gs vt A vt A := by
  have ho := h.own (vt, A) (by simp)
  have hp := List.pairwise_cons.1 h.ap
  refine ⟨⟨h.a, h.below, h.la, fun z hz => h.own z (by simp [hz]), hp.2, h.dn, fun z hz => h.zd z (by simp [hz]), h.h1, h.h2, h.h12⟩, ho, ho, fun z hz => hp.1 z hz, fun d hd => h.zd (vt, A) (by simp) d hd, fun z hz => hp.1 z hz, ?_⟩
  rcases ho.2 with ⟨hn, _⟩ | ⟨g, cap, cur, hn, _⟩
  · left
    simp only at hn
    subst hn
    intro g hg
    cases hg
  · right
    exact ⟨g, cap, [], hn, hn, by simp⟩
theorem LV.on {W x x' : World} {fa : Dp} {m : DS} {Z D : List RowT} {hv gv lv vt : Value} {hs gs : List Value} {A B : List Value} (h : LV W x fa m Z D hv hs gv gs lv B vt A) (hb : Below x.heap.size x x') : LV W x' fa m Z D hv hs gv gs lv B vt A :=
  ⟨h.k.on hb, own_on2 h.ol hb, own_on2 h.ot hb, h.lz, h.ld, h.tz, h.al⟩
theorem LV.app {W x x' : World} {fa : Dp} {m : DS} {Z D : List RowT} {hv gv lv lv' vt : Value} {hs gs : List Value} {A B : List Value} {y : Value} (h : LV W x fa m Z D hv hs gv gs lv B vt A) (ht : Two2 x x' W.heap.size 3 1 lv lv' B.length 1 (B ++ [y])) : LV W x' fa m Z D hv hs gv gs lv' (B ++ [y]) vt A := by
  rcases ht with ⟨g, cap, rfl, rfl, ho, hb⟩ | ⟨ho, hb⟩
  · have hol := h.ol
    obtain ⟨cur, hc⟩ := own_ty hol (g := g) rfl
    obtain ⟨m1, m2⟩ := h.k.mid hc (.inl rfl) (hol.lt g rfl).1 hb
    have hk : KR W x' fa m Z D hv hs gv gs := ⟨m1, m2, h.k.la, fun z hz => own_keep (h.k.own z hz) hb (fun i hi hm => by rw [List.mem_singleton] at hm; exact h.lz z hz g rfl (hm ▸ hi)), h.k.ap, fun z hz => own_keep (h.k.dn z hz) hb (fun i hi hm => by rw [List.mem_singleton] at hm; exact h.ld z hz g rfl (hm ▸ hi)), h.k.zd, own_keep h.k.h1 hb (fun i hi hm => by rw [List.mem_singleton] at hm; exact own_ne hol h.k.h1 (by decide) g rfl (hm ▸ hi)), own_keep h.k.h2 hb (fun i hi hm => by rw [List.mem_singleton] at hm; exact own_ne hol h.k.h2 (by decide) g rfl (hm ▸ hi)), h.k.h12⟩
    have ho2 : Rw x' W.heap.size (.slice (some ⟨g, 0, none⟩) (B.length + 1) cap, B ++ [y]) := by
      unfold Rw
      simp only [List.length_append, List.length_singleton]
      exact ho
    refine ⟨hk, ho2, ?_, fun z hz i hi => h.lz z hz i hi, fun d hd i hi => h.ld d hd i hi, h.tz, ?_⟩
    · rcases h.al with hap | ⟨g', cap', C, e1, e2, e3⟩
      · exact own_keep h.ot hb (fun i hi hm => by rw [List.mem_singleton] at hm; exact hap g rfl (hm ▸ hi))
      · cases e1
        subst e2
        unfold Rw
        subst e3
        have e4 : (A ++ C) ++ [y] = A ++ (C ++ [y]) := by simp
        rw [e4, show (A ++ C).length + 1 = A.length + (C.length + 1) by rw [List.length_append]; omega] at ho
        exact own_prefix ho (by simp)
    · rcases h.al with hap | ⟨g', cap', C, e1, e2, e3⟩
      · exact .inl (fun i hi => hap i hi)
      · cases e1
        exact .inr ⟨g, cap, C ++ [y], by simp, e2, by rw [e3, List.append_assoc]⟩
  · have ho2 : x'.ownsRow x.heap.size 3 1 lv' (B ++ [y]).length (B ++ [y]) := by
      rw [List.length_append, List.length_singleton]; exact ho
    exact ⟨h.k.on hb, own_mono ho2 h.k.below.size, own_on2 h.ot hb, fun z hz => (own_new (h.k.own z hz) ho2).symm, fun d hd => (own_new (h.k.dn d hd) ho2).symm, h.tz, .inl (own_new h.ot ho2).symm⟩
theorem LV.done {W x : World} {fa : Dp} {m : DS} {Z D : List RowT} {hv gv lv vt : Value} {hs gs : List Value} {A B : List Value} (h : LV W x fa m Z D hv hs gv gs lv B vt A) : KR W x fa m Z (D ++ [(vt, A), (lv, B)]) hv hs gv gs := by
  refine ⟨h.k.a, h.k.below, h.k.la, h.k.own, h.k.ap, fun d hd => ?_, fun z hz d hd => ?_, h.k.h1, h.k.h2, h.k.h12⟩
  · simp only [List.mem_append, List.mem_cons, List.not_mem_nil, or_false] at hd
    rcases hd with hd | rfl | rfl
    · exact h.k.dn d hd
    · exact h.ot
    · exact h.ol
  · simp only [List.mem_append, List.mem_cons, List.not_mem_nil, or_false] at hd
    rcases hd with hd | rfl | rfl
    · exact h.k.zd z hz d hd
    · exact (h.tz z hz).symm
    · exact (h.lz z hz).symm
end Go.Proofs.YtdfnbcbnmiohnaaGreatDoor
namespace Go.Proofs.YtdfnbcbnmiohnaaGreatDoor
open Go.RowKit
set_option maxRecDepth 100000
set_option maxHeartbeats 4000000
def DS.planV (d : DS) (s : Nat) : List Value := if (d.ent (s : Int)).t = 1 then ints (d.planL s) else []
theorem planV_len (d : DS) (s : Nat) (hn : d.m.ns = 8) : (d.planV s).length ≤ 9 := by
  unfold DS.planV
  split
  · have := owned_len d (s : Int)
    simp [ints, DS.planL]
    omega
  · simp
theorem planV_pos (d : DS) (s : Nat) : (0 < (d.planV s).length ↔ (d.ent (s : Int)).t = 1) := by
  unfold DS.planV
  split
  · rename_i h; simp [ints, DS.planL, h]
  · rename_i h; simp [h]
theorem planV_int (d : DS) (s : Nat) {j : Nat} {u : Value} (h : (d.planV s)[j]? = some u) : ∃ x : Int, u = .int .i64 x := by
  unfold DS.planV at h
  split at h
  · unfold ints at h
    rw [List.getElem?_map] at h
    cases h2 : (d.planL s)[j]? with
    | none => rw [h2] at h; cases h
    | some y => rw [h2] at h; exact ⟨_, (Option.some.inj h).symm⟩
  · simp at h
theorem plan_row_yes (W : World) (p : Dp) (d : DS) (h : DB W p d) (s : Nat) (t1 : (d.ent (s : Int)).t = 1) :
    Calls Tryz.prog 9 #[ptr p.g, .int .i64 (s : Int)] W fun e W' => ∃ v, e = .returned v ∧ W'.ownsRow W.heap.size 3 1 v (d.planL s).length (ints (d.planL s)) ∧ Below W.heap.size W W' := by
  have HE := hid (entry_any W p d h (s : Int))
  have HO := hid (fun w (h : DB w p d) => owned_any w p d h (s : Int))
  have HD := hid h
  have HLn := hid (Nat.le_trans (owned_len d (s : Int)) h.ok.n64)
  have n1 : ((d.ent (s : Int)).t != 1) = false := by simpa using t1
  clear h t1
  unfold DS.planL
  simp only [ptr, En.v, En.cs] at *
  generalize d.ent (s : Int) = E at *
  generalize d.owned (s : Int) = A at *
  go_enter Tryz.func9, Tryz.ntmps9
  go_upto_region 2 with (go_at_call 45; refine HE.out.mono ?_; rintro e w1 ⟨rfl, hb⟩; have D1 := hid ((HD.out.on hb).on (below_one w1 (.cells #[.int .i64 E.t, .int .i64 E.o, .int .i64 E.r, .int .i64 E.s, .bool E.e] 30))); have B1 := hid (below_on hb (below_one w1 (.cells #[.int .i64 E.t, .int .i64 E.o, .int .i64 E.r, .int .i64 E.s, .bool E.e] 30))); have C1 := hid (Cel.new w1 30 [.int .i64 E.t, .int .i64 E.o, .int .i64 E.r, .int .i64 E.s, .bool E.e]); clear hb HE HD)
  generalize World.alloc _ _ = Y at *
  generalize w1.heap.size = g5 at *
  have c0 := C1.out.cell 0
  simp only [List.getElem?_cons_zero] at c0
  go_upto_region 4 with fail
  obtain ⟨i0, hi, hz0, hz1, hz2⟩ := info_parts info3
  have hAm : A.length + 1 ≤ maxLen := by have := HLn.out; unfold maxLen; omega
  have hAb : (A.length + 1) * 8 ≤ 140737488355328 := by have := HLn.out; omega
  go_wp2_with (first | (go_at_call 46; refine (HO.out _ D1.out).mono ?_; rintro e w2 ⟨v, rfl, hO, hb⟩; obtain ⟨xo, xc, rfl⟩ := own3_slice hO; have O2 := hid hO; have B2 := hid (below_on B1.out hb); have BY := hid hb.size; clear hO hb) | (at_builtin; refine wpList_append_own _ rfl _ _ 25 rfl Y.heap.size 3 i0 (.int .i64 0) 1 8 under45 hi hz0 hz1 hz2 rfl (by decide) (.slice xo A.length xc) A.length (ints A) rfl (O2.out.alloc _) ⟨w2.heap.size, 0, none⟩ 1 1 [.int .i64 (s : Int)] rfl rfl (Cel.new w2 3 [.int .i64 (s : Int)]).src (ints_oneCell .i64 [(s : Int)]) hAm hAb (by have := BY.out; simp; omega) ?_; intro v' w3 hown hgrow _; have O3 := hid hown; have G3 := hid hgrow; clear hown hgrow))
  go_ret
  have hO : w3.ownsRow Y.heap.size 3 1 v' (A ++ [s]).length (ints (A ++ [s])) := by
    have := O3.out
    rw [List.length_append, List.length_singleton]
    unfold ints at this ⊢
    rw [List.map_append]
    exact this
  have hbY := B1.out.size
  have b2 := below_on B2.out (below_one w2 (.cells #[.int .i64 (s : Int)] 3))
  refine ⟨v', rfl, own_mono hO hbY, b2.trans ?_⟩
  refine ⟨G3.out.os, G3.out.tape, G3.out.output, G3.out.size, fun k hk => G3.out.block k (by have := b2.size; omega) (fun e => ?_)⟩
  rcases O2.out.2 with ⟨hn, _⟩ | ⟨g', cap, cur, hn, hge, _⟩
  · rw [hn] at e; cases e
  · rw [hn] at e
    have e2 : g' = k := by simpa [Value.ownBlock] using e.symm
    omega
theorem plan_row (W : World) (p : Dp) (d : DS) (h : DB W p d) (s : Nat) :
    Calls Tryz.prog 9 #[ptr p.g, .int .i64 (s : Int)] W fun e W' => ∃ v, e = .returned v ∧ W'.ownsRow W.heap.size 3 1 v (d.planV s).length (d.planV s) ∧ Below W.heap.size W W' := by
  by_cases t1 : (d.ent (s : Int)).t = 1
  · refine (plan_row_yes W p d h s t1).mono fun e W' ⟨v, he, ho, hb⟩ => ⟨v, he, ?_, hb⟩
    unfold DS.planV
    rw [if_pos t1]
    have : (ints (d.planL s)).length = (d.planL s).length := by simp [ints]
    rw [this]
    exact ho
  · refine (plan_no W p d h (s : Int) t1).mono fun e W' ⟨he, hb⟩ => ⟨_, he, ?_, hb⟩
    unfold DS.planV
    rw [if_neg t1]
    exact World.ownsRow_nil _ _ _ _
theorem KR.begin {W w : World} {p : Dp} {d : DS} (h : OD W w p d) : KR W w p d [] [] (.slice none 0 0) [] (.slice none 0 0) [] :=
  ⟨h.db, h.bl, h.own, by simp, by simp, by simp, by simp, World.ownsRow_nil _ _ _ _, World.ownsRow_nil _ _ _ _, fun g hg => by cases hg⟩
theorem KR.od {W w : World} {p : Dp} {d : DS} {Z D : List RowT} {hv gv : Value} {hs gs : List Value} (h : KR W w p d Z D hv hs gv gs) : OD W w p d := ⟨h.a, h.below, h.la⟩
theorem underLL : Tryz.prog.underlying 32 = some (.slice 25) := by kernel_rfl
theorem info25 : (Tryz.prog.info? 25).map (fun i => (i.zero, i.size, i.bytes)) = some (some (.slice none 0 0), 1, 24) := by kernel_rfl
theorem app32 {w : World} {ops : Array Oper} {rest : List Oper} {o : Oper} {ac : Act} {Q : Exit → Act → World → Prop} (hgd : o.guard = none) (s x : Operand)
    (ho : o.op = .call { callee := .builtin .append, args := #[s, x], argTypes := #[32, 32] }) {B : Nat} {v : Value} {hs : List Value} (hsv : ac.eval s = v) (hown : w.ownsRow B 25 1 v hs.length hs) (hbase : B ≤ w.heap.size) {g : Nat} {ao : Option Addr} {n c : Nat} (hx : ac.eval x = .slice (some ⟨g, 0, none⟩) 1 1) (hc : Cel w g 25 [.slice ao n c])
    (hb : hs.length ≤ 10) (h : ∀ v' w', Two2 w w' B 25 1 v v' hs.length 1 (hs ++ [.slice ao n c]) → wpList Tryz.prog ops Q rest (ac.put o.dst v') w') : wpList Tryz.prog ops Q (o :: rest) ac w := by
  obtain ⟨i, hi, hz, hsize, hby⟩ := info_parts info25
  exact wpList_append_two hgd s x 32 ho underLL hi hz hsize hby rfl (by decide) hsv hown hbase hx (news := [.slice ao n c]) rfl hc.src (by intro u hu; rw [List.mem_singleton] at hu; subst hu; rfl) (by unfold maxLen; omega) (by omega) h
theorem app25 {w : World} {ops : Array Oper} {rest : List Oper} {o : Oper} {ac : Act} {Q : Exit → Act → World → Prop} (hgd : o.guard = none) (s x : Operand)
    (ho : o.op = .call { callee := .builtin .append, args := #[s, x], argTypes := #[25, 25] }) {B : Nat} {v : Value} {C : List Value} (hsv : ac.eval s = v) (hown : w.ownsRow B 3 1 v C.length C) (hbase : B ≤ w.heap.size) {g : Nat} {y : Int} (hx : ac.eval x = .slice (some ⟨g, 0, none⟩) 1 1) (hc : Cel w g 3 [.int .i64 y])
    (hb : C.length ≤ 1000000) (h : ∀ v' w', Two2 w w' B 3 1 v v' C.length 1 (C ++ [.int .i64 y]) → wpList Tryz.prog ops Q rest (ac.put o.dst v') w') : wpList Tryz.prog ops Q (o :: rest) ac w := by
  obtain ⟨i, hi, hz, hsize, hby⟩ := info_parts info3
  exact wpList_append_two hgd s x 25 ho under45 hi hz hsize hby rfl (by decide) hsv hown hbase hx (news := [.int .i64 y]) rfl hc.src (by intro u hu; rw [List.mem_singleton] at hu; subst hu; rfl) (by unfold maxLen; omega) (by omega) h
theorem appAll {w : World} {ops : Array Oper} {rest : List Oper} {o : Oper} {ac : Act} {Q : Exit → Act → World → Prop} (hgd : o.guard = none) (s x : Operand)
    (ho : o.op = .call { callee := .builtin .append, args := #[s, x], argTypes := #[25, 25] }) {B : Nat} {A : List Value} (hA1 : ∀ u ∈ A, u.oneCell' = true) (hsv : ac.eval s = .slice none 0 0) {v : Value} (hx : ac.eval x = v) (hown : w.ownsRow B 3 1 v A.length A)
    (hb : A.length ≤ 1000000) (h : ∀ v' w', w'.ownsRow w.heap.size 3 1 v' A.length A → Below w.heap.size w w' → wpList Tryz.prog ops Q rest (ac.put o.dst v') w') : wpList Tryz.prog ops Q (o :: rest) ac w := by
  obtain ⟨i, hi, hz, hsize, hby⟩ := info_parts info3
  rcases hown.2 with ⟨rfl, hn⟩ | ⟨g, cap, cur, rfl, _⟩
  · have hA : A = [] := List.eq_nil_of_length_eq_zero hn
    subst hA
    exact wpList_append_own_none hgd s x 25 ho w.heap.size 3 i 1 under45 hi (.slice none 0 0) 0 [] hsv (World.ownsRow_nil _ _ _ _) hx (h _ _ (World.ownsRow_nil _ _ _ _) (Below.refl _ _))
  · refine wpList_append_two hgd s x 25 ho under45 hi hz hsize hby rfl (by decide) (base := w.heap.size) (n := 0) (xs := []) hsv (World.ownsRow_nil _ _ _ _) (Nat.le_refl _) hx (news := A) (by simp) (hown.cells (g := g) rfl) hA1 (by unfold maxLen; omega) (by omega) ?_
    rintro v' w' (⟨g', cap', hh, _⟩ | ⟨h1, h2⟩)
    · cases hh
    · rw [Nat.zero_add, List.nil_append] at h1
      exact h v' w' h1 h2
/-- The marks of the list number k. -/
def mrk (k n : Nat) : List Value := List.replicate n (.int .i64 (-(k : Int) - 1))
theorem mrk_len (k n : Nat) : (mrk k n).length = n := by simp [mrk]
theorem mrk_at (k n i : Nat) (h : i < n) : (mrk k n)[i]? = some (.int .i64 (-(k : Int) - 1)) := by simp [mrk, h]
def wrm (k : Nat) (A : List Value) (j : Nat) : List Value := mrk k j ++ A.drop j
theorem wrm_len (k : Nat) (A : List Value) (j : Nat) (h : j ≤ A.length) : (wrm k A j).length = A.length := by rw [wrm, List.length_append, mrk_len, List.length_drop]; omega
theorem wrm_all (k : Nat) (A : List Value) : wrm k A A.length = mrk k A.length := by simp [wrm]
theorem wrm_set (k : Nat) (A : List Value) (j : Nat) (h : j < A.length) : (wrm k A j).set j (.int .i64 (-(k : Int) - 1)) = wrm k A (j + 1) := by
  apply List.ext_getElem?
  intro i
  rw [List.getElem?_set]
  by_cases e : j = i
  · subst e
    rw [if_pos rfl, if_pos (by rw [wrm_len _ _ _ (by omega)]; exact h), wrm, List.getElem?_append_left (by rw [mrk_len]; omega), mrk_at _ _ _ (by omega)]
  · rw [if_neg e, wrm, wrm]
    by_cases h1 : i < j
    · rw [List.getElem?_append_left (by rw [mrk_len]; exact h1), List.getElem?_append_left (by rw [mrk_len]; omega), mrk_at _ _ _ h1, mrk_at _ _ _ (by omega)]
    · rw [List.getElem?_append_right (by rw [mrk_len]; omega), List.getElem?_append_right (by rw [mrk_len]; omega), mrk_len, mrk_len, List.getElem?_drop, List.getElem?_drop]
      congr 1
      omega
/-- A word is stored into a row. -/
theorem own_store1 {x : World} {B : Nat} {g n cap : Nat} {C : List Value} (h : x.ownsRow B 3 1 (.slice (some ⟨g, 0, none⟩) n cap) n C) (j : Nat) (y : Value) :
    (x.setCell ⟨g, j, none⟩ y).ownsRow B 3 1 (.slice (some ⟨g, 0, none⟩) n cap) n (C.set j y) ∧ ButL [g] x (x.setCell ⟨g, j, none⟩ y) := by
  refine ⟨?_, .setCell x g j y (by simp)⟩
  obtain ⟨h1, h2⟩ := h
  refine ⟨by rw [List.length_set]; exact h1, ?_⟩
  rcases h2 with ⟨hn, _⟩ | ⟨g', cap', cur, hn, hb, h2, h3, h4, h5, h6⟩
  · cases hn
  · cases hn
    refine .inr ⟨g, cap, cur.setIfInBounds j y, rfl, hb, heap_setCell_same x g j _ 3 _ h2, ?_, ?_, ?_, ?_⟩
    · exact h3
    · exact h4
    · rw [Array.size_setIfInBounds]; exact h5
    · rw [← h6, Array.toList_setIfInBounds, List.take_set]
end Go.Proofs.YtdfnbcbnmiohnaaGreatDoor
