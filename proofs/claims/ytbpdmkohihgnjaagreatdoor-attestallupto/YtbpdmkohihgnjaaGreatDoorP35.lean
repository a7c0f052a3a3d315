import Derived.Test.YtbpdmkohihgnjaaGreatDoorP28
import Derived.Test.YtbpdmkohihgnjaaGreatDoorP34
import Derived.ArgAppend
import Derived.Laws.OwnMore
import Derived.Test.YtbpdmkohihgnjaaGreatDoorP04
import Derived.Test.YtbpdmkohihgnjaaGreatDoorP22
import Derived.Deep.RegionHeld3
import Derived.Test.YtbpdmkohihgnjaaGreatDoorP01
import Derived.Test.YtbpdmkohihgnjaaGreatDoorP20
import Derived.OwnWalk
namespace Go.Proofs.YtbpdmkohihgnjaaGreatDoor.Y
open Go.RowKit
set_option maxRecDepth 100000
theorem own_base {w : World} {B B' : Nat} {e : TypeId} {s : Nat} {v : Value} {n : Nat} {L : List Value} (h : w.ownsRow B e s v n L) (hB : B' ≤ B) : w.ownsRow B' e s v n L :=
  ⟨h.1, h.2.imp id fun ⟨g, cap, cur, hv, hg, r⟩ => ⟨g, cap, cur, hv, Nat.le_trans hB hg, r⟩⟩
theorem own_but {w w' : World} {B : Nat} {e : TypeId} {s : Nat} {v : Value} {n : Nat} {L : List Value} {g : Nat} (h : w.ownsRow B e s v n L) (hb : But g w w') (hn : ¬ v.ownBlock = some g) : w'.ownsRow B e s v n L :=
  ⟨h.1, h.2.imp id fun ⟨gg, cap, cur, hv, hB, hg, r⟩ => ⟨gg, cap, cur, hv, hB, (hb.block gg (Array.getElem?_eq_some_iff.1 hg).1 (fun e => hn (by rw [hv, ← e]; rfl))).trans hg, r⟩⟩
structure Rr where
  e : TypeId
  st : Nat
  v : Value
  n : Nat
  xs : List Value
def Rr.ok (w : World) (B : Nat) (r : Rr) : Prop := w.ownsRow B r.e r.st r.v r.n r.xs
def rp (n : Nat) (cs : List Value) : List Value := (List.replicate n cs).flatten
theorem rp_len (n : Nat) (cs : List Value) : (rp n cs).length = n * cs.length := by simp [rp]
theorem rp_succ (n : Nat) (cs : List Value) : rp (n + 1) cs = rp n cs ++ cs := by
  unfold rp
  rw [List.replicate_succ', List.flatten_append]
  simp
structure Hk where
  e : TypeId
  st : Nat
  vl : Value
  vm : Value
  n : Nat
  m : Nat
  cs : List Value
structure Hk.ok (w : World) (B : Nat) (h : Hk) : Prop where
  l : w.ownsRow B h.e h.st h.vl h.n (rp h.n h.cs)
  m : w.ownsRow B h.e h.st h.vm h.m (rp h.m h.cs)
structure KS (W w : World) (R : List Rr) (H : List Hk) : Prop where
  below : Below W.heap.size W w
  own : ∀ (i : Nat) (r : Rr), R[i]? = some r → r.ok w W.heap.size
  ap : ∀ (i j : Nat) (r s : Rr), i ≠ j → R[i]? = some r → R[j]? = some s → ∀ g, r.v.ownBlock = some g → s.v.ownBlock ≠ some g
  each : ∀ h ∈ H, h.ok w W.heap.size
  off : ∀ (i : Nat) (r : Rr), R[i]? = some r → ∀ g, r.v.ownBlock = some g → ∀ h ∈ H, h.vl.ownBlock ≠ some g ∧ h.vm.ownBlock ≠ some g
theorem own_lt2 {x : World} {B : Nat} {e : TypeId} {st : Nat} {v : Value} {n : Nat} {xs : List Value} (h : x.ownsRow B e st v n xs) {g : Nat} (hg : v.ownBlock = some g) : B ≤ g ∧ g < x.heap.size := h.lt g hg
theorem own_on {w w' : World} {B : Nat} {e : TypeId} {st : Nat} {v : Value} {n : Nat} {xs : List Value} (h : w.ownsRow B e st v n xs) (hb : Below w.heap.size w w') : w'.ownsRow B e st v n xs := ownsRow_below h hb
theorem own_frm {w : World} {b : Nat} {e : TypeId} {st : Nat} {v : Value} {n : Nat} {xs : List Value} (h : w.ownsRow b e st v n xs) (_hst : 0 < st) : ∃ ao c, v = .slice ao n c := by
  rcases h.2 with ⟨hv, hn⟩ | ⟨g, cap, cur, hv, _⟩
  · exact ⟨none, 0, by rw [hv, hn]⟩
  · exact ⟨_, _, hv⟩
theorem own_some {w : World} {B : Nat} {e : TypeId} {s : Nat} {ao : Option Addr} {n c : Nat} {xs : List Value} (h : w.ownsRow B e s (.slice ao n c) n xs) (hn : 0 < n) : ∃ g, ao = some ⟨g, 0, none⟩ := by
  rcases h.2 with ⟨hv, _⟩ | ⟨g, cap, cur, hv, _⟩
  · injection hv with _ h0 _
    omega
  · injection hv with hv
    exact ⟨g, hv⟩
theorem own_cap {w : World} {B : Nat} {e : TypeId} {s : Nat} {ao : Option Addr} {n c : Nat} {xs : List Value} (h : w.ownsRow B e s (.slice ao n c) n xs) : n ≤ c := by
  rcases h.2 with ⟨hv, _⟩ | ⟨g, cap, cur, hv, _, _, h1, _⟩
  · injection hv with _ h0 h1
    omega
  · injection hv with _ _ hc
    omega
theorem addr_add (g o j : Nat) : (⟨g, o, none⟩ : Addr).add j = ⟨g, o + j, none⟩ := by unfold Addr.add; split <;> simp_all
theorem own_rng {w : World} {B : Nat} {e : TypeId} {s : Nat} {g n c : Nat} {xs : List Value} (h : w.ownsRow B e s (.slice (some ⟨g, 0, none⟩) n c) n xs) : w.rangeAt g 0 xs := fun j u hu => by
  have := h.cells (g := g) rfl j u hu
  rw [addr_add] at this
  exact this
theorem own_free {w : World} {B : Nat} {e : TypeId} {s : Nat} {g n c : Nat} {xs : List Value} (h : w.ownsRow B e s (.slice (some ⟨g, 0, none⟩) n c) n xs) (j : Nat) : w.frozen? ⟨g, j, none⟩ = false := by
  rcases h.2 with ⟨hv, _⟩ | ⟨g', cap, cur, hv, _, hg, _⟩
  · cases hv
  · cases hv
    exact frozen_of_row w g j _ e hg
theorem own_setc {w : World} {B : Nat} {e : TypeId} {s : Nat} {g n c : Nat} {xs : List Value} (h : w.ownsRow B e s (.slice (some ⟨g, 0, none⟩) n c) n xs) (j : Nat) (u : Value) : (w.setCell ⟨g, j, none⟩ u).ownsRow B e s (.slice (some ⟨g, 0, none⟩) n c) n (xs.set j u) := by
  refine ⟨by rw [List.length_set]; exact h.1, .inr ?_⟩
  rcases h.2 with ⟨hv, _⟩ | ⟨g', cap, cur, hv, hB, hg, h1, h2, h3, h4⟩
  · cases hv
  · cases hv
    refine ⟨g, c, cur.setIfInBounds j u, rfl, hB, ?_, h1, h2, by simpa using h3, ?_⟩
    · exact heap_setCell_same w g j cur e _ hg
    · rw [Array.toList_setIfInBounds, List.take_set, h4]
variable {W w w' : World} {R R' : List Rr} {H : List Hk} {r : Rr}
theorem KS.start (W : World) : KS W W [] [] := ⟨Below.refl _ _, fun _ _ h => (by simp at h), fun _ _ _ _ _ h => (by simp at h), fun _ h => (by cases h), fun _ _ h => (by simp at h)⟩
theorem KS.on (h : KS W w R H) (hb : Below w.heap.size w w') : KS W w' R H :=
  ⟨below_on h.below hb, fun i r hr => own_on (h.own i r hr) hb, h.ap, fun x hx => ⟨own_on (h.each x hx).l hb, own_on (h.each x hx).m hb⟩, h.off⟩
theorem KS.emb (h : KS W w R H) (f : Nat → Nat) (hf : ∀ i r, R'[i]? = some r → R[f i]? = some r) (hi : ∀ i j, i ≠ j → f i ≠ f j) : KS W w R' H :=
  ⟨h.below, fun i r hr => h.own _ r (hf i r hr), fun i j r s hij hr hs => h.ap _ _ r s (hi i j hij) (hf i r hr) (hf j s hs), h.each, fun i r hr => h.off _ r (hf i r hr)⟩
theorem KS.tail (h : KS W w (r :: R) H) : KS W w R H := h.emb (· + 1) (fun i r hr => by simpa using hr) (fun i j hij => by omega)
theorem KS.er (h : KS W w R H) (k : Nat) : KS W w (R.eraseIdx k) H := h.emb (fun i => if i < k then i else i + 1) (fun i r hr => by
  rw [List.getElem?_eraseIdx] at hr
  by_cases hk : i < k
  · rw [if_pos hk] at hr
    simp only [hk, if_true]
    exact hr
  · rw [if_neg hk] at hr
    simp only [hk, if_false]
    exact hr) (fun i j hij => by split <;> split <;> omega)
theorem KS.mem (h : KS W w R H) {i : Nat} (hr : R[i]? = some r) : w.ownsRow W.heap.size r.e r.st r.v r.n r.xs := h.own i r hr
theorem KS.add (h : KS W w R H) (r : Rr) (hb : Below w.heap.size w w') (hr : r.ok w' w.heap.size) : KS W w' (r :: R) H := by
  have h' := h.on hb
  have new : ∀ g, r.v.ownBlock = some g → w.heap.size ≤ g := fun g hg => (own_lt2 hr hg).1
  have old : ∀ (i : Nat) (s : Rr), R[i]? = some s → ∀ g, s.v.ownBlock = some g → g < w.heap.size := fun i s hs g hg => (own_lt2 (h.own i s hs) hg).2
  refine ⟨h'.below, fun i s hs => ?_, fun i j s t hij hs ht g hg => ?_, h'.each, fun i s hs g hg x hx => ?_⟩
  · cases i with
    | zero => cases (show r = s by simpa using hs); exact own_base hr h.below.size
    | succ i => exact h'.own i s (by simpa using hs)
  · cases i with
    | zero =>
      cases (show r = s by simpa using hs)
      cases j with
      | zero => exact absurd rfl hij
      | succ j => intro e; have := old j t (by simpa using ht) g e; have := new g hg; omega
    | succ i =>
      cases j with
      | zero => cases (show r = t by simpa using ht); intro e; have := old i s (by simpa using hs) g hg; have := new g e; omega
      | succ j => exact h.ap i j s t (by omega) (by simpa using hs) (by simpa using ht) g hg
  · cases i with
    | zero =>
      cases (show r = s by simpa using hs)
      have := new g hg
      exact ⟨fun e => by have := (own_lt2 (h.each x hx).l e).2; omega, fun e => by have := (own_lt2 (h.each x hx).m e).2; omega⟩
    | succ i => exact h.off i s (by simpa using hs) g hg x hx
theorem getset {R : List Rr} {i j : Nat} {r' s : Rr} (h : (R.set i r')[j]? = some s) : (j = i ∧ s = r') ∨ (j ≠ i ∧ R[j]? = some s) := by
  rw [List.getElem?_set] at h
  by_cases hij : i = j
  · rw [if_pos hij] at h
    split at h
    · exact .inl ⟨hij.symm, by cases h; rfl⟩
    · cases h
  · rw [if_neg hij] at h
    exact .inr ⟨fun e => hij e.symm, h⟩
theorem KS.wr (h : KS W w R H) (i : Nat) (hz : R[i]? = some r) (r' : Rr) {g : Nat} (hg : r.v.ownBlock = some g) (hg' : r'.v.ownBlock = some g) (hb : But g w w') (ho : r'.ok w' W.heap.size) : KS W w' (R.set i r') H := by
  have glo : W.heap.size ≤ g := (own_lt2 (h.own i r hz) hg).1
  refine ⟨h.below.trans (hb.below glo h.below.size), fun j s hs => ?_, fun j k s t hjk hs ht g' hg2 => ?_, fun x hx => ?_, fun j s hs g' hg2 x hx => ?_⟩
  · rcases getset hs with ⟨_, rfl⟩ | ⟨hji, hs⟩
    · exact ho
    · exact own_but (h.own j s hs) hb (fun e => h.ap j i s r hji hs hz g e hg)
  · rcases getset hs with ⟨ej, es⟩ | ⟨hji, hs2⟩
    · subst ej es
      rcases getset ht with ⟨ek, _⟩ | ⟨hki, ht2⟩
      · exact absurd ek.symm hjk
      · rw [hg'] at hg2
        cases hg2
        exact h.ap j k r t hjk hz ht2 g hg
    · rcases getset ht with ⟨ek, et⟩ | ⟨hki, ht2⟩
      · subst ek et
        intro e
        rw [hg'] at e
        cases e
        exact h.ap j k s r hjk hs2 hz g hg2 hg
      · exact h.ap j k s t hjk hs2 ht2 g' hg2
  · have ho2 := h.off i r hz g hg x hx
    exact ⟨own_but (h.each x hx).l hb ho2.1, own_but (h.each x hx).m hb ho2.2⟩
  · rcases getset hs with ⟨rfl, rfl⟩ | ⟨hji, hs⟩
    · rw [hg'] at hg2
      cases hg2
      exact h.off j r hz g hg x hx
    · exact h.off j s hs g' hg2 x hx
theorem KS.mv (h : KS W w R H) (i : Nat) (r' : Rr) (hb : Below w.heap.size w w') (ho : r'.ok w' w.heap.size) : KS W w' (R.set i r') H := by
  have h' := h.on hb
  have new : ∀ g, r'.v.ownBlock = some g → w.heap.size ≤ g := fun g hg => (own_lt2 ho hg).1
  have old : ∀ (i : Nat) (s : Rr), R[i]? = some s → ∀ g, s.v.ownBlock = some g → g < w.heap.size := fun i s hs g hg => (own_lt2 (h.own i s hs) hg).2
  refine ⟨h'.below, fun j s hs => ?_, fun j k s t hjk hs ht g hg => ?_, h'.each, fun j s hs g hg x hx => ?_⟩
  · rcases getset hs with ⟨_, rfl⟩ | ⟨_, hs⟩
    · exact own_base ho h.below.size
    · exact h'.own j s hs
  · rcases getset hs with ⟨ej, es⟩ | ⟨hji, hs2⟩
    · subst ej es
      rcases getset ht with ⟨ek, _⟩ | ⟨hki, ht2⟩
      · exact absurd ek.symm hjk
      · intro e; have := old k t ht2 g e; have := new g hg; omega
    · rcases getset ht with ⟨ek, et⟩ | ⟨hki, ht2⟩
      · subst ek et
        intro e; have := old j s hs2 g hg; have := new g e; omega
      · exact h.ap j k s t hjk hs2 ht2 g hg
  · rcases getset hs with ⟨rfl, rfl⟩ | ⟨hji, hs⟩
    · have := new g hg
      exact ⟨fun e => by have := (own_lt2 (h.each x hx).l e).2; omega, fun e => by have := (own_lt2 (h.each x hx).m e).2; omega⟩
    · exact h.off j s hs g hg x hx
def Two2 (w w' : World) (B : Nat) (e : TypeId) (st : Nat) (v v' : Value) (n m : Nat) (ys : List Value) : Prop :=
  (∃ g cap, v = .slice (some ⟨g, 0, none⟩) n cap ∧ v' = .slice (some ⟨g, 0, none⟩) (n + m) cap ∧ w'.ownsRow B e st v' (n + m) ys ∧ But g w w') ∨ (w'.ownsRow w.heap.size e st v' (n + m) ys ∧ Below w.heap.size w w')
theorem KS.app (h : KS W w R H) (i : Nat) (hz : R[i]? = some r) {v' : Value} {m : Nat} {ys : List Value} (ha : Two2 w w' W.heap.size r.e r.st r.v v' r.n m ys) : KS W w' (R.set i ⟨r.e, r.st, v', r.n + m, ys⟩) H := by
  rcases ha with ⟨g, cap, hv, hv', ho, hb⟩ | ⟨ho, hb⟩
  · exact h.wr i hz _ (g := g) (by rw [hv]; rfl) (by show v'.ownBlock = some g; rw [hv']; rfl) hb ho
  · exact h.mv i _ hb ho
theorem run_append_two {P : Program} {w : World} {base : Nat} {t ty e : TypeId} {i : TypeInfo} {z : Value} {size bytes : Nat} (ht : P.underlying t = some (.slice e)) (hi : P.info? e = some i) (hz : i.zero = some z) (hsize : i.size = size) (hby : i.bytes = bytes) (hzs : z.cells.size = size) (hsz : 0 < size)
    {v : Value} {n : Nat} {xs : List Value} (hown : w.ownsRow base e size v n xs) (hbase : base ≤ w.heap.size) {a : Addr} {m c : Nat} {news : List Value} (hl : news.length = m * size) (hnews : ∀ j u, news[j]? = some u → w.cell? (a.add j) = some u) (h1 : ∀ u ∈ news, u.oneCell' = true)
    (h63 : n + m ≤ maxLen) (hbytes : (n + m) * bytes ≤ 140737488355328) :
    ∃ v' w', (Builtin.append_ #[t, t] ty #[v, .slice (some a) m c]).run P w = .ok v' w' ∧ Two2 w w' base e size v v' n m (xs ++ news) := by
  have none_below : ∀ w', w.grownBy w' none → Below w.heap.size w w' := fun w' h => ⟨h.os, h.tape, h.output, h.size, fun k hk => h.block k hk (by simp)⟩
  rcases hown.2 with ⟨rfl, rfl⟩ | ⟨g, cap, cur, rfl, hbg, hg, hnc, hcm, hcs, htake⟩
  · have hx : xs = [] := List.eq_nil_of_length_eq_zero (by simpa using hown.1)
    subst hx
    obtain ⟨v2, w2, hr2, ho, hb, _⟩ := run_append_own (P := P) w w.heap.size t ty e i z size bytes ht hi hz hsize hby hzs hsz (.slice none 0 0) 0 [] (World.ownsRow_nil w _ e size) a m c news hl hnews h1 h63 hbytes (Nat.le_refl _)
    exact ⟨v2, w2, hr2, .inr ⟨ho, none_below _ hb⟩⟩
  · by_cases hroom : n + m ≤ cap
    · obtain ⟨v2, w2, hr2, ho, hb, _⟩ := run_append_own (P := P) w base t ty e i z size bytes ht hi hz hsize hby hzs hsz _ n xs hown a m c news hl hnews h1 h63 hbytes hbase
      have hfit : n * i.size + news.length ≤ cur.size := by rw [hcs, hl, hsize, ← Nat.add_mul]; exact Nat.mul_le_mul_right _ hroom
      have hr3 := run_append_room (P := P) w t ty e i ht hi g n cap cur hg a m c news (by rw [hsize]; exact hl) hnews h1 hroom hfit
      rw [hr3] at hr2
      cases hr2
      exact ⟨_, _, hr3, .inl ⟨g, cap, rfl, rfl, ho, hb.os, hb.tape, hb.output, hb.size, fun k hk hn => hb.block k hk (by simp only [Value.ownBlock]; simpa using hn)⟩⟩
    · have holds : ∀ j u, xs[j]? = some u → w.cell? ((⟨g, 0, none⟩ : Addr).add j) = some u := hown.cells (g := g) rfl
      obtain ⟨v2, w2, hr2, ho, hb⟩ := run_append_arg_grows (P := P) w t ty e i z size bytes ht hi hz hsize hby hzs hsz ⟨g, 0, none⟩ n cap xs hown.1 holds a m c news hl hnews (by omega) h63 hbytes
      exact ⟨v2, w2, hr2, .inr ⟨ho, none_below _ hb⟩⟩
theorem own_box (w : World) (e : TypeId) (cs : List Value) : (w.alloc (.cells cs.toArray e)).ownsRow w.heap.size e cs.length (.slice (some ⟨w.heap.size, 0, none⟩) 1 1) 1 cs :=
  ⟨by simp, .inr ⟨w.heap.size, 1, cs.toArray, rfl, Nat.le_refl _, heap_alloc_new _ _, Nat.le_refl _, by unfold maxLen; omega, by simp, by simp⟩⟩
theorem own_cel {B : Nat} {e : TypeId} {s g : Nat} {cs : List Value} (h : w.ownsRow B e s (.slice (some ⟨g, 0, none⟩) 1 1) 1 cs) : Cel w g e cs := by
  have hl := h.1
  rcases h.2 with ⟨hv, _⟩ | ⟨g', cap, cur, hv, hB, hg, h1, h2, h3, h4⟩
  · cases hv
  · cases hv
    rw [List.take_of_length_le (by rw [Array.length_toList, h3]; exact Nat.le_refl _)] at h4
    unfold Cel
    rw [hg, ← h4]
def bx (e : TypeId) (g : Nat) (cs : List Value) : Rr := ⟨e, cs.length, .slice (some ⟨g, 0, none⟩) 1 1, 1, cs⟩
theorem KS.box (h : KS W w R H) (e : TypeId) (cs : List Value) : KS W (w.alloc (.cells cs.toArray e)) (bx e w.heap.size cs :: R) H := h.add _ (below_one _ _) (own_box _ _ _)
theorem KS.cel (h : KS W w R H) (i : Nat) {e : TypeId} {g : Nat} {cs : List Value} (hz : R[i]? = some (bx e g cs)) : Cel w g e cs := own_cel (h.mem hz)
theorem KS.put (h : KS W w R H) (i : Nat) {e : TypeId} {g : Nat} {cs : List Value} (hz : R[i]? = some (bx e g cs)) (ds : List Value) : KS W (w.setRow g ds.toArray) (R.set i (bx e g ds)) H := by
  have h0 := h.mem hz
  refine h.wr i hz _ (g := g) rfl rfl (but_setRow _ _ _) ?_
  rcases h0.2 with ⟨hv, _⟩ | ⟨g', cap, cur, hv, hB, hg, h1, h2, h3, h4⟩
  · cases hv
  · cases hv
    exact ⟨by simp [bx], .inr ⟨g, 1, ds.toArray, rfl, hB, setRow_heap w g _ _ e _ hg, Nat.le_refl _, h2, by simp [bx], by simp [bx]⟩⟩
def fl1 (u : Value) (xs : List Value) (j : Nat) : List Value := rp j [u] ++ xs.drop j
theorem two_frm {w w' : World} {B : Nat} {e : TypeId} {st : Nat} {v v' : Value} {n m : Nat} {ys : List Value} (h : Two2 w w' B e st v v' n m ys) (hs : 0 < st) : ∃ a c, v' = .slice a (n + m) c := by
  rcases h with ⟨g, cap, _, h, _⟩ | ⟨h, _⟩
  · exact ⟨_, _, h⟩
  · exact own_frm h hs
end Go.Proofs.YtbpdmkohihgnjaaGreatDoor.Y
namespace Go.Proofs.YtbpdmkohihgnjaaGreatDoor.Y
open Go.RowKit
set_option maxRecDepth 100000
set_option maxHeartbeats 8000000
theorem parts3 {P : Program} {e : TypeId} {z : Option Value} {s b : Nat} (h : (P.info? e).map (fun i => (i.zero, i.size, i.bytes)) = some (z, s, b)) : ∃ i, P.info? e = some i ∧ i.zero = z ∧ i.size = s ∧ i.bytes = b := by
  cases hi : P.info? e with
  | none => rw [hi] at h; cases h
  | some i =>
    rw [hi] at h
    simp only [Option.map_some, Option.some.injEq, Prod.mk.injEq] at h
    exact ⟨i, rfl, h.1, h.2.1, h.2.2⟩
theorem wpList_append_q {w w' : World} {ops : Array Oper} {rest : List Oper} {o : Oper} {a : Act} {Q : Exit → Act → World → Prop} (hgd : o.guard = none) (s x : Operand) {t1 t2 : TypeId} (ho : o.op = .call { callee := .builtin .append, args := #[s, x], argTypes := #[t1, t2] }) (v : Value) (hs : a.eval s = v) (vx : Value) (hx : a.eval x = vx) {v' : Value}
    (hr : (Builtin.append_ #[t1, t2] o.type #[v, vx]).run Tryz.prog w = .ok v' w') (h : wpList Tryz.prog ops Q rest (a.put o.dst v') w') : wpList Tryz.prog ops Q (o :: rest) a w := by
  refine wpList_plain hgd fun K hK => ?_
  unfold Oper.wp execOp
  simp only [ho, resolve, invoke, builtin, Sem.run_bind, Sem.run_pure, Result.andThen_ok, List.map_toArray, List.map_cons, List.map_nil, hs, hx, hr]
  exact hK _ _ h
def Lie (w : World) (p : Option Addr) (news : List Value) : Prop := news = [] ∨ ∃ b o, p = some ⟨b, o, none⟩ ∧ ∀ j u, news[j]? = some u → w.cell? ⟨b, o + j, none⟩ = some u
theorem run_append_s {w : World} (t e ty : TypeId) (ht : Tryz.prog.underlying t = some (.slice e)) {z : Value} {st by_ : Nat} (hi : (Tryz.prog.info? e).map (fun i => (i.zero, i.size, i.bytes)) = some (some z, st, by_)) (hzs : z.cells.size = st) (hst : 0 < st) (hb8 : by_ ≤ 1000) {B n m c : Nat} {p : Option Addr} {v : Value} {xs news : List Value} (hown : w.ownsRow B e st v n xs) (hB : B ≤ w.heap.size) (hl : news.length = m * st) (hat : Lie w p news) (h1 : ∀ u ∈ news, u.oneCell' = true) (hn : n + m ≤ 100000000000) :
    ∃ v' w', (Builtin.append_ #[t, t] ty #[v, .slice p m c]).run Tryz.prog w = .ok v' w' ∧ Two2 w w' B e st v v' n m (xs ++ news) := by
  obtain ⟨i, hi, hz, hsize, hby⟩ := parts3 hi
  cases p with
  | none =>
    have hL : news = [] := by
      rcases hat with h0 | ⟨b, off, h0, _⟩
      · exact h0
      · cases h0
    subst hL
    have hm : m = 0 := by
      rcases Nat.eq_zero_or_pos m with h | h
      · exact h
      · have := Nat.mul_pos h hst
        simp only [List.length_nil] at hl
        omega
    subst hm
    refine ⟨v, w, ?_, ?_⟩
    · exact run_append_owned_none (P := Tryz.prog) (w := w) B t ty e i st ht hi _ _ _ hown
    · rw [List.append_nil]
      rcases hown.2 with ⟨rfl, rfl⟩ | ⟨g, cap, cur, rfl, _⟩
      · exact .inr ⟨⟨hown.1, .inl ⟨rfl, rfl⟩⟩, Below.refl _ _⟩
      · exact .inl ⟨g, cap, rfl, rfl, hown, ⟨rfl, rfl, rfl, Nat.le_refl _, fun _ _ _ => rfl⟩⟩
  | some ad =>
    exact run_append_two (P := Tryz.prog) ht hi hz hsize hby hzs hst hown hB hl (fun j u hu => by
      rcases hat with h0 | ⟨b, off, h0, h2⟩
      · rw [h0] at hu; simp at hu
      · cases h0
        rw [addr_add]
        exact h2 j u hu) h1 (by unfold maxLen; omega) (by
      have : (n + m) * by_ ≤ (n + m) * 1000 := Nat.mul_le_mul_left _ hb8
      omega)
theorem wpList_append_s {w : World} {ops : Array Oper} {rest : List Oper} {o : Oper} {ac : Act} {Q : Exit → Act → World → Prop} (hgd : o.guard = none) (s x : Operand) (t e : TypeId) (ho : o.op = .call { callee := .builtin .append, args := #[s, x], argTypes := #[t, t] }) (ht : Tryz.prog.underlying t = some (.slice e)) {z : Value} {st by_ : Nat} (hi : (Tryz.prog.info? e).map (fun i => (i.zero, i.size, i.bytes)) = some (some z, st, by_)) (hzs : z.cells.size = st) (hst : 0 < st) (hb8 : by_ ≤ 1000) {B n m c : Nat} {p : Option Addr} {v : Value} {xs news : List Value} (hs : ac.eval s = v) (hown : w.ownsRow B e st v n xs) (hB : B ≤ w.heap.size) (hx : ac.eval x = .slice p m c) (hl : news.length = m * st) (hat : Lie w p news) (h1 : ∀ u ∈ news, u.oneCell' = true) (hn : n + m ≤ 100000000000)
    (h : ∀ v' w', Two2 w w' B e st v v' n m (xs ++ news) → wpList Tryz.prog ops Q rest (ac.put o.dst v') w') : wpList Tryz.prog ops Q (o :: rest) ac w := by
  obtain ⟨v', w', hr, h2⟩ := run_append_s t e o.type (c := c) ht hi hzs hst hb8 hown hB hl hat h1 hn
  exact wpList_append_q hgd s x ho v hs _ hx hr (h v' w' h2)
theorem wp_append_s {w : World} {o : Oper} {ac : Act} {K : Act → World → Prop} {Q : Exit → Act → World → Prop} (s x : Operand) (t e : TypeId) (ho : o.op = .call { callee := .builtin .append, args := #[s, x], argTypes := #[t, t] }) (ht : Tryz.prog.underlying t = some (.slice e)) {z : Value} {st by_ : Nat} (hi : (Tryz.prog.info? e).map (fun i => (i.zero, i.size, i.bytes)) = some (some z, st, by_)) (hzs : z.cells.size = st) (hst : 0 < st) (hb8 : by_ ≤ 1000) {B n m c : Nat} {p : Option Addr} {v : Value} {xs news : List Value} (hs : ac.eval s = v) (hown : w.ownsRow B e st v n xs) (hB : B ≤ w.heap.size) (hx : ac.eval x = .slice p m c) (hl : news.length = m * st) (hat : Lie w p news) (h1 : ∀ u ∈ news, u.oneCell' = true) (hn : n + m ≤ 100000000000)
    (h : ∀ v' w', Two2 w w' B e st v v' n m (xs ++ news) → K (ac.put o.dst v') w') : o.wp Tryz.prog ac w K Q := by
  obtain ⟨v', w', hr, h2⟩ := run_append_s t e o.type (c := c) ht hi hzs hst hb8 hown hB hl hat h1 hn
  unfold Oper.wp execOp
  simp only [ho, resolve, invoke, builtin, Sem.run_bind, Sem.run_pure, Result.andThen_ok, List.map_toArray, List.map_cons, List.map_nil, hs, hx, hr]
  exact h _ _ h2
theorem _root_.Go.Proofs.YtbpdmkohihgnjaaGreatDoor.Cel.lie {w : World} {g : Nat} {e : TypeId} {cs : List Value} (h : Cel w g e cs) : Lie w (some ⟨g, 0, none⟩) cs := .inr ⟨g, 0, rfl, fun j u hu => by rw [Nat.zero_add, h.cell j]; exact hu⟩
def fls (cs : List Value) (st : Nat) (xs : List Value) (j : Nat) : List Value := rp j cs ++ xs.drop (j * st)
theorem fls_0 (cs : List Value) (st : Nat) (xs : List Value) : fls cs st xs 0 = xs := by simp [fls, rp]
theorem fls_all (cs : List Value) (st n : Nat) (xs : List Value) (hx : xs.length = n * st) : fls cs st xs n = rp n cs := by
  unfold fls
  rw [List.drop_eq_nil_of_le (by omega), List.append_nil]
end Go.Proofs.YtbpdmkohihgnjaaGreatDoor.Y
namespace Go.Proofs.YtbpdmkohihgnjaaGreatDoor.Y
open Go.RowKit
set_option maxRecDepth 100000
set_option maxHeartbeats 8000000
theorem fls_succ (cs : List Value) (st : Nat) (xs : List Value) (hc : cs.length = st) (j : Nat) : (fls cs st xs j).take (j * st) ++ cs ++ (fls cs st xs j).drop (j * st + st) = fls cs st xs (j + 1) := by
  have hl : (rp j cs).length = j * st := by rw [rp_len, hc]
  unfold fls
  rw [List.take_left' hl, ← List.drop_drop, List.drop_left' hl, List.drop_drop, rp_succ, Nat.add_mul, Nat.one_mul]
end Go.Proofs.YtbpdmkohihgnjaaGreatDoor.Y
namespace Go.Proofs.YtbpdmkohihgnjaaGreatDoor.L
open Go.RowKit

theorem rplain_any (c : UInt8) (w : World) : Calls Tryz.prog 78 #[.int .u8 (c.toNat : Int)] w fun e w' => e = .returned (.bool (T.itself c)) ∧ w = w' := by
  have hc := c.toNat_lt
  go_enter Tryz.func78, Tryz.ntmps78
  go_wp2
  all_goals go_ret
  all_goals exact ⟨ret_bool (by rw [Bool.eq_iff_iff]; simp [T.itself]; omega), rfl⟩
theorem rparts_any (c : UInt8) (w : World) : Calls Tryz.prog 53 #[.int .u8 (c.toNat : Int)] w fun e w' => e = .returned (.bool (T.isGap c)) ∧ w = w' := by
  have hc := c.toNat_lt
  go_enter Tryz.func53, Tryz.ntmps53
  go_wp2
  all_goals go_ret
  all_goals exact ⟨ret_bool (by rw [Bool.eq_iff_iff]; simp [T.isGap]; omega), rfl⟩
def wth (c : UInt8) : Int := match T.hexV c with
  | some d => (d : Int)
  | none => -1
theorem wth_at (c : UInt8) (k : Nat) (hk : k < 16) (h : T.hexD k = c) : wth c = (k : Int) := by
  unfold wth; rw [← h, T.hexD_inv k hk]
theorem wth_no (c : UInt8) (h : ∀ k < 16, T.hexD k ≠ c) : wth c = -1 := by
  unfold wth
  cases hv : T.hexV c with
  | none => rfl
  | some d => exact absurd (T.hexV_lt hv).2 (h d (T.hexV_lt hv).1)
def dig16 : ByteArray := ⟨#[48, 49, 50, 51, 52, 53, 54, 55, 56, 57, 97, 98, 99, 100, 101, 102]⟩
theorem dig16_get : ∀ k (h : k < dig16.size), dig16[k] = T.hexD k := by decide +kernel
theorem worth_any (c : UInt8) (w : World) : Calls Tryz.prog 79 #[.int .u8 (c.toNat : Int)] w fun e w' => e = .returned (.int .i64 (wth c)) ∧ w = w' := by
  have hc := c.toNat_lt
  go_enter Tryz.func79, Tryz.ntmps79
  go_wp2_with fail
  go_loopw [3] (fun i wr => ∃ k : Nat, k ≤ 16 ∧ i = .int .i64 k ∧ Hid (∀ j < k, T.hexD j ≠ c) ∧ w = wr) (fun i _ => 16 - (intOf i).toNat)
  case atStart => exact ⟨0, Nat.zero_le _, rfl, fun j hj => by omega, rfl⟩
  case round =>
    obtain ⟨k, hk, rfl, HN, rfl⟩ := hrel
    by_cases hk2 : k < 16
    · have c1 : (k : Int) < 16 := by omega
      have hz : k < (⟨#[48, 49, 50, 51, 52, 53, 54, 55, 56, 57, 97, 98, 99, 100, 101, 102]⟩ : ByteArray).size := hk2
      have he : (⟨#[48, 49, 50, 51, 52, 53, 54, 55, 56, 57, 97, 98, 99, 100, 101, 102]⟩ : ByteArray)[k].toNat = (T.hexD k).toNat := congrArg UInt8.toNat (dig16_get k hz)
      by_cases hd : T.hexD k = c
      · have HF : Hid ((k : Int) = wth c) := (wth_at c k hk2 hd).symm
        rw [hd] at he
        clear hd HN
        go_wp2_with fail
        go_ret
        exact ⟨ret_int HF.out, rfl⟩
      · have q : (((T.hexD k).toNat : Int) == (c.toNat : Int)) = false := by
          have : (T.hexD k).toNat ≠ c.toNat := fun e => hd (UInt8.toNat_inj.1 e)
          simp; omega
        have HN2 : Hid (∀ j < k + 1, T.hexD j ≠ c) := fun j hj => by
          rcases Nat.lt_or_ge j k with h | h
          · exact HN.out j h
          · obtain rfl : j = k := by omega
            exact hd
        clear hd HN
        go_wp2_with fail
        go_roundw
        case measure => simp [intOf]; omega
        case rel => exact ⟨k + 1, by omega, by go_num, HN2, trivial⟩
    · obtain rfl : k = 16 := by omega
      have HF : Hid ((-1 : Int) = wth c) := (wth_no c (fun j hj => HN.out j hj)).symm
      clear hk hk2 HN
      go_wp2_with fail
      go_ret
      exact ⟨ret_int HF.out, rfl⟩
end Go.Proofs.YtbpdmkohihgnjaaGreatDoor.L
namespace Go.Proofs.YtbpdmkohihgnjaaGreatDoor.L
open Go.RowKit
theorem wrap_sm (x : Int) (h0 : 0 ≤ x) (h1 : x ≤ 1000000000000) : IntKind.i64.wrap x = x := by
  simp [IntKind.wrap, IntKind.signed, IntKind.bits]
  split <;> omega
end Go.Proofs.YtbpdmkohihgnjaaGreatDoor.L
namespace Go.Proofs.YtbpdmkohihgnjaaGreatDoor.L
open Go.RowKit
def RqPost (W : World) (k : Nat) (r : Nat ⊕ (List UInt8 × Nat)) (e : Ending) (W' : World) : Prop :=
  match r with
  | .inl x => e = .returned (.tuple #[.slice none 0 0, .int .i64 ((k + 1 + x : Nat) : Int), .bool false]) ∧ Below W.heap.size W W'
  | .inr (b, n) => ∃ v, e = .returned (.tuple #[v, .int .i64 ((k + 1 + n : Nat) : Int), .bool true]) ∧ HB W W' v b
theorem RqPost.bad {W W' : World} {k x : Nat} {p : Int} {r : Nat ⊕ (List UInt8 × Nat)} (hr : r = .inl x) (hp : p = ((k + 1 + x : Nat) : Int)) (hb : Below W.heap.size W W') : RqPost W k r (.returned (.tuple #[.slice none 0 0, .int .i64 p, .bool false])) W' := by
  subst hr hp; exact ⟨rfl, hb⟩
theorem RqPost.good {W W' : World} {k n : Nat} {p : Int} {r : Nat ⊕ (List UInt8 × Nat)} {b : List UInt8} {v : Value} (hr : r = .inr (b, n)) (hp : p = ((k + 1 + n : Nat) : Int)) (hb : HB W W' v b) : RqPost W k r (.returned (.tuple #[v, .int .i64 p, .bool true])) W' := by
  subst hr hp; exact ⟨_, rfl, hb⟩
theorem wth_none {c : UInt8} (h : T.hexV c = none) : wth c = -1 := by unfold wth; rw [h]
theorem wth_some {c : UInt8} {d : Nat} (h : T.hexV c = some d) : wth c = (d : Int) := by unfold wth; rw [h]

set_option maxRecDepth 20000 in
set_option maxHeartbeats 4000000 in
theorem rquoted_any (W : World) (s : ByteArray) (k : Nat) (hs : s.size ≤ 1000000000) (hk : k < s.size) :
    Calls Tryz.prog 54 #[.string s, .int .i64 (k : Int)] W fun e W' => RqPost W k (T.unq (s.data.toList.drop (k + 1))) e W' := by
  obtain ⟨i0, hi, hz0, hz1, hz2⟩ := info_parts Tryz.info5
  generalize hr0 : T.unq (s.data.toList.drop (k + 1)) = r0
  have b1 : (k : Int) < (s.size : Int) := by omega
  have b2 : (s.size : Int) ≤ 1000000000 := by omega
  have HR : Hid (T.unq (s.data.toList.drop (k + 1)) = r0) := hr0
  clear hr0
  go_enter Tryz.func54, Tryz.ntmps54
  go_wp2_with fail
  go_loopw [7, 8] (fun v i wr => ∃ (p : Nat) (l : List UInt8), k + 1 ≤ p ∧ p ≤ s.size ∧ i = .int .i64 p ∧ l.length ≤ p ∧ HB W wr v l ∧ Hid (r0 = T.sp (p - (k + 1)) l (T.unq (s.data.toList.drop p)))) (fun _ i _ => s.size - (intOf i).toNat)
  case atStart => exact ⟨k + 1, [], Nat.le_refl _, by omega, by go_num, Nat.zero_le _, HB.start W, by rw [Nat.sub_self, T.sp_zero]; exact HR.out.symm⟩
  case round =>
    obtain ⟨p, l, hp1, hp2, rfl, hl, F, R⟩ := hrel
    have c1 : (p : Int) ≤ (s.size : Int) := by omega
    by_cases hlt : p < s.size
    · have c2 : (p : Int) < (s.size : Int) := by omega
      have hd := drop_get s p hlt
      have HKP : Hid (k + 1 ≤ p ∧ p ≤ s.size ∧ l.length ≤ p) := ⟨hp1, hp2, hl⟩
      by_cases h34 : s[p].toNat = 34
      · have e34 : ((s[p].toNat : Int) != 34) = false := by rw [h34]; rfl
        have H : Hid (r0 = .inr (l, p - (k + 1) + 1)) := hid <| by
          have := R.out
          rw [hd, T.unq_end _ _ h34] at this
          simpa [T.sp] using this
        clear hd h34 R HR hp1 hp2 hl
        go_wp2_with fail
        go_ret3
        exact RqPost.good H.out (by have := HKP.out; omega) F
      · have e34 : ((s[p].toNat : Int) != 34) = true := by simp; omega
        have HC := hid (rplain_any s[p])
        cases hit : T.itself s[p] with
        | true =>
          have H : Hid (r0 = T.sp (p + 1 - (k + 1)) (l ++ [s[p]]) (T.unq (s.data.toList.drop (p + 1)))) := hid <| by
            have := R.out
            rw [hd, T.unq_self _ _ hit, T.sp_sp] at this
            rw [this, show p - (k + 1) + 1 = p + 1 - (k + 1) by omega]
          rw [hit] at HC
          clear hd h34 R HR hit hp1 hp2 hl
          go_wp2_with (first | (go_at_call 78; refine (HC.out _).mono ?_; rintro e w' ⟨rfl, rfl⟩) | (at_builtin; refine wpList_append_bytes rfl _ _ _ rfl i0 Tryz.underlying124 hi hz0 hz1 hz2 _ _ rfl (F.alloc _) _ _ _ [s[p]] rfl rfl (cells_new _ _ _ _ rfl) (by have := HKP.out; simp; omega) ?_; intro v1 w1 F1))
          go_roundw
          case rel => exact ⟨p + 1, l ++ [s[p]], by have := HKP.out; omega, by omega, by go_num, by have := HKP.out; simp; omega, F1, H⟩
          case measure => simp [intOf]; omega
        | false =>
          rw [hit] at HC
          by_cases h92 : s[p].toNat = 92
          · have e92 : ((s[p].toNat : Int) == 92) = true := by rw [h92]; rfl
            have hno : T.esc (s.data.toList.drop (p + 1)) = none → Hid (r0 = .inl (p - (k + 1))) := fun he => hid <| by
              have := R.out
              rw [hd, T.unq_noesc _ _ h92 he] at this
              exact this
            have hyes : ∀ x, T.esc (s.data.toList.drop (p + 1)) = some x → Hid (r0 = T.sp (p + 4 - (k + 1)) (l ++ [x]) (T.unq (s.data.toList.drop (p + 4)))) := fun x he => hid <| by
              have := R.out
              rw [hd, T.unq_esc _ _ x h92 he, T.sp_sp, List.drop_drop] at this
              rw [this, show p - (k + 1) + 4 = p + 4 - (k + 1) by omega]
            clear hd h34 R HR hit hp1 hp2 hl h92
            by_cases h4 : p + 4 ≤ s.size
            · have d1 : (p : Int) + 3 < (s.size : Int) := by omega
              have he4 := esc_at s p h4
              by_cases hx : s[p + 1].toNat = 120
              · have ex : ((s[p + 1].toNat : Int) == 120) = true := by rw [hx]; rfl
                rw [if_pos hx] at he4
                cases h2 : T.hexV s[p + 2] with
                | none =>
                  have hw := wth_none h2
                  have H := hno (by rw [he4, h2])
                  clear hno hyes he4 h2 hx
                  go_wp2_with (first | (go_at_call 78; refine (HC.out _).mono ?_; rintro e w' ⟨rfl, rfl⟩) | (go_at_call 79; refine (worth_any _ _).mono ?_; rintro e w' ⟨rfl, rfl⟩))
                  go_ret3
                  exact RqPost.bad H.out (by have := HKP.out; omega) F.below
                | some a =>
                  have hw := wth_some h2
                  have a16 := (T.hexV_lt h2).1
                  cases h3 : T.hexV s[p + 3] with
                  | none =>
                    have hw3 := wth_none h3
                    have H := hno (by rw [he4, h2, h3])
                    have a0 : (0 : Int) ≤ (a : Int) := by omega
                    clear hno hyes he4 h2 hx h3 a16
                    go_wp2_with (first | (go_at_call 78; refine (HC.out _).mono ?_; rintro e w' ⟨rfl, rfl⟩) | (go_at_call 79; refine (worth_any _ _).mono ?_; rintro e w' ⟨rfl, rfl⟩))
                    go_ret3
                    exact RqPost.bad H.out (by have := HKP.out; omega) F.below
                  | some b =>
                    have hw3 := wth_some h3
                    have b16 := (T.hexV_lt h3).1
                    obtain ⟨x, hxx⟩ : ∃ x, UInt8.ofNat (a * 16 + b) = x := ⟨_, rfl⟩
                    have hxn : (x.toNat : Int) = 16 * (a : Int) + (b : Int) := by rw [← hxx, UInt8.toNat_ofNat']; omega
                    have HXN : Hid ((x.toNat : Int) = 16 * (a : Int) + (b : Int)) := hxn
                    clear hxn
                    rw [h2, h3] at he4
                    simp only [hxx] at he4
                    have HE4 : Hid (T.esc (s.data.toList.drop (p + 1)) = if T.itself x then none else some x) := he4
                    have a0 : (0 : Int) ≤ (a : Int) := by omega
                    have b0 : (0 : Int) ≤ (b : Int) := by omega
                    have a1 : (a : Int) < 16 := by omega
                    have b3 : (b : Int) < 16 := by omega
                    have HCX := hid (rplain_any x)
                    clear h2 hx h3 hxx he4 a16 b16
                    go_wp2_with (first | (go_at_call 78; refine (HC.out _).mono ?_; rintro e w' ⟨rfl, rfl⟩) | (go_at_call 79; refine (worth_any _ _).mono ?_; rintro e w' ⟨rfl, rfl⟩))
                    have q1 := wrap_sm ((p : Int) + 2) (by omega) (by omega)
                    have q2 := wrap_sm ((p : Int) + 3) (by omega) (by omega)
                    have q3 := wrap_sm (16 * (a : Int)) (by omega) (by omega)
                    have q4 := wrap_sm (16 * (a : Int) + (b : Int)) (by omega) (by omega)
                    have q5 : IntKind.u8.wrap (16 * (a : Int) + (b : Int)) = (x.toNat : Int) := by rw [HXN.out]; simp [IntKind.wrap, IntKind.signed, IntKind.bits]; omega
                    have t1 : ((p : Int) + 2).toNat = p + 2 := by omega
                    have t2 : ((p : Int) + 3).toNat = p + 3 := by omega
                    have z1 : 0 ≤ (p : Int) + 2 := by omega
                    have z2 : (p : Int) + 2 < (s.size : Int) := by omega
                    have z3 : 0 ≤ (p : Int) + 3 := by omega
                    have z4 : p + 2 < s.size := by omega
                    have z5 : p + 3 < s.size := by omega
                    refine wp_region_held_drew (S := fun x => x = wr.drew) (by kernel_rfl) rfl (fun hHeld => ?_)
                    refine tk 0 ⟨some 71, .move (.tmp 0), 9, "ref.go:83", #[], none⟩ (.string s) ?_
                    simp only [Act.put, List.setIfInBounds_toArray, List.set_cons_zero, List.set_cons_succ]
                    refine tk 1 ⟨some 72, .move (.tmp 8), 3, "ref.go:83", #[], none⟩ (.int .i64 (p : Int)) ?_
                    simp only [Act.put, List.setIfInBounds_toArray, List.set_cons_zero, List.set_cons_succ]
                    refine tk 2 ⟨some 73, .binOp .add 3 (.tmp 72) (.const (.int .i64 2)) 3, 3, "ref.go:83", #[⟨1, .data⟩], none⟩ (.int .i64 ((p : Int) + 2)) ?_
                    simp only [Act.put, List.setIfInBounds_toArray, List.set_cons_zero, List.set_cons_succ]
                    refine tk 3 ⟨some 74, .index 9 (.tmp 71) (.tmp 73), 5, "ref.go:83", #[⟨0, .data⟩, ⟨2, .data⟩], none⟩ (.int .u8 (s[p + 2].toNat : Int)) ?_
                    simp only [Act.put, List.setIfInBounds_toArray, List.set_cons_zero, List.set_cons_succ]
                    refine tk 6 ⟨some 77, .move (.tmp 0), 9, "ref.go:83", #[], none⟩ (.string s) ?_
                    simp only [Act.put, List.setIfInBounds_toArray, List.set_cons_zero, List.set_cons_succ]
                    refine tk 7 ⟨some 78, .move (.tmp 8), 3, "ref.go:83", #[], none⟩ (.int .i64 (p : Int)) ?_
                    simp only [Act.put, List.setIfInBounds_toArray, List.set_cons_zero, List.set_cons_succ]
                    refine tk 8 ⟨some 79, .binOp .add 3 (.tmp 78) (.const (.int .i64 3)) 3, 3, "ref.go:83", #[⟨7, .data⟩], none⟩ (.int .i64 ((p : Int) + 3)) ?_
                    simp only [Act.put, List.setIfInBounds_toArray, List.set_cons_zero, List.set_cons_succ]
                    refine tk 9 ⟨some 80, .index 9 (.tmp 77) (.tmp 79), 5, "ref.go:83", #[⟨6, .data⟩, ⟨8, .data⟩], none⟩ (.int .u8 (s[p + 3].toNat : Int)) ?_
                    simp only [Act.put, List.setIfInBounds_toArray, List.set_cons_zero, List.set_cons_succ]
                    refine wpAnyH_ready (rs := [4]) (by kernel_rfl) (by simp) (AllReadyH.cons (o := ⟨some 75, .call { callee := .value (.func 79), args := #[.tmp 74], argTypes := #[5] }, 3, "ref.go:83", #[⟨3, .data⟩], none⟩) rfl (fun KQ hK => ?_) AllReadyH.nil)
                    go_simp
                    refine (worth_any _ _).mono ?_
                    rintro e w9 ⟨rfl, rfl⟩
                    rw [hw]
                    go_wp2_with fail
                    refine hK.out _ _ rfl (fun hHeld => ?_)
                    clear hK KQ
                    try simp only [Act.put, List.setIfInBounds_toArray, List.set_cons_zero, List.set_cons_succ]
                    refine tk 5 ⟨some 76, .binOp .mul 3 (.const (.int .i64 16)) (.tmp 75) 3, 3, "ref.go:83", #[⟨4, .data⟩], none⟩ (.int .i64 (16 * (a : Int))) ?_
                    simp only [Act.put, List.setIfInBounds_toArray, List.set_cons_zero, List.set_cons_succ]
                    refine wpAnyH_ready (rs := [10]) (by kernel_rfl) (by simp) (AllReadyH.cons (o := ⟨some 81, .call { callee := .value (.func 79), args := #[.tmp 80], argTypes := #[5] }, 3, "ref.go:83", #[⟨9, .data⟩, ⟨4, .chain⟩], none⟩) rfl (fun KQ hK => ?_) AllReadyH.nil)
                    go_simp
                    refine (worth_any _ _).mono ?_
                    rintro e w9 ⟨rfl, rfl⟩
                    rw [hw3]
                    go_wp2_with fail
                    refine hK.out _ _ rfl (fun hHeld => ?_)
                    clear hK KQ
                    try simp only [Act.put, List.setIfInBounds_toArray, List.set_cons_zero, List.set_cons_succ]
                    refine tk 11 ⟨some 82, .binOp .add 3 (.tmp 76) (.tmp 81) 3, 3, "ref.go:83", #[⟨5, .data⟩, ⟨10, .data⟩], none⟩ (.int .i64 (16 * (a : Int) + (b : Int))) ?_
                    simp only [Act.put, List.setIfInBounds_toArray, List.set_cons_zero, List.set_cons_succ]
                    refine tk 12 ⟨some 83, .convert 3 5 (.tmp 82), 5, "ref.go:83", #[⟨11, .data⟩], none⟩ (.int .u8 (x.toNat : Int)) ?_
                    simp only [Act.put, List.setIfInBounds_toArray, List.set_cons_zero, List.set_cons_succ]
                    refine wpAnyH_ready (rs := [13]) (by kernel_rfl) (by simp) (AllReadyH.cons (o := ⟨some 9, .assign (.tmp 83), 5, "ref.go:83", #[⟨12, .data⟩, ⟨10, .chain⟩, ⟨0, .phase⟩, ⟨1, .phase⟩, ⟨2, .phase⟩, ⟨3, .phase⟩, ⟨4, .phase⟩, ⟨5, .phase⟩, ⟨6, .phase⟩, ⟨7, .phase⟩, ⟨8, .phase⟩, ⟨9, .phase⟩, ⟨10, .phase⟩, ⟨11, .phase⟩, ⟨12, .phase⟩], none⟩) rfl (fun KQ hK => ?_) AllReadyH.nil)
                    go_simp
                    refine hK.out _ _ rfl (fun hHeld => ?_)
                    clear hK KQ
                    try simp only [Act.put, List.setIfInBounds_toArray, List.set_cons_zero, List.set_cons_succ]
                    refine wpAnyH_done (by kernel_rfl) ?_ _
                    clear hHeld q1 q2 q3 q4 q5 t1 t2 z1 z2 z3
                    have FD : HB W wr.drew u7 l := F.drew
                    clear F
                    generalize wr.drew = wd at *
                    cases hix : T.itself x with
                    | true =>
                      have H := hno (by rw [HE4.out, hix]; rfl)
                      rw [hix] at HCX
                      clear hno hyes HE4 hix
                      go_wp2_with (go_at_call 78; refine (HCX.out _).mono ?_; rintro e w' ⟨rfl, rfl⟩)
                      go_ret3
                      exact RqPost.bad H.out (by have := HKP.out; omega) FD.below
                    | false =>
                      have H := hyes x (by rw [HE4.out, hix]; rfl)
                      rw [hix] at HCX
                      clear hno hyes HE4 hix
                      go_wp2_with (first | (go_at_call 78; refine (HCX.out _).mono ?_; rintro e w' ⟨rfl, rfl⟩) | (at_builtin; refine wpList_append_bytes rfl _ _ _ rfl i0 Tryz.underlying124 hi hz0 hz1 hz2 _ _ rfl (FD.alloc _) _ _ _ [x] rfl rfl (cells_new _ _ _ _ rfl) (by have := HKP.out; simp; omega) ?_; intro v1 w1 F1))
                      go_roundw
                      case rel => exact ⟨p + 4, l ++ [x], by have := HKP.out; omega, by omega, by go_num, by have := HKP.out; simp; omega, F1, H⟩
                      case measure => simp [intOf]; omega
              · have ex : ((s[p + 1].toNat : Int) == 120) = false := by simp; omega
                rw [if_neg hx] at he4
                have H := hno he4
                clear hno hyes he4 hx
                go_wp2_with (go_at_call 78; refine (HC.out _).mono ?_; rintro e w' ⟨rfl, rfl⟩)
                go_ret3
                exact RqPost.bad H.out (by have := HKP.out; omega) F.below
            · have d1 : decide ((p : Int) + 3 < (s.size : Int)) = false := decide_eq_false (by omega)
              have d2 : (s.size : Int) ≤ (p : Int) + 3 := by omega
              have H := hno (esc_short s p (by omega))
              clear hno hyes h4
              go_wp2_with (go_at_call 78; refine (HC.out _).mono ?_; rintro e w' ⟨rfl, rfl⟩)
              go_ret3
              exact RqPost.bad H.out (by have := HKP.out; omega) F.below
          · have e92 : ((s[p].toNat : Int) == 92) = false := by simp; omega
            have H : Hid (r0 = .inl (p - (k + 1))) := hid <| by
              have := R.out
              rw [hd, T.unq_bad _ _ h34 h92 hit] at this
              exact this
            clear hd h34 R HR hit hp1 hp2 hl h92
            go_wp2_with (go_at_call 78; refine (HC.out _).mono ?_; rintro e w' ⟨rfl, rfl⟩)
            go_ret3
            exact RqPost.bad H.out (by have := HKP.out; omega) F.below
    · obtain rfl : p = s.size := by omega
      have H : Hid (r0 = .inl (s.size - (k + 1))) := hid <| by
        have := R.out
        rw [List.drop_eq_nil_of_le (by rw [size_list]; exact Nat.le_refl _), T.unq_nil] at this
        exact this
      have HKP : Hid (k + 1 ≤ s.size) := hp1
      clear R HR hp1 hp2 hl hlt
      go_wp2_with fail
      go_ret3
      exact RqPost.bad H.out (by have := HKP.out; omega) F.below
end Go.Proofs.YtbpdmkohihgnjaaGreatDoor.L
