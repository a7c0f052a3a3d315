import Derived.Test.YtncnogndopgknaaGreatDoorP45
import Derived.ArgAppend
import Derived.Laws.OwnMore
namespace Go.Proofs.YtncnogndopgknaaGreatDoor
open Go.RowKit
set_option maxRecDepth 100000
theorem but_setCell (w : World) (g j : Nat) (u : Value) : But g w (w.setCell ⟨g, j, none⟩ u) := ⟨rfl, rfl, rfl, by simp, fun k _ hk => heap_setCell_other w ⟨g, j, none⟩ k u hk⟩
theorem ownsRow_below {w w' : World} {base : Nat} {e : TypeId} {size : Nat} {v : Value} {n : Nat} {xs : List Value} (h : w.ownsRow base e size v n xs) (hb : Below w.heap.size w w') : w'.ownsRow base e size v n xs := by
  have hl := h.lt
  obtain ⟨h1, h2⟩ := h
  refine ⟨h1, ?_⟩
  rcases h2 with h2 | ⟨g, cap, cur, hv, hg, hh, r⟩
  · exact .inl h2
  · subst hv
    exact .inr ⟨g, cap, cur, rfl, hg, (hb.block g (hl g rfl).2).trans hh, r⟩
theorem own_base {w : World} {B B' : Nat} {e : TypeId} {s : Nat} {v : Value} {n : Nat} {L : List Value} (h : w.ownsRow B e s v n L) (hB : B' ≤ B) : w.ownsRow B' e s v n L :=
  ⟨h.1, h.2.imp id fun ⟨g, cap, cur, hv, hg, r⟩ => ⟨g, cap, cur, hv, Nat.le_trans hB hg, r⟩⟩
theorem own_but {w w' : World} {B : Nat} {e : TypeId} {s : Nat} {v : Value} {n : Nat} {L : List Value} {g : Nat} (h : w.ownsRow B e s v n L) (hb : But g w w') (hn : ¬ v.ownBlock = some g) : w'.ownsRow B e s v n L :=
  ⟨h.1, h.2.imp id fun ⟨gg, cap, cur, hv, hB, hg, r⟩ => ⟨gg, cap, cur, hv, hB, (hb.block gg (Array.getElem?_eq_some_iff.1 hg).1 (fun e => hn (by rw [hv, ← e]; rfl))).trans hg, r⟩⟩
structure Rr where
  e : TypeId
  st : Nat
  v : Value
  n : Nat
  xs : List Value
def Rr.ok (w : World) (B : Nat) (r : Rr) : Prop := w.ownsRow B r.e r.st r.v r.n r.xs
def rp (n : Nat) (cs : List Value) : List Value := (List.replicate n cs).flatten
theorem rp_len (n : Nat) (cs : List Value) : (rp n cs).length = n * cs.length := by simp [rp]
theorem rp_succ (n : Nat) (cs : List Value) : rp (n + 1) cs = rp n cs ++ cs := by
  unfold rp
  rw [List.replicate_succ', List.flatten_append]
  simp
structure Hk where
  e : TypeId
  st : Nat
  vl : Value
  vm : Value
  n : Nat
  m : Nat
  cs : List Value
structure Hk.ok (w : World) (B : Nat) (h : Hk) : Prop where
  l : w.ownsRow B h.e h.st h.vl h.n (rp h.n h.cs)
  m : w.ownsRow B h.e h.st h.vm h.m (rp h.m h.cs)
structure KS (W w : World) (R : List Rr) (H : List Hk) : Prop where
  below : Below W.heap.size W w
  own : ∀ (i : Nat) (r : Rr), R[i]? = some r → r.ok w W.heap.size
  ap : ∀ (i j : Nat) (r s : Rr), i ≠ j → R[i]? = some r → R[j]? = some s → ∀ g, r.v.ownBlock = some g → s.v.ownBlock ≠ some g
  each : ∀ h ∈ H, h.ok w W.heap.size
  off : ∀ (i : Nat) (r : Rr), R[i]? = some r → ∀ g, r.v.ownBlock = some g → ∀ h ∈ H, h.vl.ownBlock ≠ some g ∧ h.vm.ownBlock ≠ some g
theorem own_lt2 {x : World} {B : Nat} {e : TypeId} {st : Nat} {v : Value} {n : Nat} {xs : List Value} (h : x.ownsRow B e st v n xs) {g : Nat} (hg : v.ownBlock = some g) : B ≤ g ∧ g < x.heap.size := h.lt g hg
theorem own_on {w w' : World} {B : Nat} {e : TypeId} {st : Nat} {v : Value} {n : Nat} {xs : List Value} (h : w.ownsRow B e st v n xs) (hb : Below w.heap.size w w') : w'.ownsRow B e st v n xs := ownsRow_below h hb
theorem own_frm {w : World} {b : Nat} {e : TypeId} {st : Nat} {v : Value} {n : Nat} {xs : List Value} (h : w.ownsRow b e st v n xs) (_hst : 0 < st) : ∃ ao c, v = .slice ao n c := by
  rcases h.2 with ⟨hv, hn⟩ | ⟨g, cap, cur, hv, _⟩
  · exact ⟨none, 0, by rw [hv, hn]⟩
  · exact ⟨_, _, hv⟩
theorem own_some {w : World} {B : Nat} {e : TypeId} {s : Nat} {ao : Option Addr} {n c : Nat} {xs : List Value} (h : w.ownsRow B e s (.slice ao n c) n xs) (hn : 0 < n) : ∃ g, ao = some ⟨g, 0, none⟩ := by
  rcases h.2 with ⟨hv, _⟩ | ⟨g, cap, cur, hv, _⟩
  · injection hv with _ h0 _
    omega
  · injection hv with hv
    exact ⟨g, hv⟩
theorem own_cap {w : World} {B : Nat} {e : TypeId} {s : Nat} {ao : Option Addr} {n c : Nat} {xs : List Value} (h : w.ownsRow B e s (.slice ao n c) n xs) : n ≤ c := by
  rcases h.2 with ⟨hv, _⟩ | ⟨g, cap, cur, hv, _, _, h1, _⟩
  · injection hv with _ h0 h1
    omega
  · injection hv with _ _ hc
    omega
theorem addr_add (g o j : Nat) : (⟨g, o, none⟩ : Addr).add j = ⟨g, o + j, none⟩ := by unfold Addr.add; split <;> simp_all
theorem own_rng {w : World} {B : Nat} {e : TypeId} {s : Nat} {g n c : Nat} {xs : List Value} (h : w.ownsRow B e s (.slice (some ⟨g, 0, none⟩) n c) n xs) : w.rangeAt g 0 xs := fun j u hu => by
  have := h.cells (g := g) rfl j u hu
  rw [addr_add] at this
  exact this
theorem own_free {w : World} {B : Nat} {e : TypeId} {s : Nat} {g n c : Nat} {xs : List Value} (h : w.ownsRow B e s (.slice (some ⟨g, 0, none⟩) n c) n xs) (j : Nat) : w.frozen? ⟨g, j, none⟩ = false := by
  rcases h.2 with ⟨hv, _⟩ | ⟨g', cap, cur, hv, _, hg, _⟩
  · cases hv
  · cases hv
    exact frozen_of_row w g j _ e hg
theorem own_setc {w : World} {B : Nat} {e : TypeId} {s : Nat} {g n c : Nat} {xs : List Value} (h : w.ownsRow B e s (.slice (some ⟨g, 0, none⟩) n c) n xs) (j : Nat) (u : Value) : (w.setCell ⟨g, j, none⟩ u).ownsRow B e s (.slice (some ⟨g, 0, none⟩) n c) n (xs.set j u) := by
  refine ⟨by rw [List.length_set]; exact h.1, .inr ?_⟩
  rcases h.2 with ⟨hv, _⟩ | ⟨g', cap, cur, hv, hB, hg, h1, h2, h3, h4⟩
  · cases hv
  · cases hv
    refine ⟨g, c, cur.setIfInBounds j u, rfl, hB, ?_, h1, h2, by simpa using h3, ?_⟩
    · exact heap_setCell_same w g j cur e _ hg
    · rw [Array.toList_setIfInBounds, List.take_set, h4]
variable {W w w' : World} {R R' : List Rr} {H : List Hk} {r : Rr}
theorem KS.start (W : World) : KS W W [] [] := ⟨Below.refl _ _, fun _ _ h => (by simp at h), fun _ _ _ _ _ h => (by simp at h), fun _ h => (by cases h), fun _ _ h => (by simp at h)⟩
theorem KS.on (h : KS W w R H) (hb : Below w.heap.size w w') : KS W w' R H :=
  ⟨below_on h.below hb, fun i r hr => own_on (h.own i r hr) hb, h.ap, fun x hx => ⟨own_on (h.each x hx).l hb, own_on (h.each x hx).m hb⟩, h.off⟩
theorem KS.emb (h : KS W w R H) (f : Nat → Nat) (hf : ∀ i r, R'[i]? = some r → R[f i]? = some r) (hi : ∀ i j, i ≠ j → f i ≠ f j) : KS W w R' H :=
  ⟨h.below, fun i r hr => h.own _ r (hf i r hr), fun i j r s hij hr hs => h.ap _ _ r s (hi i j hij) (hf i r hr) (hf j s hs), h.each, fun i r hr => h.off _ r (hf i r hr)⟩
theorem KS.tail (h : KS W w (r :: R) H) : KS W w R H := h.emb (· + 1) (fun i r hr => by simpa using hr) (fun i j hij => by omega)
theorem KS.er (h : KS W w R H) (k : Nat) : KS W w (R.eraseIdx k) H := h.emb (fun i => if i < k then i else i + 1) (fun i r hr => by
  rw [List.getElem?_eraseIdx] at hr
  by_cases hk : i < k
  · rw [if_pos hk] at hr
    simp only [hk, if_true]
    exact hr
  · rw [if_neg hk] at hr
    simp only [hk, if_false]
    exact hr) (fun i j hij => by split <;> split <;> omega)
theorem KS.mem (h : KS W w R H) {i : Nat} (hr : R[i]? = some r) : w.ownsRow W.heap.size r.e r.st r.v r.n r.xs := h.own i r hr
theorem KS.add (h : KS W w R H) (r : Rr) (hb : Below w.heap.size w w') (hr : r.ok w' w.heap.size) : KS W w' (r :: R) H := by
  have h' := h.on hb
  have new : ∀ g, r.v.ownBlock = some g → w.heap.size ≤ g := fun g hg => (own_lt2 hr hg).1
  have old : ∀ (i : Nat) (s : Rr), R[i]? = some s → ∀ g, s.v.ownBlock = some g → g < w.heap.size := fun i s hs g hg => (own_lt2 (h.own i s hs) hg).2
  refine ⟨h'.below, fun i s hs => ?_, fun i j s t hij hs ht g hg => ?_, h'.each, fun i s hs g hg x hx => ?_⟩
  · cases i with
    | zero => cases (show r = s by simpa using hs); exact own_base hr h.below.size
    | succ i => exact h'.own i s (by simpa using hs)
  · cases i with
    | zero =>
      cases (show r = s by simpa using hs)
      cases j with
      | zero => exact absurd rfl hij
      | succ j => intro e; have := old j t (by simpa using ht) g e; have := new g hg; omega
    | succ i =>
      cases j with
      | zero => cases (show r = t by simpa using ht); intro e; have := old i s (by simpa using hs) g hg; have := new g e; omega
      | succ j => exact h.ap i j s t (by omega) (by simpa using hs) (by simpa using ht) g hg
  · cases i with
    | zero =>
      cases (show r = s by simpa using hs)
      have := new g hg
      exact ⟨fun e => by have := (own_lt2 (h.each x hx).l e).2; omega, fun e => by have := (own_lt2 (h.each x hx).m e).2; omega⟩
    | succ i => exact h.off i s (by simpa using hs) g hg x hx
theorem getset {R : List Rr} {i j : Nat} {r' s : Rr} (h : (R.set i r')[j]? = some s) : (j = i ∧ s = r') ∨ (j ≠ i ∧ R[j]? = some s) := by
  rw [List.getElem?_set] at h
  by_cases hij : i = j
  · rw [if_pos hij] at h
    split at h
    · exact .inl ⟨hij.symm, by cases h; rfl⟩
    · cases h
  · rw [if_neg hij] at h
    exact .inr ⟨fun e => hij e.symm, h⟩
theorem KS.wr (h : KS W w R H) (i : Nat) (hz : R[i]? = some r) (r' : Rr) {g : Nat} (hg : r.v.ownBlock = some g) (hg' : r'.v.ownBlock = some g) (hb : But g w w') (ho : r'.ok w' W.heap.size) : KS W w' (R.set i r') H := by
  have glo : W.heap.size ≤ g := (own_lt2 (h.own i r hz) hg).1
  refine ⟨h.below.trans (hb.below glo h.below.size), fun j s hs => ?_, fun j k s t hjk hs ht g' hg2 => ?_, fun x hx => ?_, fun j s hs g' hg2 x hx => ?_⟩
  · rcases getset hs with ⟨_, rfl⟩ | ⟨hji, hs⟩
    · exact ho
    · exact own_but (h.own j s hs) hb (fun e => h.ap j i s r hji hs hz g e hg)
  · rcases getset hs with ⟨ej, es⟩ | ⟨hji, hs2⟩
    · subst ej es
      rcases getset ht with ⟨ek, _⟩ | ⟨hki, ht2⟩
      · exact absurd ek.symm hjk
      · rw [hg'] at hg2
        cases hg2
        exact h.ap j k r t hjk hz ht2 g hg
    · rcases getset ht with ⟨ek, et⟩ | ⟨hki, ht2⟩
      · subst ek et
        intro e
        rw [hg'] at e
        cases e
        exact h.ap j k s r hjk hs2 hz g hg2 hg
      · exact h.ap j k s t hjk hs2 ht2 g' hg2
  · have ho2 := h.off i r hz g hg x hx
    exact ⟨own_but (h.each x hx).l hb ho2.1, own_but (h.each x hx).m hb ho2.2⟩
  · rcases getset hs with ⟨rfl, rfl⟩ | ⟨hji, hs⟩
    · rw [hg'] at hg2
      cases hg2
      exact h.off j r hz g hg x hx
    · exact h.off j s hs g' hg2 x hx
theorem KS.mv (h : KS W w R H) (i : Nat) (r' : Rr) (hb : Below w.heap.size w w') (ho : r'.ok w' w.heap.size) : KS W w' (R.set i r') H := by
  have h' := h.on hb
  have new : ∀ g, r'.v.ownBlock = some g → w.heap.size ≤ g := fun g hg => (own_lt2 ho hg).1
  have old : ∀ (i : Nat) (s : Rr), R[i]? = some s → ∀ g, s.v.ownBlock = some g → g < w.heap.size := fun i s hs g hg => (own_lt2 (h.own i s hs) hg).2
  refine ⟨h'.below, fun j s hs => ?_, fun j k s t hjk hs ht g hg => ?_, h'.each, fun j s hs g hg x hx => ?_⟩
  · rcases getset hs with ⟨_, rfl⟩ | ⟨_, hs⟩
    · exact own_base ho h.below.size
    · exact h'.own j s hs
  · rcases getset hs with ⟨ej, es⟩ | ⟨hji, hs2⟩
    · subst ej es
      rcases getset ht with ⟨ek, _⟩ | ⟨hki, ht2⟩
      · exact absurd ek.symm hjk
      · intro e; have := old k t ht2 g e; have := new g hg; omega
    · rcases getset ht with ⟨ek, et⟩ | ⟨hki, ht2⟩
      · subst ek et
        intro e; have := old j s hs2 g hg; have := new g e; omega
      · exact h.ap j k s t hjk hs2 ht2 g hg
  · rcases getset hs with ⟨rfl, rfl⟩ | ⟨hji, hs⟩
    · have := new g hg
      exact ⟨fun e => by have := (own_lt2 (h.each x hx).l e).2; omega, fun e => by have := (own_lt2 (h.each x hx).m e).2; omega⟩
    · exact h.off j s hs g hg x hx
def Two2 (w w' : World) (B : Nat) (e : TypeId) (st : Nat) (v v' : Value) (n m : Nat) (ys : List Value) : Prop :=
  (∃ g cap, v = .slice (some ⟨g, 0, none⟩) n cap ∧ v' = .slice (some ⟨g, 0, none⟩) (n + m) cap ∧ w'.ownsRow B e st v' (n + m) ys ∧ But g w w') ∨ (w'.ownsRow w.heap.size e st v' (n + m) ys ∧ Below w.heap.size w w')
theorem KS.app (h : KS W w R H) (i : Nat) (hz : R[i]? = some r) {v' : Value} {m : Nat} {ys : List Value} (ha : Two2 w w' W.heap.size r.e r.st r.v v' r.n m ys) : KS W w' (R.set i ⟨r.e, r.st, v', r.n + m, ys⟩) H := by
  rcases ha with ⟨g, cap, hv, hv', ho, hb⟩ | ⟨ho, hb⟩
  · exact h.wr i hz _ (g := g) (by rw [hv]; rfl) (by show v'.ownBlock = some g; rw [hv']; rfl) hb ho
  · exact h.mv i _ hb ho
theorem run_append_two {P : Program} {w : World} {base : Nat} {t ty e : TypeId} {i : TypeInfo} {z : Value} {size bytes : Nat} (ht : P.underlying t = some (.slice e)) (hi : P.info? e = some i) (hz : i.zero = some z) (hsize : i.size = size) (hby : i.bytes = bytes) (hzs : z.cells.size = size) (hsz : 0 < size)
    {v : Value} {n : Nat} {xs : List Value} (hown : w.ownsRow base e size v n xs) (hbase : base ≤ w.heap.size) {a : Addr} {m c : Nat} {news : List Value} (hl : news.length = m * size) (hnews : ∀ j u, news[j]? = some u → w.cell? (a.add j) = some u) (h1 : ∀ u ∈ news, u.oneCell' = true)
    (h63 : n + m ≤ maxLen) (hbytes : (n + m) * bytes ≤ 140737488355328) :
    ∃ v' w', (Builtin.append_ #[t, t] ty #[v, .slice (some a) m c]).run P w = .ok v' w' ∧ Two2 w w' base e size v v' n m (xs ++ news) := by
  have none_below : ∀ w', w.grownBy w' none → Below w.heap.size w w' := fun w' h => ⟨h.os, h.tape, h.output, h.size, fun k hk => h.block k hk (by simp)⟩
  rcases hown.2 with ⟨rfl, rfl⟩ | ⟨g, cap, cur, rfl, hbg, hg, hnc, hcm, hcs, htake⟩
  · have hx : xs = [] := List.eq_nil_of_length_eq_zero (by simpa using hown.1)
    subst hx
    obtain ⟨v2, w2, hr2, ho, hb, _⟩ := run_append_own (P := P) w w.heap.size t ty e i z size bytes ht hi hz hsize hby hzs hsz (.slice none 0 0) 0 [] (World.ownsRow_nil w _ e size) a m c news hl hnews h1 h63 hbytes (Nat.le_refl _)
    exact ⟨v2, w2, hr2, .inr ⟨ho, none_below _ hb⟩⟩
  · by_cases hroom : n + m ≤ cap
    · obtain ⟨v2, w2, hr2, ho, hb, _⟩ := run_append_own (P := P) w base t ty e i z size bytes ht hi hz hsize hby hzs hsz _ n xs hown a m c news hl hnews h1 h63 hbytes hbase
      have hfit : n * i.size + news.length ≤ cur.size := by rw [hcs, hl, hsize, ← Nat.add_mul]; exact Nat.mul_le_mul_right _ hroom
      have hr3 := run_append_room (P := P) w t ty e i ht hi g n cap cur hg a m c news (by rw [hsize]; exact hl) hnews h1 hroom hfit
      rw [hr3] at hr2
      cases hr2
      exact ⟨_, _, hr3, .inl ⟨g, cap, rfl, rfl, ho, hb.os, hb.tape, hb.output, hb.size, fun k hk hn => hb.block k hk (by simp only [Value.ownBlock]; simpa using hn)⟩⟩
    · have holds : ∀ j u, xs[j]? = some u → w.cell? ((⟨g, 0, none⟩ : Addr).add j) = some u := hown.cells (g := g) rfl
      obtain ⟨v2, w2, hr2, ho, hb⟩ := run_append_arg_grows (P := P) w t ty e i z size bytes ht hi hz hsize hby hzs hsz ⟨g, 0, none⟩ n cap xs hown.1 holds a m c news hl hnews (by omega) h63 hbytes
      exact ⟨v2, w2, hr2, .inr ⟨ho, none_below _ hb⟩⟩
theorem own_prefix {x : World} {B : Nat} {e : TypeId} {st : Nat} {g n k cap : Nat} {xs ys : List Value} (h : x.ownsRow B e st (.slice (some ⟨g, 0, none⟩) (n + k) cap) (n + k) (xs ++ ys)) (hl : xs.length = n * st) : x.ownsRow B e st (.slice (some ⟨g, 0, none⟩) n cap) n xs := by
  refine ⟨hl, .inr ?_⟩
  rcases h.2 with ⟨hv, _⟩ | ⟨g', cap', cur, hv, hB, hg, h1, h2, h3, h4⟩
  · cases hv
  · cases hv
    refine ⟨g, cap, cur, rfl, hB, hg, by omega, h2, h3, ?_⟩
    have := congrArg (List.take (n * st)) h4
    rw [List.take_take, Nat.min_eq_left (Nat.mul_le_mul_right _ (Nat.le_add_right n k))] at this
    rw [this, List.take_append_of_le_length (by omega), List.take_of_length_le (by omega)]
theorem KS.keep (h : KS W w (r :: R) H) {v' : Value} {m : Nat} {cs : List Value} (hcs : cs.length = r.st) (hr : r.xs = rp r.n cs) (ha : Two2 w w' W.heap.size r.e r.st r.v v' r.n m (rp (r.n + m) cs)) : KS W w' R (⟨r.e, r.st, r.v, v', r.n, r.n + m, cs⟩ :: H) := by
  have hr0 := h.mem (i := 0) rfl
  have hall : ∀ (i : Nat) (s : Rr), R[i]? = some s → ∀ g, s.v.ownBlock = some g → r.v.ownBlock ≠ some g := fun i s hs g hg e => h.ap (i + 1) 0 s r (by omega) (by simpa using hs) rfl g hg e
  have hsp : rp (r.n + m) cs = rp r.n cs ++ rp m cs := by unfold rp; rw [← List.flatten_append, List.replicate_append_replicate]
  have hb := (h.app 0 rfl ha).tail
  refine ⟨hb.below, hb.own, hb.ap, fun x hx => ?_, fun i s hs g hg x hx => ?_⟩
  · rcases List.mem_cons.1 hx with rfl | hx
    · rcases ha with ⟨g, cap, hv, hv', ho, _⟩ | ⟨ho, hb2⟩
      · refine ⟨?_, ho⟩
        show w'.ownsRow _ _ _ r.v _ _
        rw [hv]
        rw [hv', hsp] at ho
        exact own_prefix ho (by rw [rp_len, hcs])
      · refine ⟨?_, own_base ho h.below.size⟩
        have := own_on hr0 hb2
        rw [hr] at this
        exact this
    · exact hb.each x hx
  · rcases List.mem_cons.1 hx with rfl | hx
    · refine ⟨hall i s hs g hg, ?_⟩
      rcases ha with ⟨g', cap, hv, hv', ho, _⟩ | ⟨ho, hb2⟩
      · intro e
        have e' : v'.ownBlock = some g := e
        rw [hv'] at e'
        cases e'
        exact hall i s hs _ hg (by rw [hv]; rfl)
      · intro e
        have q1 := (own_lt2 ho e).1
        have q2 := (own_lt2 (h.own (i + 1) s (by simpa using hs)) hg).2
        omega
    · exact hb.off i s hs g hg x hx
theorem KS.swap {r s : Rr} (h : KS W w (r :: s :: R) H) : KS W w (s :: r :: R) H := h.emb (fun i => if i = 0 then 1 else if i = 1 then 0 else i) (fun i t ht => by
  match i with
  | 0 => simpa using ht
  | 1 => simpa using ht
  | i + 2 => simpa using ht) (fun i j hij => by split <;> split <;> (try split) <;> (try split) <;> omega)
theorem KS.perm (h : KS W w R H) (hp : R.Perm R') : KS W w R' H := by
  have mem : ∀ r, r ∈ R' → ∃ i, R[i]? = some r := fun r hr => List.mem_iff_getElem?.1 (hp.mem_iff.2 hr)
  have pw : R.Pairwise (fun r s => ∀ g, r.v.ownBlock = some g → s.v.ownBlock ≠ some g) := List.pairwise_iff_getElem.2 fun i j hi hj hij => h.ap i j _ _ (by omega) (List.getElem?_eq_getElem hi) (List.getElem?_eq_getElem hj)
  have pw' := List.pairwise_iff_getElem.1 ((hp.pairwise_iff (fun {x y} hxy g hg e => hxy g e hg)).1 pw)
  refine ⟨h.below, fun i r hr => ?_, fun i j r s hij hr hs => ?_, h.each, fun i r hr => ?_⟩
  · obtain ⟨k, hk⟩ := mem r (List.mem_of_getElem? hr)
    exact h.own k r hk
  · obtain ⟨hi, ei⟩ := List.getElem?_eq_some_iff.1 hr
    obtain ⟨hj, ej⟩ := List.getElem?_eq_some_iff.1 hs
    rcases Nat.lt_or_ge i j with hlt | hge
    · have := pw' i j hi hj hlt
      rw [ei, ej] at this
      exact this
    · have := pw' j i hj hi (by omega)
      rw [ei, ej] at this
      exact fun g hg e => this g e hg
  · obtain ⟨k, hk⟩ := mem r (List.mem_of_getElem? hr)
    exact h.off k r hk
theorem own_box (w : World) (e : TypeId) (cs : List Value) : (w.alloc (.cells cs.toArray e)).ownsRow w.heap.size e cs.length (.slice (some ⟨w.heap.size, 0, none⟩) 1 1) 1 cs :=
  ⟨by simp, .inr ⟨w.heap.size, 1, cs.toArray, rfl, Nat.le_refl _, heap_alloc_new _ _, Nat.le_refl _, by unfold maxLen; omega, by simp, by simp⟩⟩
theorem own_cel {B : Nat} {e : TypeId} {s g : Nat} {cs : List Value} (h : w.ownsRow B e s (.slice (some ⟨g, 0, none⟩) 1 1) 1 cs) : Cel w g e cs := by
  have hl := h.1
  rcases h.2 with ⟨hv, _⟩ | ⟨g', cap, cur, hv, hB, hg, h1, h2, h3, h4⟩
  · cases hv
  · cases hv
    rw [List.take_of_length_le (by rw [Array.length_toList, h3]; exact Nat.le_refl _)] at h4
    unfold Cel
    rw [hg, ← h4]
def bx (e : TypeId) (g : Nat) (cs : List Value) : Rr := ⟨e, cs.length, .slice (some ⟨g, 0, none⟩) 1 1, 1, cs⟩
theorem KS.box (h : KS W w R H) (e : TypeId) (cs : List Value) : KS W (w.alloc (.cells cs.toArray e)) (bx e w.heap.size cs :: R) H := h.add _ (below_one _ _) (own_box _ _ _)
theorem KS.cel (h : KS W w R H) (i : Nat) {e : TypeId} {g : Nat} {cs : List Value} (hz : R[i]? = some (bx e g cs)) : Cel w g e cs := own_cel (h.mem hz)
theorem KS.put (h : KS W w R H) (i : Nat) {e : TypeId} {g : Nat} {cs : List Value} (hz : R[i]? = some (bx e g cs)) (ds : List Value) : KS W (w.setRow g ds.toArray) (R.set i (bx e g ds)) H := by
  have h0 := h.mem hz
  refine h.wr i hz _ (g := g) rfl rfl (but_setRow _ _ _) ?_
  rcases h0.2 with ⟨hv, _⟩ | ⟨g', cap, cur, hv, hB, hg, h1, h2, h3, h4⟩
  · cases hv
  · cases hv
    exact ⟨by simp [bx], .inr ⟨g, 1, ds.toArray, rfl, hB, setRow_heap w g _ _ e _ hg, Nat.le_refl _, h2, by simp [bx], by simp [bx]⟩⟩
theorem cel_new (w : World) (t : TypeId) (cs : List Value) : Cel (w.alloc (.cells cs.toArray t)) w.heap.size t cs := heap_alloc_new _ _
def fl1 (u : Value) (xs : List Value) (j : Nat) : List Value := rp j [u] ++ xs.drop j
theorem rp1_len (n : Nat) (u : Value) : (rp n [u]).length = n := by rw [rp_len]; simp
theorem fl1_0 (u : Value) (xs : List Value) : fl1 u xs 0 = xs := by simp [fl1, rp]
theorem fl1_all (u : Value) (xs : List Value) (n : Nat) (h : xs.length = n) : fl1 u xs n = rp n [u] := by
  unfold fl1
  rw [List.drop_eq_nil_of_le (by omega), List.append_nil]
theorem fl1_len (u : Value) (xs : List Value) (j : Nat) (h : j ≤ xs.length) : (fl1 u xs j).length = xs.length := by
  unfold fl1
  rw [List.length_append, rp1_len, List.length_drop]
  omega
theorem fl1_set (u : Value) (xs : List Value) (j : Nat) (h : j < xs.length) : (fl1 u xs j).set j u = fl1 u xs (j + 1) := by
  unfold fl1
  rw [rp_succ, List.set_append_right _ _ (by rw [rp1_len]; exact Nat.le_refl _), rp1_len, Nat.sub_self, List.append_assoc, List.drop_eq_getElem_cons h]
  rfl
theorem KS.own0 {W w : World} {R : List Rr} {H : List Hk} {e st n : Nat} {v : Value} {xs : List Value} (h : KS W w (⟨e, st, v, n, xs⟩ :: R) H) : w.ownsRow W.heap.size e st v n xs := h.mem (i := 0) rfl
theorem two_frm {w w' : World} {B : Nat} {e : TypeId} {st : Nat} {v v' : Value} {n m : Nat} {ys : List Value} (h : Two2 w w' B e st v v' n m ys) (hs : 0 < st) : ∃ a c, v' = .slice a (n + m) c := by
  rcases h with ⟨g, cap, _, h, _⟩ | ⟨h, _⟩
  · exact ⟨_, _, h⟩
  · exact own_frm h hs
end Go.Proofs.YtncnogndopgknaaGreatDoor
namespace Go.Proofs.YtncnogndopgknaaGreatDoor
open Go.RowKit
set_option maxRecDepth 100000
set_option maxHeartbeats 8000000
theorem parts3 {P : Program} {e : TypeId} {z : Option Value} {s b : Nat} (h : (P.info? e).map (fun i => (i.zero, i.size, i.bytes)) = some (z, s, b)) : ∃ i, P.info? e = some i ∧ i.zero = z ∧ i.size = s ∧ i.bytes = b := by
  cases hi : P.info? e with
  | none => rw [hi] at h; cases h
  | some i =>
    rw [hi] at h
    simp only [Option.map_some, Option.some.injEq, Prod.mk.injEq] at h
    exact ⟨i, rfl, h.1, h.2.1, h.2.2⟩
theorem wpList_append_q {w w' : World} {ops : Array Oper} {rest : List Oper} {o : Oper} {a : Act} {Q : Exit → Act → World → Prop} (hgd : o.guard = none) (s x : Operand) {t1 t2 : TypeId} (ho : o.op = .call { callee := .builtin .append, args := #[s, x], argTypes := #[t1, t2] }) (v : Value) (hs : a.eval s = v) (vx : Value) (hx : a.eval x = vx) {v' : Value}
    (hr : (Builtin.append_ #[t1, t2] o.type #[v, vx]).run Tryz.prog w = .ok v' w') (h : wpList Tryz.prog ops Q rest (a.put o.dst v') w') : wpList Tryz.prog ops Q (o :: rest) a w := by
  refine wpList_plain hgd fun K hK => ?_
  unfold Oper.wp execOp
  simp only [ho, resolve, invoke, builtin, Sem.run_bind, Sem.run_pure, Result.andThen_ok, List.map_toArray, List.map_cons, List.map_nil, hs, hx, hr]
  exact hK _ _ h
def Lie (w : World) (p : Option Addr) (news : List Value) : Prop := news = [] ∨ ∃ b o, p = some ⟨b, o, none⟩ ∧ ∀ j u, news[j]? = some u → w.cell? ⟨b, o + j, none⟩ = some u
theorem run_append_s {w : World} (t e ty : TypeId) (ht : Tryz.prog.underlying t = some (.slice e)) {z : Value} {st by_ : Nat} (hi : (Tryz.prog.info? e).map (fun i => (i.zero, i.size, i.bytes)) = some (some z, st, by_)) (hzs : z.cells.size = st) (hst : 0 < st) (hb8 : by_ ≤ 1000) {B n m c : Nat} {p : Option Addr} {v : Value} {xs news : List Value} (hown : w.ownsRow B e st v n xs) (hB : B ≤ w.heap.size) (hl : news.length = m * st) (hat : Lie w p news) (h1 : ∀ u ∈ news, u.oneCell' = true) (hn : n + m ≤ 100000000000) :
    ∃ v' w', (Builtin.append_ #[t, t] ty #[v, .slice p m c]).run Tryz.prog w = .ok v' w' ∧ Two2 w w' B e st v v' n m (xs ++ news) := by
  obtain ⟨i, hi, hz, hsize, hby⟩ := parts3 hi
  cases p with
  | none =>
    have hL : news = [] := by
      rcases hat with h0 | ⟨b, off, h0, _⟩
      · exact h0
      · cases h0
    subst hL
    have hm : m = 0 := by
      rcases Nat.eq_zero_or_pos m with h | h
      · exact h
      · have := Nat.mul_pos h hst
        simp only [List.length_nil] at hl
        omega
    subst hm
    refine ⟨v, w, ?_, ?_⟩
    · exact run_append_owned_none (P := Tryz.prog) (w := w) B t ty e i st ht hi _ _ _ hown
    · rw [List.append_nil]
      rcases hown.2 with ⟨rfl, rfl⟩ | ⟨g, cap, cur, rfl, _⟩
      · exact .inr ⟨⟨hown.1, .inl ⟨rfl, rfl⟩⟩, Below.refl _ _⟩
      · exact .inl ⟨g, cap, rfl, rfl, hown, ⟨rfl, rfl, rfl, Nat.le_refl _, fun _ _ _ => rfl⟩⟩
  | some ad =>
    exact run_append_two (P := Tryz.prog) ht hi hz hsize hby hzs hst hown hB hl (fun j u hu => by
      rcases hat with h0 | ⟨b, off, h0, h2⟩
      · rw [h0] at hu; simp at hu
      · cases h0
        rw [addr_add]
        exact h2 j u hu) h1 (by unfold maxLen; omega) (by
      have : (n + m) * by_ ≤ (n + m) * 1000 := Nat.mul_le_mul_left _ hb8
      omega)
theorem wpList_append_s {w : World} {ops : Array Oper} {rest : List Oper} {o : Oper} {ac : Act} {Q : Exit → Act → World → Prop} (hgd : o.guard = none) (s x : Operand) (t e : TypeId) (ho : o.op = .call { callee := .builtin .append, args := #[s, x], argTypes := #[t, t] }) (ht : Tryz.prog.underlying t = some (.slice e)) {z : Value} {st by_ : Nat} (hi : (Tryz.prog.info? e).map (fun i => (i.zero, i.size, i.bytes)) = some (some z, st, by_)) (hzs : z.cells.size = st) (hst : 0 < st) (hb8 : by_ ≤ 1000) {B n m c : Nat} {p : Option Addr} {v : Value} {xs news : List Value} (hs : ac.eval s = v) (hown : w.ownsRow B e st v n xs) (hB : B ≤ w.heap.size) (hx : ac.eval x = .slice p m c) (hl : news.length = m * st) (hat : Lie w p news) (h1 : ∀ u ∈ news, u.oneCell' = true) (hn : n + m ≤ 100000000000)
    (h : ∀ v' w', Two2 w w' B e st v v' n m (xs ++ news) → wpList Tryz.prog ops Q rest (ac.put o.dst v') w') : wpList Tryz.prog ops Q (o :: rest) ac w := by
  obtain ⟨v', w', hr, h2⟩ := run_append_s t e o.type (c := c) ht hi hzs hst hb8 hown hB hl hat h1 hn
  exact wpList_append_q hgd s x ho v hs _ hx hr (h v' w' h2)
theorem Cel.lie {w : World} {g : Nat} {e : TypeId} {cs : List Value} (h : Cel w g e cs) : Lie w (some ⟨g, 0, none⟩) cs := .inr ⟨g, 0, rfl, fun j u hu => by rw [Nat.zero_add, h.cell j]; exact hu⟩
theorem keep1 {W w w' : World} {R : List Rr} {H : List Hk} {e st n : Nat} {v v' : Value} {cs : List Value} (h : KS W w (⟨e, st, v, n, rp n cs⟩ :: R) H) (hcs : cs.length = st) (ha : Two2 w w' W.heap.size e st v v' n 1 (rp n cs ++ cs)) : KS W w' R (⟨e, st, v, v', n, n + 1, cs⟩ :: H) :=
  h.keep (m := 1) (cs := cs) hcs rfl (by
    show Two2 w w' W.heap.size e st v v' n 1 (rp (n + 1) cs)
    rw [rp_succ]
    exact ha)
def fls (cs : List Value) (st : Nat) (xs : List Value) (j : Nat) : List Value := rp j cs ++ xs.drop (j * st)
theorem fls_0 (cs : List Value) (st : Nat) (xs : List Value) : fls cs st xs 0 = xs := by simp [fls, rp]
theorem fls_all (cs : List Value) (st n : Nat) (xs : List Value) (hx : xs.length = n * st) : fls cs st xs n = rp n cs := by
  unfold fls
  rw [List.drop_eq_nil_of_le (by omega), List.append_nil]
end Go.Proofs.YtncnogndopgknaaGreatDoor
namespace Go.Proofs.YtncnogndopgknaaGreatDoor
open Go.RowKit
set_option maxRecDepth 100000
set_option maxHeartbeats 8000000
theorem run_store_g {W w : World} {R : List Rr} {H : List Hk} {e : TypeId} {st : Nat} (hsz : (Tryz.prog.info? e).map (·.size) = some st) (hK : KS W w R H) (i : Nat) {g n c : Nat} {xs : List Value} (hz : R[i]? = some ⟨e, st, .slice (some ⟨g, 0, none⟩) n c, n, xs⟩) (j : Nat) (hj : j < n) (cs : List Value) (hcs : cs.length = st) (h1 : ∀ u ∈ cs, u.oneCell' = true) :
    ∃ w', (storeVar e ⟨g, j * st, none⟩ (.agg cs.toArray)).run Tryz.prog w = .ok () w' ∧ KS W w' (R.set i ⟨e, st, .slice (some ⟨g, 0, none⟩) n c, n, xs.take (j * st) ++ cs ++ xs.drop (j * st + st)⟩) H := by
  have hown : w.ownsRow W.heap.size e st (.slice (some ⟨g, 0, none⟩) n c) n xs := hK.mem hz
  have hxl : xs.length = n * st := hown.1
  rcases hown.2 with ⟨hv, _⟩ | ⟨g', cap, cur, hv, hB, hg, k1, k2, k3, k4⟩
  · cases hv
  · cases hv
    have hle : j * st + st ≤ n * st := by
      have := Nat.mul_le_mul_right st (show j + 1 ≤ n by omega)
      rw [Nat.add_mul, Nat.one_mul] at this
      exact this
    have hcn : n * st ≤ c * st := Nat.mul_le_mul_right _ k1
    have hcl : n * st ≤ cur.toList.length := by rw [Array.length_toList, k3]; exact hcn
    have hst := run_storeCells_at (P := Tryz.prog) g (j * st) e cs 0 cur w hg (by have : cur.size = c * st := k3; omega) h1
    simp only [Nat.add_zero, hcs] at hst
    obtain ⟨i0, hi, his⟩ := Option.map_eq_some_iff.1 hsz
    have hrun : (storeVar e ⟨g, j * st, none⟩ (.agg cs.toArray)).run Tryz.prog w = .ok () (w.setRow g (cur.toList.take (j * st) ++ cs ++ cur.toList.drop (j * st + st)).toArray) := by
      have hl5 : cs.length = i0.size := by rw [hcs]; exact his.symm
      simp [storeVar, sizeOf, typeInfo, hi, Value.cells, hl5, hst]
    have hp : (cur.toList.take (j * st) ++ cs ++ cur.toList.drop (j * st + st)).take (n * st) = xs.take (j * st) ++ cs ++ xs.drop (j * st + st) := by
      rw [← k4, List.take_take, Nat.min_eq_left (by omega), List.take_append, List.take_of_length_le (by simp [hcs]; omega), List.drop_take]
      congr 2
      simp [hcs]
      omega
    have hnew : (w.setRow g (cur.toList.take (j * st) ++ cs ++ cur.toList.drop (j * st + st)).toArray).ownsRow W.heap.size e st (.slice (some ⟨g, 0, none⟩) n c) n (xs.take (j * st) ++ cs ++ xs.drop (j * st + st)) := by
      refine ⟨by simp [hcs]; omega, .inr ⟨g, c, _, rfl, hB, setRow_heap w g _ _ e _ hg, k1, k2, ?_, hp⟩⟩
      rw [List.size_toArray, List.length_append, List.length_append, List.length_take, List.length_drop, Array.length_toList, k3, hcs]
      omega
    exact ⟨_, hrun, hK.wr i hz ⟨e, st, .slice (some ⟨g, 0, none⟩) n c, n, xs.take (j * st) ++ cs ++ xs.drop (j * st + st)⟩ (g := g) rfl rfl (but_setRow _ _ _) hnew⟩
theorem wpList_store_g {W w : World} {R : List Rr} {H : List Hk} {e : TypeId} {st : Nat} {ops : Array Oper} {rest : List Oper} {o : Oper} {a : Act} {Q : Exit → Act → World → Prop} (hgd : o.guard = none) (x y : Operand) (ho : o.op = .store e x y) (hsz : (Tryz.prog.info? e).map (·.size) = some st) (hK : KS W w R H) (i : Nat) {g n c : Nat} {xs : List Value} (hz : R[i]? = some ⟨e, st, .slice (some ⟨g, 0, none⟩) n c, n, xs⟩) (j : Nat) (hj : j < n) (cs : List Value) (hcs : cs.length = st) (h1 : ∀ u ∈ cs, u.oneCell' = true) (hx : a.eval x = .pointer (some ⟨g, j * st, none⟩)) (hy : a.eval y = .agg cs.toArray)
    (h : ∀ w', KS W w' (R.set i ⟨e, st, .slice (some ⟨g, 0, none⟩) n c, n, xs.take (j * st) ++ cs ++ xs.drop (j * st + st)⟩) H → wpList Tryz.prog ops Q rest (a.put o.dst undef) w') : wpList Tryz.prog ops Q (o :: rest) a w := by
  obtain ⟨w', hrun, hk⟩ := run_store_g hsz hK i hz j hj cs hcs h1
  refine wpList_plain hgd fun K hK2 => ?_
  have := h _ hk
  unfold Oper.wp execOp
  simp only [ho, hx, hy, Instr.storeAt, Instr.sureAddr, Sem.run_bind, Sem.run_pure, Result.andThen_ok, hrun]
  exact hK2 _ _ this
theorem fls_succ (cs : List Value) (st : Nat) (xs : List Value) (hc : cs.length = st) (j : Nat) : (fls cs st xs j).take (j * st) ++ cs ++ (fls cs st xs j).drop (j * st + st) = fls cs st xs (j + 1) := by
  have hl : (rp j cs).length = j * st := by rw [rp_len, hc]
  unfold fls
  rw [List.take_left' hl, ← List.drop_drop, List.drop_left' hl, List.drop_drop, rp_succ, Nat.add_mul, Nat.one_mul]
theorem KS.set1 {W w : World} {R : List Rr} {H : List Hk} {e : TypeId} (hK : KS W w R H) (i : Nat) {g n c : Nat} {xs : List Value} (hz : R[i]? = some ⟨e, 1, .slice (some ⟨g, 0, none⟩) n c, n, xs⟩) (j : Nat) (u : Value) : KS W (w.setCell ⟨g, j, none⟩ u) (R.set i ⟨e, 1, .slice (some ⟨g, 0, none⟩) n c, n, xs.set j u⟩) H :=
  hK.wr i hz ⟨e, 1, .slice (some ⟨g, 0, none⟩) n c, n, xs.set j u⟩ (g := g) rfl rfl (but_setCell w g j u) (own_setc (hK.mem hz) j u)
end Go.Proofs.YtncnogndopgknaaGreatDoor
