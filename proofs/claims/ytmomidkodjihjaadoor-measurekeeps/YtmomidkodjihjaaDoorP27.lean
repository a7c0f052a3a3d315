import Derived.Test.YtmomidkodjihjaaDoorP26
import Derived.Test.YtmomidkodjihjaaDoorP23
import Derived.ArgAppend
import Derived.Laws.OwnMore
namespace Go.Proofs.YtmomidkodjihjaaDoor
open Go.RowKit
open H
set_option maxRecDepth 100000
structure Rr where
  e : TypeId
  st : Nat
  v : Value
  n : Nat
  xs : List Value
def Rr.ok (w : World) (B : Nat) (r : Rr) : Prop := w.ownsRow B r.e r.st r.v r.n r.xs
def rp (n : Nat) (cs : List Value) : List Value := (List.replicate n cs).flatten
theorem rp_len (n : Nat) (cs : List Value) : (rp n cs).length = n * cs.length := by simp [rp]
theorem rp_succ (n : Nat) (cs : List Value) : rp (n + 1) cs = rp n cs ++ cs := by
  unfold rp
  rw [List.replicate_succ', List.flatten_append]
  simp
structure Hk where
  e : TypeId
  st : Nat
  vl : Value
  vm : Value
  n : Nat
  m : Nat
  cs : List Value
structure Hk.ok (w : World) (B : Nat) (h : Hk) : Prop where
  l : w.ownsRow B h.e h.st h.vl h.n (rp h.n h.cs)
  m : w.ownsRow B h.e h.st h.vm h.m (rp h.m h.cs)
structure KS (W w : World) (R : List Rr) (H : List Hk) : Prop where
  below : Below W.heap.size W w
  own : ∀ (i : Nat) (r : Rr), R[i]? = some r → r.ok w W.heap.size
  ap : ∀ (i j : Nat) (r s : Rr), i ≠ j → R[i]? = some r → R[j]? = some s → ∀ g, r.v.ownBlock = some g → s.v.ownBlock ≠ some g
  each : ∀ h ∈ H, h.ok w W.heap.size
  off : ∀ (i : Nat) (r : Rr), R[i]? = some r → ∀ g, r.v.ownBlock = some g → ∀ h ∈ H, h.vl.ownBlock ≠ some g ∧ h.vm.ownBlock ≠ some g
theorem own_lt2 {x : World} {B : Nat} {e : TypeId} {st : Nat} {v : Value} {n : Nat} {xs : List Value} (h : x.ownsRow B e st v n xs) {g : Nat} (hg : v.ownBlock = some g) : B ≤ g ∧ g < x.heap.size := h.lt g hg
theorem own_on {w w' : World} {B : Nat} {e : TypeId} {st : Nat} {v : Value} {n : Nat} {xs : List Value} (h : w.ownsRow B e st v n xs) (hb : Below w.heap.size w w') : w'.ownsRow B e st v n xs := ownsRow_below h hb
theorem own_ty {x : World} {B : Nat} {e : TypeId} {st : Nat} {v : Value} {n : Nat} {xs : List Value} (h : x.ownsRow B e st v n xs) {g : Nat} (hg : v.ownBlock = some g) : ∃ cur, x.heap[g]? = some (.cells cur e (0, 0)) := by
  rcases h.2 with ⟨rfl, _⟩ | ⟨g', cap, cur, rfl, _, hh, _⟩
  · cases hg
  · simp only [Value.ownBlock, Option.some.injEq] at hg
    subst hg
    exact ⟨cur, hh⟩
theorem own_frm {w : World} {b : Nat} {e : TypeId} {st : Nat} {v : Value} {n : Nat} {xs : List Value} (h : w.ownsRow b e st v n xs) (_hst : 0 < st) : ∃ ao c, v = .slice ao n c := by
  rcases h.2 with ⟨hv, hn⟩ | ⟨g, cap, cur, hv, _⟩
  · exact ⟨none, 0, by rw [hv, hn]⟩
  · exact ⟨_, _, hv⟩
theorem own_some {w : World} {B : Nat} {e : TypeId} {s : Nat} {ao : Option Addr} {n c : Nat} {xs : List Value} (h : w.ownsRow B e s (.slice ao n c) n xs) (hn : 0 < n) : ∃ g, ao = some ⟨g, 0, none⟩ := by
  rcases h.2 with ⟨hv, _⟩ | ⟨g, cap, cur, hv, _⟩
  · injection hv with _ h0 _
    omega
  · injection hv with hv
    exact ⟨g, hv⟩
theorem own_cap {w : World} {B : Nat} {e : TypeId} {s : Nat} {ao : Option Addr} {n c : Nat} {xs : List Value} (h : w.ownsRow B e s (.slice ao n c) n xs) : n ≤ c := by
  rcases h.2 with ⟨hv, _⟩ | ⟨g, cap, cur, hv, _, _, h1, _⟩
  · injection hv with _ h0 h1
    omega
  · injection hv with _ _ hc
    omega
theorem addr_add (g o j : Nat) : (⟨g, o, none⟩ : Addr).add j = ⟨g, o + j, none⟩ := by unfold Addr.add; split <;> simp_all
theorem own_rng {w : World} {B : Nat} {e : TypeId} {s : Nat} {g n c : Nat} {xs : List Value} (h : w.ownsRow B e s (.slice (some ⟨g, 0, none⟩) n c) n xs) : w.rangeAt g 0 xs := fun j u hu => by
  have := h.cells (g := g) rfl j u hu
  rw [addr_add] at this
  exact this
theorem own_free {w : World} {B : Nat} {e : TypeId} {s : Nat} {g n c : Nat} {xs : List Value} (h : w.ownsRow B e s (.slice (some ⟨g, 0, none⟩) n c) n xs) (j : Nat) : w.frozen? ⟨g, j, none⟩ = false := by
  rcases h.2 with ⟨hv, _⟩ | ⟨g', cap, cur, hv, _, hg, _⟩
  · cases hv
  · cases hv
    exact frozen_of_row w g j _ e hg
theorem own_at {w : World} {B : Nat} {ao : Option Addr} {n c : Nat} {L : List Int} (h : w.ownsRow B 24 1 (.slice ao n c) n (L.map (Value.int .u32))) : At w .u32 ao L := by
  rcases Nat.eq_zero_or_pos n with h0 | h0
  · left
    have := h.1
    rw [List.length_map, h0] at this
    exact List.eq_nil_of_length_eq_zero (by omega)
  · obtain ⟨g, rfl⟩ := own_some h h0
    refine .inr ⟨g, 0, rfl, (own_lt2 h rfl).2, fun i hi => ?_⟩
    rw [own_rng h i (.int .u32 (L.getD i 0)) (by rw [List.getElem?_map, List.getD_eq_getElem?_getD, List.getElem?_eq_getElem hi]; rfl)]
theorem own_setc {w : World} {B : Nat} {e : TypeId} {s : Nat} {g n c : Nat} {xs : List Value} (h : w.ownsRow B e s (.slice (some ⟨g, 0, none⟩) n c) n xs) (j : Nat) (u : Value) : (w.setCell ⟨g, j, none⟩ u).ownsRow B e s (.slice (some ⟨g, 0, none⟩) n c) n (xs.set j u) := by
  refine ⟨by rw [List.length_set]; exact h.1, .inr ?_⟩
  rcases h.2 with ⟨hv, _⟩ | ⟨g', cap, cur, hv, hB, hg, h1, h2, h3, h4⟩
  · cases hv
  · cases hv
    refine ⟨g, c, cur.setIfInBounds j u, rfl, hB, ?_, h1, h2, by simpa using h3, ?_⟩
    · exact heap_setCell_same w g j cur e _ hg
    · rw [Array.toList_setIfInBounds, List.take_set, h4]
variable {W w w' : World} {R R' : List Rr} {H : List Hk} {r : Rr}
theorem KS.start (W : World) : KS W W [] [] := ⟨Below.refl _ _, fun _ _ h => (by simp at h), fun _ _ _ _ _ h => (by simp at h), fun _ h => (by cases h), fun _ _ h => (by simp at h)⟩
theorem KS.on (h : KS W w R H) (hb : Below w.heap.size w w') : KS W w' R H :=
  ⟨below_on h.below hb, fun i r hr => own_on (h.own i r hr) hb, h.ap, fun x hx => ⟨own_on (h.each x hx).l hb, own_on (h.each x hx).m hb⟩, h.off⟩
theorem KS.emb (h : KS W w R H) (f : Nat → Nat) (hf : ∀ i r, R'[i]? = some r → R[f i]? = some r) (hi : ∀ i j, i ≠ j → f i ≠ f j) : KS W w R' H :=
  ⟨h.below, fun i r hr => h.own _ r (hf i r hr), fun i j r s hij hr hs => h.ap _ _ r s (hi i j hij) (hf i r hr) (hf j s hs), h.each, fun i r hr => h.off _ r (hf i r hr)⟩
theorem KS.tail (h : KS W w (r :: R) H) : KS W w R H := h.emb (· + 1) (fun i r hr => by simpa using hr) (fun i j hij => by omega)
theorem KS.er (h : KS W w R H) (k : Nat) : KS W w (R.eraseIdx k) H := h.emb (fun i => if i < k then i else i + 1) (fun i r hr => by
  rw [List.getElem?_eraseIdx] at hr
  by_cases hk : i < k
  · rw [if_pos hk] at hr
    simp only [hk, if_true]
    exact hr
  · rw [if_neg hk] at hr
    simp only [hk, if_false]
    exact hr) (fun i j hij => by split <;> split <;> omega)
theorem KS.mem (h : KS W w R H) {i : Nat} (hr : R[i]? = some r) : w.ownsRow W.heap.size r.e r.st r.v r.n r.xs := h.own i r hr
theorem KS.add (h : KS W w R H) (r : Rr) (hb : Below w.heap.size w w') (hr : r.ok w' w.heap.size) : KS W w' (r :: R) H := by
  have h' := h.on hb
  have new : ∀ g, r.v.ownBlock = some g → w.heap.size ≤ g := fun g hg => (own_lt2 hr hg).1
  have old : ∀ (i : Nat) (s : Rr), R[i]? = some s → ∀ g, s.v.ownBlock = some g → g < w.heap.size := fun i s hs g hg => (own_lt2 (h.own i s hs) hg).2
  refine ⟨h'.below, fun i s hs => ?_, fun i j s t hij hs ht g hg => ?_, h'.each, fun i s hs g hg x hx => ?_⟩
  · cases i with
    | zero => cases (show r = s by simpa using hs); exact own_base hr h.below.size
    | succ i => exact h'.own i s (by simpa using hs)
  · cases i with
    | zero =>
      cases (show r = s by simpa using hs)
      cases j with
      | zero => exact absurd rfl hij
      | succ j => intro e; have := old j t (by simpa using ht) g e; have := new g hg; omega
    | succ i =>
      cases j with
      | zero => cases (show r = t by simpa using ht); intro e; have := old i s (by simpa using hs) g hg; have := new g e; omega
      | succ j => exact h.ap i j s t (by omega) (by simpa using hs) (by simpa using ht) g hg
  · cases i with
    | zero =>
      cases (show r = s by simpa using hs)
      have := new g hg
      exact ⟨fun e => by have := (own_lt2 (h.each x hx).l e).2; omega, fun e => by have := (own_lt2 (h.each x hx).m e).2; omega⟩
    | succ i => exact h.off i s (by simpa using hs) g hg x hx
theorem getset {R : List Rr} {i j : Nat} {r' s : Rr} (h : (R.set i r')[j]? = some s) : (j = i ∧ s = r') ∨ (j ≠ i ∧ R[j]? = some s) := by
  rw [List.getElem?_set] at h
  by_cases hij : i = j
  · rw [if_pos hij] at h
    split at h
    · exact .inl ⟨hij.symm, by cases h; rfl⟩
    · cases h
  · rw [if_neg hij] at h
    exact .inr ⟨fun e => hij e.symm, h⟩
theorem KS.wr (h : KS W w R H) (i : Nat) (hz : R[i]? = some r) (r' : Rr) {g : Nat} (hg : r.v.ownBlock = some g) (hg' : r'.v.ownBlock = some g) (hb : But g w w') (ho : r'.ok w' W.heap.size) : KS W w' (R.set i r') H := by
  have glo : W.heap.size ≤ g := (own_lt2 (h.own i r hz) hg).1
  refine ⟨h.below.trans (hb.below glo h.below.size), fun j s hs => ?_, fun j k s t hjk hs ht g' hg2 => ?_, fun x hx => ?_, fun j s hs g' hg2 x hx => ?_⟩
  · rcases getset hs with ⟨_, rfl⟩ | ⟨hji, hs⟩
    · exact ho
    · exact own_but (h.own j s hs) hb (fun e => h.ap j i s r hji hs hz g e hg)
  · rcases getset hs with ⟨ej, es⟩ | ⟨hji, hs2⟩
    · subst ej es
      rcases getset ht with ⟨ek, _⟩ | ⟨hki, ht2⟩
      · exact absurd ek.symm hjk
      · rw [hg'] at hg2
        cases hg2
        exact h.ap j k r t hjk hz ht2 g hg
    · rcases getset ht with ⟨ek, et⟩ | ⟨hki, ht2⟩
      · subst ek et
        intro e
        rw [hg'] at e
        cases e
        exact h.ap j k s r hjk hs2 hz g hg2 hg
      · exact h.ap j k s t hjk hs2 ht2 g' hg2
  · have ho2 := h.off i r hz g hg x hx
    exact ⟨own_but (h.each x hx).l hb ho2.1, own_but (h.each x hx).m hb ho2.2⟩
  · rcases getset hs with ⟨rfl, rfl⟩ | ⟨hji, hs⟩
    · rw [hg'] at hg2
      cases hg2
      exact h.off j r hz g hg x hx
    · exact h.off j s hs g' hg2 x hx
theorem KS.mv (h : KS W w R H) (i : Nat) (r' : Rr) (hb : Below w.heap.size w w') (ho : r'.ok w' w.heap.size) : KS W w' (R.set i r') H := by
  have h' := h.on hb
  have new : ∀ g, r'.v.ownBlock = some g → w.heap.size ≤ g := fun g hg => (own_lt2 ho hg).1
  have old : ∀ (i : Nat) (s : Rr), R[i]? = some s → ∀ g, s.v.ownBlock = some g → g < w.heap.size := fun i s hs g hg => (own_lt2 (h.own i s hs) hg).2
  refine ⟨h'.below, fun j s hs => ?_, fun j k s t hjk hs ht g hg => ?_, h'.each, fun j s hs g hg x hx => ?_⟩
  · rcases getset hs with ⟨_, rfl⟩ | ⟨_, hs⟩
    · exact own_base ho h.below.size
    · exact h'.own j s hs
  · rcases getset hs with ⟨ej, es⟩ | ⟨hji, hs2⟩
    · subst ej es
      rcases getset ht with ⟨ek, _⟩ | ⟨hki, ht2⟩
      · exact absurd ek.symm hjk
      · intro e; have := old k t ht2 g e; have := new g hg; omega
    · rcases getset ht with ⟨ek, et⟩ | ⟨hki, ht2⟩
      · subst ek et
        intro e; have := old j s hs2 g hg; have := new g e; omega
      · exact h.ap j k s t hjk hs2 ht2 g hg
  · rcases getset hs with ⟨rfl, rfl⟩ | ⟨hji, hs⟩
    · have := new g hg
      exact ⟨fun e => by have := (own_lt2 (h.each x hx).l e).2; omega, fun e => by have := (own_lt2 (h.each x hx).m e).2; omega⟩
    · exact h.off j s hs g hg x hx
def Two2 (w w' : World) (B : Nat) (e : TypeId) (st : Nat) (v v' : Value) (n m : Nat) (ys : List Value) : Prop :=
  (∃ g cap, v = .slice (some ⟨g, 0, none⟩) n cap ∧ v' = .slice (some ⟨g, 0, none⟩) (n + m) cap ∧ w'.ownsRow B e st v' (n + m) ys ∧ But g w w') ∨ (w'.ownsRow w.heap.size e st v' (n + m) ys ∧ Below w.heap.size w w')
theorem KS.app (h : KS W w R H) (i : Nat) (hz : R[i]? = some r) {v' : Value} {m : Nat} {ys : List Value} (ha : Two2 w w' W.heap.size r.e r.st r.v v' r.n m ys) : KS W w' (R.set i ⟨r.e, r.st, v', r.n + m, ys⟩) H := by
  rcases ha with ⟨g, cap, hv, hv', ho, hb⟩ | ⟨ho, hb⟩
  · exact h.wr i hz _ (g := g) (by rw [hv]; rfl) (by show v'.ownBlock = some g; rw [hv']; rfl) hb ho
  · exact h.mv i _ hb ho
theorem run_append_two {P : Program} {w : World} {base : Nat} {t ty e : TypeId} {i : TypeInfo} {z : Value} {size bytes : Nat} (ht : P.underlying t = some (.slice e)) (hi : P.info? e = some i) (hz : i.zero = some z) (hsize : i.size = size) (hby : i.bytes = bytes) (hzs : z.cells.size = size) (hsz : 0 < size)
    {v : Value} {n : Nat} {xs : List Value} (hown : w.ownsRow base e size v n xs) (hbase : base ≤ w.heap.size) {a : Addr} {m c : Nat} {news : List Value} (hl : news.length = m * size) (hnews : ∀ j u, news[j]? = some u → w.cell? (a.add j) = some u) (h1 : ∀ u ∈ news, u.oneCell' = true)
    (h63 : n + m ≤ maxLen) (hbytes : (n + m) * bytes ≤ 140737488355328) :
    ∃ v' w', (Builtin.append_ #[t, t] ty #[v, .slice (some a) m c]).run P w = .ok v' w' ∧ Two2 w w' base e size v v' n m (xs ++ news) := by
  have none_below : ∀ w', w.grownBy w' none → Below w.heap.size w w' := fun w' h => ⟨h.os, h.tape, h.output, h.size, fun k hk => h.block k hk (by simp)⟩
  rcases hown.2 with ⟨rfl, rfl⟩ | ⟨g, cap, cur, rfl, hbg, hg, hnc, hcm, hcs, htake⟩
  · have hx : xs = [] := List.eq_nil_of_length_eq_zero (by simpa using hown.1)
    subst hx
    obtain ⟨v2, w2, hr2, ho, hb, _⟩ := run_append_own (P := P) w w.heap.size t ty e i z size bytes ht hi hz hsize hby hzs hsz (.slice none 0 0) 0 [] (World.ownsRow_nil w _ e size) a m c news hl hnews h1 h63 hbytes (Nat.le_refl _)
    exact ⟨v2, w2, hr2, .inr ⟨ho, none_below _ hb⟩⟩
  · by_cases hroom : n + m ≤ cap
    · obtain ⟨v2, w2, hr2, ho, hb, _⟩ := run_append_own (P := P) w base t ty e i z size bytes ht hi hz hsize hby hzs hsz _ n xs hown a m c news hl hnews h1 h63 hbytes hbase
      have hfit : n * i.size + news.length ≤ cur.size := by rw [hcs, hl, hsize, ← Nat.add_mul]; exact Nat.mul_le_mul_right _ hroom
      have hr3 := run_append_room (P := P) w t ty e i ht hi g n cap cur hg a m c news (by rw [hsize]; exact hl) hnews h1 hroom hfit
      rw [hr3] at hr2
      cases hr2
      exact ⟨_, _, hr3, .inl ⟨g, cap, rfl, rfl, ho, hb.os, hb.tape, hb.output, hb.size, fun k hk hn => hb.block k hk (by simp only [Value.ownBlock]; simpa using hn)⟩⟩
    · have holds : ∀ j u, xs[j]? = some u → w.cell? ((⟨g, 0, none⟩ : Addr).add j) = some u := hown.cells (g := g) rfl
      obtain ⟨v2, w2, hr2, ho, hb⟩ := run_append_arg_grows (P := P) w t ty e i z size bytes ht hi hz hsize hby hzs hsz ⟨g, 0, none⟩ n cap xs hown.1 holds a m c news hl hnews (by omega) h63 hbytes
      exact ⟨v2, w2, hr2, .inr ⟨ho, none_below _ hb⟩⟩
theorem wpList_append_two {P : Program} {w : World} {ops : Array Oper} {rest : List Oper} {o : Oper} {ac : Act} {Q : Exit → Act → World → Prop} (hgd : o.guard = none) (s x : Operand) (t : TypeId)
    (ho : o.op = .call { callee := .builtin .append, args := #[s, x], argTypes := #[t, t] }) {base : Nat} {e : TypeId} {i : TypeInfo} {z : Value} {size bytes : Nat} (ht : P.underlying t = some (.slice e)) (hi : P.info? e = some i) (hz : i.zero = some z) (hsize : i.size = size) (hby : i.bytes = bytes) (hzs : z.cells.size = size) (hsz : 0 < size)
    {v : Value} {n : Nat} {xs : List Value} (hs : ac.eval s = v) (hown : w.ownsRow base e size v n xs) (hbase : base ≤ w.heap.size) {a : Addr} {m c : Nat} {news : List Value} (hx : ac.eval x = .slice (some a) m c) (hl : news.length = m * size) (hnews : ∀ j u, news[j]? = some u → w.cell? (a.add j) = some u) (h1 : ∀ u ∈ news, u.oneCell' = true)
    (h63 : n + m ≤ maxLen) (hbytes : (n + m) * bytes ≤ 140737488355328)
    (h : ∀ v' w', Two2 w w' base e size v v' n m (xs ++ news) → wpList P ops Q rest (ac.put o.dst v') w') : wpList P ops Q (o :: rest) ac w := by
  obtain ⟨v', w', hr, h2⟩ := run_append_two (P := P) (ty := o.type) (c := c) ht hi hz hsize hby hzs hsz hown hbase hl hnews h1 h63 hbytes
  refine wpList_plain hgd fun K hK => ?_
  unfold Oper.wp execOp
  simp only [ho, resolve, invoke, builtin, Sem.run_bind, Sem.run_pure, Result.andThen_ok, List.map_toArray, List.map_cons, List.map_nil, hs, hx, hr]
  exact hK _ _ (h _ _ h2)
theorem own_prefix {x : World} {B : Nat} {e : TypeId} {st : Nat} {g n k cap : Nat} {xs ys : List Value} (h : x.ownsRow B e st (.slice (some ⟨g, 0, none⟩) (n + k) cap) (n + k) (xs ++ ys)) (hl : xs.length = n * st) : x.ownsRow B e st (.slice (some ⟨g, 0, none⟩) n cap) n xs := by
  refine ⟨hl, .inr ?_⟩
  rcases h.2 with ⟨hv, _⟩ | ⟨g', cap', cur, hv, hB, hg, h1, h2, h3, h4⟩
  · cases hv
  · cases hv
    refine ⟨g, cap, cur, rfl, hB, hg, by omega, h2, h3, ?_⟩
    have := congrArg (List.take (n * st)) h4
    rw [List.take_take, Nat.min_eq_left (Nat.mul_le_mul_right _ (Nat.le_add_right n k))] at this
    rw [this, List.take_append_of_le_length (by omega), List.take_of_length_le (by omega)]
theorem KS.keep (h : KS W w (r :: R) H) {v' : Value} {m : Nat} {cs : List Value} (hcs : cs.length = r.st) (hr : r.xs = rp r.n cs) (ha : Two2 w w' W.heap.size r.e r.st r.v v' r.n m (rp (r.n + m) cs)) : KS W w' R (⟨r.e, r.st, r.v, v', r.n, r.n + m, cs⟩ :: H) := by
  have hr0 := h.mem (i := 0) rfl
  have hall : ∀ (i : Nat) (s : Rr), R[i]? = some s → ∀ g, s.v.ownBlock = some g → r.v.ownBlock ≠ some g := fun i s hs g hg e => h.ap (i + 1) 0 s r (by omega) (by simpa using hs) rfl g hg e
  have hsp : rp (r.n + m) cs = rp r.n cs ++ rp m cs := by unfold rp; rw [← List.flatten_append, List.replicate_append_replicate]
  have hb := (h.app 0 rfl ha).tail
  refine ⟨hb.below, hb.own, hb.ap, fun x hx => ?_, fun i s hs g hg x hx => ?_⟩
  · rcases List.mem_cons.1 hx with rfl | hx
    · rcases ha with ⟨g, cap, hv, hv', ho, _⟩ | ⟨ho, hb2⟩
      · refine ⟨?_, ho⟩
        show w'.ownsRow _ _ _ r.v _ _
        rw [hv]
        rw [hv', hsp] at ho
        exact own_prefix ho (by rw [rp_len, hcs])
      · refine ⟨?_, own_base ho h.below.size⟩
        have := own_on hr0 hb2
        rw [hr] at this
        exact this
    · exact hb.each x hx
  · rcases List.mem_cons.1 hx with rfl | hx
    · refine ⟨hall i s hs g hg, ?_⟩
      rcases ha with ⟨g', cap, hv, hv', ho, _⟩ | ⟨ho, hb2⟩
      · intro e
        have e' : v'.ownBlock = some g := e
        rw [hv'] at e'
        cases e'
        exact hall i s hs _ hg (by rw [hv]; rfl)
      · intro e
        have q1 := (own_lt2 ho e).1
        have q2 := (own_lt2 (h.own (i + 1) s (by simpa using hs)) hg).2
        omega
    · exact hb.off i s hs g hg x hx
theorem KS.swap {r s : Rr} (h : KS W w (r :: s :: R) H) : KS W w (s :: r :: R) H := h.emb (fun i => if i = 0 then 1 else if i = 1 then 0 else i) (fun i t ht => by
  match i with
  | 0 => simpa using ht
  | 1 => simpa using ht
  | i + 2 => simpa using ht) (fun i j hij => by split <;> split <;> (try split) <;> (try split) <;> omega)
theorem KS.perm (h : KS W w R H) (hp : R.Perm R') : KS W w R' H := by
  have mem : ∀ r, r ∈ R' → ∃ i, R[i]? = some r := fun r hr => List.mem_iff_getElem?.1 (hp.mem_iff.2 hr)
  have pw : R.Pairwise (fun r s => ∀ g, r.v.ownBlock = some g → s.v.ownBlock ≠ some g) := List.pairwise_iff_getElem.2 fun i j hi hj hij => h.ap i j _ _ (by omega) (List.getElem?_eq_getElem hi) (List.getElem?_eq_getElem hj)
  have pw' := List.pairwise_iff_getElem.1 ((hp.pairwise_iff (fun {x y} hxy g hg e => hxy g e hg)).1 pw)
  refine ⟨h.below, fun i r hr => ?_, fun i j r s hij hr hs => ?_, h.each, fun i r hr => ?_⟩
  · obtain ⟨k, hk⟩ := mem r (List.mem_of_getElem? hr)
    exact h.own k r hk
  · obtain ⟨hi, ei⟩ := List.getElem?_eq_some_iff.1 hr
    obtain ⟨hj, ej⟩ := List.getElem?_eq_some_iff.1 hs
    rcases Nat.lt_or_ge i j with hlt | hge
    · have := pw' i j hi hj hlt
      rw [ei, ej] at this
      exact this
    · have := pw' j i hj hi (by omega)
      rw [ei, ej] at this
      exact fun g hg e => this g e hg
  · obtain ⟨k, hk⟩ := mem r (List.mem_of_getElem? hr)
    exact h.off k r hk
theorem KS.inn (h : KS W w R H) (hr : r ∈ R) : w.ownsRow W.heap.size r.e r.st r.v r.n r.xs := by
  obtain ⟨i, hi⟩ := List.mem_iff_getElem?.1 hr
  exact h.mem hi
theorem own_box (w : World) (e : TypeId) (cs : List Value) : (w.alloc (.cells cs.toArray e)).ownsRow w.heap.size e cs.length (.slice (some ⟨w.heap.size, 0, none⟩) 1 1) 1 cs :=
  ⟨by simp, .inr ⟨w.heap.size, 1, cs.toArray, rfl, Nat.le_refl _, heap_alloc_new _ _, Nat.le_refl _, by unfold maxLen; omega, by simp, by simp⟩⟩
theorem own_cel {B : Nat} {e : TypeId} {s g : Nat} {cs : List Value} (h : w.ownsRow B e s (.slice (some ⟨g, 0, none⟩) 1 1) 1 cs) : Cel w g e cs := by
  have hl := h.1
  rcases h.2 with ⟨hv, _⟩ | ⟨g', cap, cur, hv, hB, hg, h1, h2, h3, h4⟩
  · cases hv
  · cases hv
    rw [List.take_of_length_le (by rw [Array.length_toList, h3]; exact Nat.le_refl _)] at h4
    unfold Cel
    rw [hg, ← h4]
def bx (e : TypeId) (g : Nat) (cs : List Value) : Rr := ⟨e, cs.length, .slice (some ⟨g, 0, none⟩) 1 1, 1, cs⟩
theorem KS.box (h : KS W w R H) (e : TypeId) (cs : List Value) : KS W (w.alloc (.cells cs.toArray e)) (bx e w.heap.size cs :: R) H := h.add _ (below_one _ _) (own_box _ _ _)
theorem KS.cel (h : KS W w R H) (i : Nat) {e : TypeId} {g : Nat} {cs : List Value} (hz : R[i]? = some (bx e g cs)) : Cel w g e cs := own_cel (h.mem hz)
theorem KS.put (h : KS W w R H) (i : Nat) {e : TypeId} {g : Nat} {cs : List Value} (hz : R[i]? = some (bx e g cs)) (ds : List Value) : KS W (w.setRow g ds.toArray) (R.set i (bx e g ds)) H := by
  have h0 := h.mem hz
  refine h.wr i hz _ (g := g) rfl rfl (but_setRow _ _ _) ?_
  rcases h0.2 with ⟨hv, _⟩ | ⟨g', cap, cur, hv, hB, hg, h1, h2, h3, h4⟩
  · cases hv
  · cases hv
    exact ⟨by simp [bx], .inr ⟨g, 1, ds.toArray, rfl, hB, setRow_heap w g _ _ e _ hg, Nat.le_refl _, h2, by simp [bx], by simp [bx]⟩⟩
end Go.Proofs.YtmomidkodjihjaaDoor
namespace Go.Proofs.YtmomidkodjihjaaDoor
open Go.RowKit
open H
set_option maxRecDepth 100000
set_option maxHeartbeats 8000000
theorem info63 : (Tryd.prog.info? 63).map (fun i => (i.zero, i.size, i.bytes)) = some (some (.agg #[.slice none 0 0, .slice none 0 0, .int .u32 0]), 3, 56) := by kernel_rfl
theorem size63 : (Tryd.prog.info? 63).map (·.size) = some 3 := by kernel_rfl
theorem cel_new (w : World) (t : TypeId) (cs : List Value) : Cel (w.alloc (.cells cs.toArray t)) w.heap.size t cs := heap_alloc_new _ _
theorem wpList_append_w {w : World} {ops : Array Oper} {rest : List Oper} {o : Oper} {ac : Act} {Q : Exit → Act → World → Prop} (hgd : o.guard = none) (s x : Operand) (ho : o.op = .call { callee := .builtin .append, args := #[s, x], argTypes := #[22, 22] }) {B n g m c : Nat} {v : Value} {xs news : List Value} (hs : ac.eval s = v) (hown : w.ownsRow B 24 1 v n xs) (hB : B ≤ w.heap.size) (hx : ac.eval x = .slice (some ⟨g, 0, none⟩) m c) (hl : news.length = m) (hg : ∀ j u, news[j]? = some u → w.cell? ⟨g, j, none⟩ = some u) (h1 : ∀ u ∈ news, u.oneCell' = true) (hn : n + m ≤ 2000000)
    (h : ∀ v' w', Two2 w w' B 24 1 v v' n m (xs ++ news) → wpList Tryd.prog ops Q rest (ac.put o.dst v') w') : wpList Tryd.prog ops Q (o :: rest) ac w := by
  obtain ⟨i, hi, hz, hsize, hby⟩ := info_parts Tryd.info24
  exact wpList_append_two hgd s x 22 ho Tryd.underlying22 hi hz hsize hby rfl (by decide) hs hown hB hx (by omega) (fun j u hu => by rw [addr_add, Nat.zero_add]; exact hg j u hu) h1 (by unfold maxLen; omega) (by omega) h
def fl1 (u : Value) (xs : List Value) (j : Nat) : List Value := rp j [u] ++ xs.drop j
theorem rp1_len (n : Nat) (u : Value) : (rp n [u]).length = n := by rw [rp_len]; simp
theorem fl1_0 (u : Value) (xs : List Value) : fl1 u xs 0 = xs := by simp [fl1, rp]
theorem fl1_all (u : Value) (xs : List Value) (n : Nat) (h : xs.length = n) : fl1 u xs n = rp n [u] := by
  unfold fl1
  rw [List.drop_eq_nil_of_le (by omega), List.append_nil]
theorem fl1_len (u : Value) (xs : List Value) (j : Nat) (h : j ≤ xs.length) : (fl1 u xs j).length = xs.length := by
  unfold fl1
  rw [List.length_append, rp1_len, List.length_drop]
  omega
theorem fl1_set (u : Value) (xs : List Value) (j : Nat) (h : j < xs.length) : (fl1 u xs j).set j u = fl1 u xs (j + 1) := by
  unfold fl1
  rw [rp_succ, List.set_append_right _ _ (by rw [rp1_len]; exact Nat.le_refl _), rp1_len, Nat.sub_self, List.append_assoc, List.drop_eq_getElem_cons h]
  rfl
theorem KS.keepW {W w w' : World} {R : List Rr} {H : List Hk} {v v' u : Value} {n : Nat} (h : KS W w (⟨24, 1, v, n, rp n [u]⟩ :: R) H) (ha : Two2 w w' W.heap.size 24 1 v v' n 1 (rp n [u] ++ [u])) : KS W w' R (⟨24, 1, v, v', n, n + 1, [u]⟩ :: H) :=
  h.keep (m := 1) (cs := [u]) rfl rfl (by
    show Two2 w w' W.heap.size 24 1 v v' n 1 (rp (n + 1) [u])
    rw [rp_succ]
    exact ha)
theorem KS.own0 {W w : World} {R : List Rr} {H : List Hk} {e st n : Nat} {v : Value} {xs : List Value} (h : KS W w (⟨e, st, v, n, xs⟩ :: R) H) : w.ownsRow W.heap.size e st v n xs := h.mem (i := 0) rfl
theorem two_frm {w w' : World} {B : Nat} {e : TypeId} {st : Nat} {v v' : Value} {n m : Nat} {ys : List Value} (h : Two2 w w' B e st v v' n m ys) (hs : 0 < st) : ∃ a c, v' = .slice a (n + m) c := by
  rcases h with ⟨g, cap, _, h, _⟩ | ⟨h, _⟩
  · exact ⟨_, _, h⟩
  · exact own_frm h hs
theorem hold_any (W w : World) (ao : Option Addr) (n c : Nat) (xs : List Value) (R : List Rr) (H : List Hk) (a : Int) (h : KS W w (⟨24, 1, .slice ao n c, n, xs⟩ :: R) H) (hn : n ≤ 262144) :
    Calls Tryd.prog 24 #[.slice ao n c, .int .u32 a] w fun e w' => ∃ vm, e = .returned (.agg #[.slice ao n c, vm, .int .u32 a]) ∧ KS W w' R (⟨24, 1, .slice ao n c, vm, n, n + 1, [.int .u32 a]⟩ :: H) := by
  have hx : xs.length = n := by have := (h.mem (i := 0) rfl).1; simpa using this
  have n1 : (n : Int) ≤ 262144 := by omega
  have HB0 := hid ((h.box 63 [.slice none 0 0, .slice none 0 0, .int .u32 0]).swap)
  have HX := hid hx
  clear h hx
  go_enter Tryd.func24, Tryd.ntmps24
  go_wp2_with fail
  generalize w.alloc _ = w1 at *
  generalize w.heap.size = gR at *
  go_loopw [5] (fun i wr => ∃ j : Nat, j ≤ n ∧ i = .int .i64 (j : Int) ∧ Hid (KS W wr (⟨24, 1, .slice ao n c, n, fl1 (.int .u32 a) xs j⟩ :: bx 63 gR [.slice none 0 0, .slice none 0 0, .int .u32 0] :: R) H)) (fun i _ => n - (intOf i).toNat)
  case atStart => exact ⟨0, Nat.zero_le _, rfl, by rw [fl1_0]; exact HB0⟩
  case round =>
    clear HB0
    obtain ⟨j, hj, rfl, HB⟩ := hrel
    by_cases hlt : j < n
    · have q1 : (j : Int) < (n : Int) := by omega
      obtain ⟨g, rfl⟩ := own_some (HB.out.mem (i := 0) rfl) (by show 0 < n; omega)
      have f1 := own_free (HB.out.mem (i := 0) rfl) j
      have c1 := own_rng (HB.out.mem (i := 0) rfl) j _ (List.getElem?_eq_getElem (by show j < (fl1 (.int .u32 a) xs j).length; rw [fl1_len _ _ _ (by rw [HX.out]; exact hj), HX.out]; exact hlt))
      rw [Nat.zero_add] at c1
      have HB2 := hid (HB.out.wr 0 rfl ⟨24, 1, .slice (some ⟨g, 0, none⟩) n c, n, fl1 (.int .u32 a) xs (j + 1)⟩ (g := g) rfl rfl (but_setCell wr g j (.int .u32 a)) (by
        have := own_setc (HB.out.mem (i := 0) rfl) j (.int .u32 a)
        simp only at this
        rw [fl1_set _ _ _ (by rw [HX.out]; exact hlt)] at this
        exact this))
      simp only [List.set_cons_zero] at HB2
      generalize hy : (fl1 (.int .u32 a) xs j)[j]'_ = y at *
      clear HB
      go_wp2_with fail
      go_roundw
      case measure => simp [intOf] <;> omega
      case rel => exact ⟨j + 1, by omega, by simp, HB2⟩
    · have hjn : n = j := by omega
      have q1 : (n : Int) ≤ (j : Int) := by omega
      have HB3 : Hid (KS W wr (⟨24, 1, .slice ao n c, n, rp n [.int .u32 a]⟩ :: bx 63 gR [.slice none 0 0, .slice none 0 0, .int .u32 0] :: R) H) := hid (by have := HB.out; rw [← hjn, fl1_all _ _ _ HX.out] at this; exact this)
      clear HB hjn
      go_wp2_with (first | (at_builtin; refine wpList_append_w rfl _ _ rfl (news := [.int .u32 a]) rfl (HB3.out.on (below_one _ _)).own0 (HB3.out.on (below_one _ _)).below.size rfl rfl (fun j u hu => by rw [(cel_new _ 24 [.int .u32 a]).cell j]; exact hu) (by simp [Value.oneCell']) (by omega) ?_; intro v2 w2 hal; obtain ⟨a2, c2, rfl⟩ := two_frm hal (by decide); have HC := hid ((HB3.out.on (below_one _ _)).keepW hal); clear hal) | (refine wpList_store_row rfl 63 _ _ rfl gR #[.slice ao n c, .slice a2 (n + 1) c2, .int .u32 a] rfl rfl 63 _ (HC.out.cel 0 rfl) (by rw [size63]; rfl) rfl (by simp [Value.oneCell']) ?_))
      have HD := HC.out.put 0 rfl [.slice ao n c, .slice a2 (n + 1) c2, .int .u32 a]
      refine bodyPost_ret (results_cell_row rfl _ _ gR 63 _ (0, 0) _ rfl (HD.cel 0 rfl) Tryd.underlying63 rfl (by rw [size63]; rfl)) rfl ⟨_, rfl, HD.tail⟩
end Go.Proofs.YtmomidkodjihjaaDoor
