/- The handles of a script, the program's and the document's. -/
import Derived.Test.YtialckmoigcdeaaDoorTwo
import Derived.Test.YtialckmoigcdeaaDoorMNew
import Derived.Test.YtialckmoigcdeaaDoorOwn
import Derived.ArgAppend
import Derived.Laws.OwnMore
namespace Go.Proofs.YtialckmoigcdeaaDoor
open Go.RowKit
theorem append_two {P : Program} {w : World} {base : Nat} {t ty e : TypeId} {i : TypeInfo} {z : Value} {size bytes : Nat} (ht : P.underlying t = some (.slice e)) (hi : P.info? e = some i) (hz : i.zero = some z) (hsize : i.size = size) (hby : i.bytes = bytes) (hzs : z.cells.size = size) (hsz : 0 < size)
    {v : Value} {n : Nat} {xs : List Value} (hown : w.ownsRow base e size v n xs) (hbase : base ≤ w.heap.size) {a : Addr} {m c : Nat} {news : List Value} (hl : news.length = m * size) (hnews : ∀ j u, news[j]? = some u → w.cell? (a.add j) = some u) (h1 : ∀ u ∈ news, u.oneCell' = true)
    (h63 : n + m ≤ maxLen) (hbytes : (n + m) * bytes ≤ 140737488355328) :
    ∃ v' w', (Builtin.append_ #[t, t] ty #[v, .slice (some a) m c]).run P w = .ok v' w' ∧ w'.ownsRow base e size v' (n + m) (xs ++ news) ∧
      ((∃ g, v.ownBlock = some g ∧ But g w w') ∨ Below w.heap.size w w') := by
  have none_below : ∀ w', w.grownBy w' none → Below w.heap.size w w' := fun w' h => ⟨h.os, h.tape, h.output, h.size, fun k hk => h.block k hk (by simp)⟩
  have mono : ∀ {x : World} {v : Value} {n : Nat} {xs : List Value}, x.ownsRow w.heap.size e size v n xs → x.ownsRow base e size v n xs := fun h => ⟨h.1, h.2.imp id fun ⟨g, cap, cur, hv, hb, r⟩ => ⟨g, cap, cur, hv, Nat.le_trans hbase hb, r⟩⟩
  rcases hown.2 with ⟨rfl, rfl⟩ | ⟨g, cap, cur, rfl, hbg, hg, hnc, hcm, hcs, htake⟩
  · have hx : xs = [] := List.eq_nil_of_length_eq_zero (by simpa using hown.1)
    subst hx
    obtain ⟨v2, w2, hr2, ho, hb, _⟩ := run_append_own (P := P) w w.heap.size t ty e i z size bytes ht hi hz hsize hby hzs hsz (.slice none 0 0) 0 [] (World.ownsRow_nil w _ e size) a m c news hl hnews h1 h63 hbytes (Nat.le_refl _)
    exact ⟨v2, w2, hr2, mono ho, .inr (none_below _ hb)⟩
  · by_cases hroom : n + m ≤ cap
    · obtain ⟨v2, w2, hr2, ho, hb, _⟩ := run_append_own (P := P) w base t ty e i z size bytes ht hi hz hsize hby hzs hsz _ n xs hown a m c news hl hnews h1 h63 hbytes hbase
      exact ⟨_, _, hr2, ho, .inl ⟨g, rfl, hb.os, hb.tape, hb.output, hb.size, fun k hk hn => hb.block k hk (by simp only [Value.ownBlock]; simpa using hn)⟩⟩
    · have holds : ∀ j u, xs[j]? = some u → w.cell? ((⟨g, 0, none⟩ : Addr).add j) = some u := hown.cells (g := g) rfl
      obtain ⟨v2, w2, hr2, ho, hb⟩ := run_append_arg_grows (P := P) w t ty e i z size bytes ht hi hz hsize hby hzs hsz ⟨g, 0, none⟩ n cap xs hown.1 holds a m c news hl hnews (by omega) h63 hbytes
      exact ⟨v2, w2, hr2, mono ho, .inr (none_below _ hb)⟩
theorem wpList_append_two {P : Program} {w : World} {ops : Array Oper} {rest : List Oper} {o : Oper} {ac : Act} {Q : Exit → Act → World → Prop} (hgd : o.guard = none) (s x : Operand) (t : TypeId)
    (ho : o.op = .call { callee := .builtin .append, args := #[s, x], argTypes := #[t, t] }) {base : Nat} {e : TypeId} {i : TypeInfo} {z : Value} {size bytes : Nat} (ht : P.underlying t = some (.slice e)) (hi : P.info? e = some i) (hz : i.zero = some z) (hsize : i.size = size) (hby : i.bytes = bytes) (hzs : z.cells.size = size) (hsz : 0 < size)
    {v : Value} {n : Nat} {xs : List Value} (hs : ac.eval s = v) (hown : w.ownsRow base e size v n xs) (hbase : base ≤ w.heap.size) {a : Addr} {m c : Nat} {news : List Value} (hx : ac.eval x = .slice (some a) m c) (hl : news.length = m * size) (hnews : ∀ j u, news[j]? = some u → w.cell? (a.add j) = some u) (h1 : ∀ u ∈ news, u.oneCell' = true)
    (h63 : n + m ≤ maxLen) (hbytes : (n + m) * bytes ≤ 140737488355328)
    (h : ∀ v' w', w'.ownsRow base e size v' (n + m) (xs ++ news) → ((∃ g, v.ownBlock = some g ∧ But g w w') ∨ Below w.heap.size w w') → wpList P ops Q rest (ac.put o.dst v') w') : wpList P ops Q (o :: rest) ac w := by
  obtain ⟨v', w', hr, h2, h3⟩ := append_two (P := P) (ty := o.type) (c := c) ht hi hz hsize hby hzs hsz hown hbase hl hnews h1 h63 hbytes
  refine wpList_plain hgd fun K hK => ?_
  unfold Oper.wp execOp
  simp only [ho, resolve, invoke, builtin, Sem.run_bind, Sem.run_pure, Result.andThen_ok, List.map_toArray, List.map_cons, List.map_nil, hs, hx, hr]
  exact hK _ _ (h _ _ h2 h3)
theorem own_but {x x' : World} {B i : Nat} {e : TypeId} {st : Nat} {v : Value} {n : Nat} {xs : List Value} (h : x.ownsRow B e st v n xs) (hb : But i x x') (hG : ∀ g, v.ownBlock = some g → g ≠ i) : x'.ownsRow B e st v n xs :=
  ⟨h.1, h.2.imp id fun ⟨g, cap, cur, hv, hB, hg, r⟩ => ⟨g, cap, cur, hv, hB, (hb.block g (Array.getElem?_eq_some_iff.1 hg).1 (hG g (by rw [hv]; rfl))).trans hg, r⟩⟩
theorem own_mono {x : World} {B B' : Nat} {e : TypeId} {st : Nat} {v : Value} {n : Nat} {xs : List Value} (h : x.ownsRow B e st v n xs) (hB : B' ≤ B) : x.ownsRow B' e st v n xs :=
  ⟨h.1, h.2.imp id fun ⟨g, cap, cur, hv, hb, r⟩ => ⟨g, cap, cur, hv, Nat.le_trans hB hb, r⟩⟩
theorem own_ty {x : World} {B : Nat} {e : TypeId} {st : Nat} {v : Value} {n : Nat} {xs : List Value} (h : x.ownsRow B e st v n xs) {g : Nat} (hg : v.ownBlock = some g) : ∃ cs, Cel x g e cs := by
  rcases h.2 with ⟨rfl, _⟩ | ⟨g', cap, cur, rfl, _, hh, _⟩
  · cases hg
  · simp only [Value.ownBlock, Option.some.injEq] at hg
    subst hg
    exact ⟨cur.toList, hh⟩
theorem Cel.ty {w : World} {g : Nat} {t t' : TypeId} {cs cs' : List Value} (h : Cel w g t cs) (h' : Cel w g t' cs') : t = t' := by
  unfold Cel at h h'
  rw [h] at h'
  injection h' with h'
  injection h'
/-- A block that holds things of type t, and nothing else has turned. -/
structure Ch (t : TypeId) (w w' : World) : Prop where
  ex : ∃ g cs, Cel w g t cs ∧ But g w w'
theorem own_ch {x x' : World} {B : Nat} {e t : TypeId} {st : Nat} {v : Value} {n : Nat} {xs : List Value} (h : x.ownsRow B e st v n xs) {g : Nat} {cs : List Value} (hc : Cel x g t cs) (hb : But g x x') (ht : e ≠ t) : x'.ownsRow B e st v n xs :=
  own_but h hb fun i hi hig => by
    subst hig
    obtain ⟨_, hq⟩ := own_ty h hi
    exact ht (hq.ty hc)
/-- Words in a list of the call's own. -/
def Lw (w : World) (B : Nat) (v : Value) (L : List Int) : Prop := w.ownsRow B 25 1 v L.length (L.map (Value.int .u32))
theorem Lw.on {w w' : World} {B : Nat} {v : Value} {L : List Int} (h : Lw w B v L) (hb : Below w.heap.size w w') : Lw w' B v L := ownsRow_below h hb
theorem Lw.ch {w w' : World} {B : Nat} {v : Value} {L : List Int} (h : Lw w B v L) {g : Nat} {t : TypeId} {cs : List Value} (hc : Cel w g t cs) (hb : But g w w') (ht : 25 ≠ t) : Lw w' B v L := own_ch h hc hb ht
theorem Lw.holds {w : World} {B : Nat} {v : Value} {L : List Int} (h : Lw w B v L) : ∃ ao c, v = .slice ao L.length c ∧ At w .u32 ao L ∧ Sl ao c := by
  rcases h.2 with ⟨rfl, h0⟩ | ⟨g, cap, cur, rfl, hB, hg, h1, h2, h3, h4⟩
  · exact ⟨none, 0, by rw [h0], .inl (List.eq_nil_of_length_eq_zero h0), fun _ => rfl⟩
  · refine ⟨_, cap, rfl, .inr ⟨g, 0, rfl, (Array.getElem?_eq_some_iff.1 hg).1, ?_⟩, fun h => by cases h⟩
    have ho : Own w g 25 .u32 cap L := ⟨cur, hg, by omega, h1, by rw [Nat.mul_one] at h4; exact h4⟩
    exact ho.row
theorem Holds.lw {W w : World} {v : Value} {L : List Int} (h : Holds W w .u32 25 v L) {B : Nat} (hB : B ≤ W.heap.size) : Lw w B v L := own_mono h.own hB
/-- A handle of the program's. -/
structure PH where
  gm : Nat
  gi : Nat
  go : Nat
  key : List Int
  said : List Int
/-- The document's. -/
structure DH where
  kv : Value
  sv : Value
  key : List Int
  said : List Int
abbrev PH.ks (h : PH) : List Int × List Int := (h.key, h.said)
abbrev DH.ks (h : DH) : List Int × List Int := (h.key, h.said)
def ptrs (Ps : List PH) : List Value := Ps.map fun h => .pointer (some ⟨h.gm, 0, none⟩)
def prs (Ds : List DH) : List Value := Ds.flatMap fun h => [h.kv, h.sv]
theorem prs_len (Ds : List DH) : (prs Ds).length = Ds.length * 2 := by
  induction Ds with
  | nil => rfl
  | cons x E ih => simp only [prs, List.flatMap_cons, List.length_append, List.length_cons] at ih ⊢; rw [ih]; simp; omega
theorem prs_at : ∀ (Ds : List DH) (i : Nat) (t : DH), Ds[i]? = some t → (prs Ds)[i * 2]? = some t.kv ∧ (prs Ds)[i * 2 + 1]? = some t.sv
  | [], i, t, h => by simp at h
  | x :: Ds, 0, t, h => by
    simp only [List.getElem?_cons_zero, Option.some.injEq] at h
    subst h
    exact ⟨rfl, rfl⟩
  | x :: Ds, i + 1, t, h => by
    have ih := prs_at Ds i t (by simpa using h)
    have e1 : (i + 1) * 2 = i * 2 + 1 + 1 := by omega
    rw [e1]
    show ([x.kv, x.sv] ++ prs Ds)[i * 2 + 1 + 1]? = _ ∧ ([x.kv, x.sv] ++ prs Ds)[i * 2 + 1 + 1 + 1]? = _
    simpa using ih
theorem prs_set : ∀ (Ds : List DH) (i : Nat) (t : DH) (v : Value) (L : List Int), Ds[i]? = some t → (prs Ds).set (i * 2 + 1) v = prs (Ds.set i { t with sv := v, said := L })
  | [], i, t, v, L, h => by simp at h
  | x :: Ds, 0, t, v, L, h => by
    simp only [List.getElem?_cons_zero, Option.some.injEq] at h
    subst h
    rfl
  | x :: Ds, i + 1, t, v, L, h => by
    have ih := prs_set Ds i t v L (by simpa using h)
    have e1 : (i + 1) * 2 + 1 = i * 2 + 1 + 1 + 1 := by omega
    rw [e1]
    show ([x.kv, x.sv] ++ prs Ds).set (i * 2 + 1 + 1 + 1) v = [x.kv, x.sv] ++ prs (Ds.set i _)
    rw [← ih]
    rfl
structure PSt (w : World) (B : Nat) (v : Value) (Ps : List PH) : Prop where
  own : w.ownsRow B 42 1 v Ps.length (ptrs Ps)
  each : ∀ h ∈ Ps, MacH w h.gm h.gi h.go (keyW (bytesD h.key)) h.said ∧ B ≤ h.gi
  apart : Ps.Pairwise fun a b => a.gi ≠ b.gi ∧ a.gi ≠ b.go ∧ a.go ≠ b.gi
structure DSt (w : World) (B : Nat) (v : Value) (Ds : List DH) : Prop where
  own : w.ownsRow B 55 2 v Ds.length (prs Ds)
  each : ∀ h ∈ Ds, Lw w B h.kv h.key ∧ Lw w B h.sv h.said
theorem PSt.on {w w' : World} {B : Nat} {v : Value} {Ps : List PH} (h : PSt w B v Ps) (hb : Below w.heap.size w w') : PSt w' B v Ps := ⟨ownsRow_below h.own hb, fun x hx => ⟨(h.each x hx).1.on hb, (h.each x hx).2⟩, h.apart⟩
theorem DSt.on {w w' : World} {B : Nat} {v : Value} {Ds : List DH} (h : DSt w B v Ds) (hb : Below w.heap.size w w') : DSt w' B v Ds := ⟨ownsRow_below h.own hb, fun x hx => ⟨(h.each x hx).1.on hb, (h.each x hx).2.on hb⟩⟩
theorem DigL.cel {w : World} {g : Nat} {L : List Int} (h : DigL w g L) : ∃ cs, Cel w g 70 cs := by
  obtain ⟨r, _, hc⟩ := Dig.cells h
  exact ⟨_, hc⟩
theorem DSt.ch {w w' : World} {B : Nat} {v : Value} {Ds : List DH} (h : DSt w B v Ds) {g : Nat} {t : TypeId} {cs : List Value} (hc : Cel w g t cs) (hb : But g w w') (ht : 25 ≠ t ∧ 55 ≠ t) : DSt w' B v Ds :=
  ⟨own_ch h.own hc hb ht.2, fun x hx => ⟨(h.each x hx).1.ch hc hb ht.1, (h.each x hx).2.ch hc hb ht.1⟩⟩
theorem MacH.ch {w w' : World} {g gm gi go : Nat} {K L : List Int} (h : MacH w gm gi go K L) {t : TypeId} {cs : List Value} (hc : Cel w g t cs) (hb : But g w w') (ht : 47 ≠ t ∧ 70 ≠ t) : MacH w' gm gi go K L := by
  obtain ⟨c1, h1⟩ := h.inner.cel
  obtain ⟨c2, h2⟩ := h.outer.cel
  exact h.but hb (fun e => ht.1 (by subst e; exact h.cel.ty hc)) (fun e => ht.2 (by subst e; exact h1.ty hc)) (fun e => ht.2 (by subst e; exact h2.ty hc))
theorem PSt.ch {w w' : World} {B : Nat} {v : Value} {Ps : List PH} (h : PSt w B v Ps) {g : Nat} {t : TypeId} {cs : List Value} (hc : Cel w g t cs) (hb : But g w w') (ht : 42 ≠ t ∧ 47 ≠ t ∧ 70 ≠ t) : PSt w' B v Ps :=
  ⟨own_ch h.own hc hb ht.1, fun x hx => ⟨(h.each x hx).1.ch hc hb ht.2, (h.each x hx).2⟩, h.apart⟩
/-- A handle that something was added to. -/
theorem PSt.add {w w' : World} {B : Nat} {v : Value} {Ps : List PH} (h : PSt w B v Ps) {k : Nat} {p : PH} (hk : Ps[k]? = some p) (us : List Int) (hb : But p.gi w w') (hd : DigL w' p.gi (xorL 909522486 (keyW (bytesD p.key)) ++ p.said ++ us)) : PSt w' B v (Ps.set k { p with said := p.said ++ us }) := by
  have hp : p ∈ Ps := List.mem_of_getElem? hk
  obtain ⟨c1, h1⟩ := (h.each p hp).1.inner.cel
  have hkl : k < Ps.length := (List.getElem?_eq_some_iff.1 hk).1
  have hpe : Ps[k] = p := (List.getElem?_eq_some_iff.1 hk).2
  refine ⟨?_, ?_, ?_⟩
  · have e : ptrs (Ps.set k { p with said := p.said ++ us }) = ptrs Ps := by
      unfold ptrs
      rw [List.map_set]
      refine List.ext_getElem? fun i => ?_
      rw [List.getElem?_set]
      split
      · rename_i hik
        subst hik
        simp [hkl, hpe]
      · rfl
    rw [e, List.length_set]
    exact own_ch h.own h1 hb (by decide)
  · intro x hx
    obtain ⟨i, hi⟩ := List.mem_iff_getElem?.1 hx
    by_cases hik : k = i
    · subst hik
      rw [List.getElem?_set_self hkl] at hi
      obtain rfl := Option.some.inj hi
      refine ⟨(h.each p hp).1.turn hb (by rw [← List.append_assoc]; exact hd), (h.each p hp).2⟩
    · rw [List.getElem?_set_ne hik] at hi
      have hx' : x ∈ Ps := List.mem_of_getElem? hi
      obtain ⟨hi1, hi2⟩ := List.getElem?_eq_some_iff.1 hi
      have hap : x.gi ≠ p.gi ∧ x.go ≠ p.gi := by
        rcases Nat.lt_or_gt_of_ne hik with hlt | hgt
        · have := List.pairwise_iff_getElem.1 h.apart k i hkl hi1 hlt
          rw [hpe, hi2] at this
          exact ⟨fun e => this.1 e.symm, fun e => this.2.1 e.symm⟩
        · have := List.pairwise_iff_getElem.1 h.apart i k hi1 hkl hgt
          rw [hpe, hi2] at this
          exact ⟨this.1, this.2.2⟩
      exact ⟨(h.each x hx').1.but hb (fun e => by have := (h.each x hx').1.cel; rw [e] at this; exact absurd (this.ty h1) (by decide)) hap.1 hap.2, (h.each x hx').2⟩
  · refine List.pairwise_iff_getElem.2 fun i j hi hj hij => ?_
    rw [List.length_set] at hi hj
    have := List.pairwise_iff_getElem.1 h.apart i j hi hj hij
    rw [List.getElem_set, List.getElem_set]
    split
    · rename_i e
      subst e
      rw [if_neg (by omega)]
      rw [hpe] at this
      exact this
    · split
      · rename_i e
        subst e
        rw [hpe] at this
        exact this
      · exact this
/-- One more. -/
theorem PSt.push {w w' : World} {B : Nat} {v v' : Value} {Ps : List PH} (h : PSt w B v Ps) {p : PH} (hm : MacH w p.gm p.gi p.go (keyW (bytesD p.key)) p.said) (hB : B ≤ p.gi) (hnew : ∀ x ∈ Ps, x.gi ≠ p.gi ∧ x.gi ≠ p.go ∧ x.go ≠ p.gi)
    (ho : w'.ownsRow B 42 1 v' (Ps.length + 1) (ptrs Ps ++ [.pointer (some ⟨p.gm, 0, none⟩)])) (hw : (∃ g, v.ownBlock = some g ∧ But g w w') ∨ Below w.heap.size w w') : PSt w' B v' (Ps ++ [p]) := by
  have key : ∀ x : PH, MacH w x.gm x.gi x.go (keyW (bytesD x.key)) x.said → MacH w' x.gm x.gi x.go (keyW (bytesD x.key)) x.said := fun (x : PH) hx => by
    rcases hw with ⟨g, hg, hb⟩ | hb
    · obtain ⟨cs, hc⟩ := own_ty h.own hg
      exact hx.ch hc hb (by decide)
    · exact hx.on hb
  refine ⟨?_, ?_, ?_⟩
  · rw [List.length_append]
    simpa [ptrs] using ho
  · intro x hx
    rcases List.mem_append.1 hx with hx | hx
    · exact ⟨key x (h.each x hx).1, (h.each x hx).2⟩
    · obtain rfl := List.mem_singleton.1 hx
      exact ⟨key x hm, hB⟩
  · refine List.pairwise_append.2 ⟨h.apart, List.pairwise_singleton _ _, fun a ha b hb => ?_⟩
    obtain rfl := List.mem_singleton.1 hb
    exact hnew a ha
theorem DSt.push {w w' : World} {B : Nat} {v v' : Value} {Ds : List DH} (h : DSt w B v Ds) {p : DH} (hk : Lw w B p.kv p.key) (hs : Lw w B p.sv p.said)
    (ho : w'.ownsRow B 55 2 v' (Ds.length + 1) (prs Ds ++ [p.kv, p.sv])) (hw : (∃ g, v.ownBlock = some g ∧ But g w w') ∨ Below w.heap.size w w') : DSt w' B v' (Ds ++ [p]) := by
  have key : ∀ u L, Lw w B u L → Lw w' B u L := fun u L hx => by
    rcases hw with ⟨g, hg, hb⟩ | hb
    · obtain ⟨cs, hc⟩ := own_ty h.own hg
      exact hx.ch hc hb (by decide)
    · exact hx.on hb
  refine ⟨?_, ?_⟩
  · rw [List.length_append]
    simpa [prs] using ho
  · intro x hx
    rcases List.mem_append.1 hx with hx | hx
    · exact ⟨key _ _ (h.each x hx).1, key _ _ (h.each x hx).2⟩
    · obtain rfl := List.mem_singleton.1 hx
      exact ⟨key _ _ hk, key _ _ hs⟩
/-- What lies where. -/
theorem PSt.form {w : World} {B : Nat} {v : Value} {Ps : List PH} (h : PSt w B v Ps) (hn : 0 < Ps.length) : ∃ g cap, v = .slice (some ⟨g, 0, none⟩) Ps.length cap ∧ Ps.length ≤ cap ∧ cap ≤ maxLen ∧ g < w.heap.size ∧ ∀ k p, Ps[k]? = some p → w.cell? ⟨g, k, none⟩ = some (.pointer (some ⟨p.gm, 0, none⟩)) := by
  rcases h.own.2 with ⟨_, h0⟩ | ⟨g, cap, cur, rfl, hB, hg, h1, h2, h3, h4⟩
  · omega
  · refine ⟨g, cap, rfl, h1, h2, (Array.getElem?_eq_some_iff.1 hg).1, fun k p hk => ?_⟩
    have := h.own.cells (g := g) rfl k (.pointer (some ⟨p.gm, 0, none⟩)) (by simp [ptrs, hk])
    rwa [Addr.add_mid, Nat.zero_add] at this
theorem DSt.form {w : World} {B : Nat} {v : Value} {Ds : List DH} (h : DSt w B v Ds) (hn : 0 < Ds.length) : ∃ g cap, v = .slice (some ⟨g, 0, none⟩) Ds.length cap ∧ Ds.length ≤ cap ∧ cap ≤ maxLen ∧ B ≤ g ∧ g < w.heap.size ∧ (∃ cs, Cel w g 55 cs) ∧ ∀ k p, Ds[k]? = some p → w.cell? ⟨g, k * 2, none⟩ = some p.kv ∧ w.cell? ⟨g, k * 2 + 1, none⟩ = some p.sv := by
  rcases h.own.2 with ⟨_, h0⟩ | ⟨g, cap, cur, rfl, hB, hg, h1, h2, h3, h4⟩
  · omega
  · refine ⟨g, cap, rfl, h1, h2, hB, (Array.getElem?_eq_some_iff.1 hg).1, ⟨cur.toList, hg⟩, fun k p hk => ?_⟩
    obtain ⟨e1, e2⟩ := prs_at Ds k p hk
    have q1 := h.own.cells (g := g) rfl _ _ e1
    have q2 := h.own.cells (g := g) rfl _ _ e2
    rw [Addr.add_mid, Nat.zero_add] at q1 q2
    exact ⟨q1, q2⟩
/-- What the document notes. -/
theorem DSt.put {w : World} {B g cap : Nat} {Ds : List DH} (h : DSt w B (.slice (some ⟨g, 0, none⟩) Ds.length cap) Ds) {k : Nat} {p : DH} (hk : Ds[k]? = some p) (v : Value) (L : List Int) (hl : Lw w B v L) : DSt (w.setCell ⟨g, k * 2 + 1, none⟩ v) B (.slice (some ⟨g, 0, none⟩) Ds.length cap) (Ds.set k { p with sv := v, said := L }) := by
  have hkl : k < Ds.length := (List.getElem?_eq_some_iff.1 hk).1
  have hb := but_setCell w g (k * 2 + 1) v
  obtain ⟨cs, hc⟩ := own_ty h.own (g := g) rfl
  refine ⟨?_, ?_⟩
  · refine ⟨by rw [prs_len], .inr ?_⟩
    rw [List.length_set]
    rcases h.own.2 with ⟨hv, _⟩ | ⟨g', cap', cur, hv, hB, hg, h1, h2, h3, h4⟩
    · cases hv
    · cases hv
      refine ⟨g, cap, cur.setIfInBounds (k * 2 + 1) v, rfl, hB, heap_setCell_same w g _ _ 55 _ hg, h1, h2, by simpa using h3, ?_⟩
      rw [Array.toList_setIfInBounds, List.take_set, h4, prs_set Ds k p v L hk]
  · intro x hx
    obtain ⟨i, hi⟩ := List.mem_iff_getElem?.1 hx
    by_cases hik : k = i
    · subst hik
      rw [List.getElem?_set_self hkl] at hi
      obtain rfl := Option.some.inj hi
      exact ⟨(h.each p (List.mem_of_getElem? hk)).1.ch hc hb (by decide), hl.ch hc hb (by decide)⟩
    · rw [List.getElem?_set_ne hik] at hi
      have hx' : x ∈ Ds := List.mem_of_getElem? hi
      exact ⟨(h.each x hx').1.ch hc hb (by decide), (h.each x hx').2.ch hc hb (by decide)⟩
end Go.Proofs.YtialckmoigcdeaaDoor
