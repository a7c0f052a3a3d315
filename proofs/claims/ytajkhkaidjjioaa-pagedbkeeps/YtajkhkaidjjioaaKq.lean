/- PagedbKeeps: appends, marks, the lists that are held. -/
import Derived.Test.YtajkhkaidjjioaaKp
import Derived.Test.YtajkhkaidjjioaaKs
namespace Go.Proofs.Ytajkhkaidjjioaa
open Go.RowKit
set_option maxRecDepth 100000
set_option maxHeartbeats 4000000
theorem under47 : Try.prog.underlying 47 = some (.slice 32) := by kernel_rfl
theorem under48 : Try.prog.underlying 48 = some (.slice 45) := by kernel_rfl
theorem inf32 : (Try.prog.info? 32).map (fun i => (i.zero, i.size, i.bytes)) = some (some (.slice none 0 0), 1, 24) := by kernel_rfl
theorem inf45 : (Try.prog.info? 45).map (fun i => (i.zero, i.size, i.bytes)) = some (some (.slice none 0 0), 1, 24) := by kernel_rfl
theorem inf27 : (Try.prog.info? 27).map (fun i => (i.zero, i.size, i.bytes)) = some (some (.int .u32 0), 1, 4) := by kernel_rfl
theorem appOne {t e : TypeId} {z : Value} {by' : Nat} (hu : Try.prog.underlying t = some (.slice e)) (hin : (Try.prog.info? e).map (fun i => (i.zero, i.size, i.bytes)) = some (some z, 1, by')) (hzc : z.cells.size = 1) (hbl : by' ≤ 24)
    {w : World} {ops : Array Oper} {rest : List Oper} {o : Oper} {ac : Act} {Q : Exit → Act → World → Prop} (hgd : o.guard = none) (s x : Operand)
    (ho : o.op = .call { callee := .builtin .append, args := #[s, x], argTypes := #[t, t] }) {B : Nat} {v : Value} {hs : List Value} (hsv : ac.eval s = v) (hown : w.ownsRow B e 1 v hs.length hs) (hbase : B ≤ w.heap.size) {g : Nat} {y : Value} (hx : ac.eval x = .slice (some ⟨g, 0, none⟩) 1 1) (hc : Cel w g e [y]) (hy : y.oneCell' = true)
    (hb : hs.length ≤ 1000000) (h : ∀ v' w', Two2 w w' B e 1 v v' hs.length 1 (hs ++ [y]) → wpList Try.prog ops Q rest (ac.put o.dst v') w') : wpList Try.prog ops Q (o :: rest) ac w := by
  obtain ⟨i, hi, hz, hsize, hby⟩ := info_parts hin
  exact wpList_append_two hgd s x t ho hu hi hz hsize hby hzc (by decide) hsv hown hbase hx (news := [y]) rfl hc.src (by intro u hu; rw [List.mem_singleton] at hu; subst hu; exact hy) (by unfold maxLen; omega) (Nat.le_trans (Nat.mul_le_mul_left _ hbl) (by omega)) h
theorem appAll {t e : TypeId} {z : Value} {by' : Nat} (hu : Try.prog.underlying t = some (.slice e)) (hin : (Try.prog.info? e).map (fun i => (i.zero, i.size, i.bytes)) = some (some z, 1, by')) (hzc : z.cells.size = 1) (hbl : by' ≤ 24)
    {w : World} {ops : Array Oper} {rest : List Oper} {o : Oper} {ac : Act} {Q : Exit → Act → World → Prop} (hgd : o.guard = none) (s x : Operand)
    (ho : o.op = .call { callee := .builtin .append, args := #[s, x], argTypes := #[t, t] }) {B : Nat} {A : List Value} (hA1 : ∀ u ∈ A, u.oneCell' = true) (hsv : ac.eval s = .slice none 0 0) {v : Value} (hx : ac.eval x = v) (hown : w.ownsRow B e 1 v A.length A)
    (hb : A.length ≤ 1000000) (h : ∀ v' w', w'.ownsRow w.heap.size e 1 v' A.length A → Below w.heap.size w w' → wpList Try.prog ops Q rest (ac.put o.dst v') w') : wpList Try.prog ops Q (o :: rest) ac w := by
  obtain ⟨i, hi, hz, hsize, hby⟩ := info_parts hin
  rcases hown.2 with ⟨rfl, hn⟩ | ⟨g, cap, cur, rfl, _⟩
  · have hA : A = [] := List.eq_nil_of_length_eq_zero hn
    subst hA
    exact wpList_append_own_none hgd s x t ho w.heap.size e i 1 hu hi (.slice none 0 0) 0 [] hsv (World.ownsRow_nil _ _ _ _) hx (h _ _ (World.ownsRow_nil _ _ _ _) (Below.refl _ _))
  · refine wpList_append_two hgd s x t ho hu hi hz hsize hby hzc (by decide) (base := w.heap.size) (n := 0) (xs := []) hsv (World.ownsRow_nil _ _ _ _) (Nat.le_refl _) hx (news := A) (by simp) (hown.cells (g := g) rfl) hA1 (by unfold maxLen; omega) (Nat.le_trans (Nat.mul_le_mul_left _ hbl) (by omega)) ?_
    rintro v' w' (⟨g', cap', hh, _⟩ | ⟨h1, h2⟩)
    · cases hh
    · rw [Nat.zero_add, List.nil_append] at h1
      exact h v' w' h1 h2
/-- A new list is a row. -/
theorem cel_own {w : World} {B g : Nat} {e : TypeId} {xs : List Value} {n : Nat} (h : Cel w g e xs) (hB : B ≤ g) (hn : xs.length = n) (hm : n ≤ 1000000) : w.ownsRow B e 1 (.slice (some ⟨g, 0, none⟩) n n) n xs := by
  refine ⟨by omega, .inr ⟨g, n, xs.toArray, rfl, hB, h, Nat.le_refl _, by unfold maxLen; omega, by simp; omega, ?_⟩⟩
  simp only [Nat.mul_one]
  rw [List.take_of_length_le (by omega)]
/-- Marks. -/
def mrk (u : Value) (n : Nat) : List Value := List.replicate n u
theorem mrk_len (u : Value) (n : Nat) : (mrk u n).length = n := by simp [mrk]
theorem mrk_at (u : Value) (n i : Nat) (h : i < n) : (mrk u n)[i]? = some u := by simp [mrk, h]
theorem mrk_snoc (u : Value) (n : Nat) : mrk u n ++ [u] = mrk u (n + 1) := by simp [mrk, List.replicate_succ']
def wrm (u : Value) (A : List Value) (j : Nat) : List Value := mrk u j ++ A.drop j
theorem wrm_len (u : Value) (A : List Value) (j : Nat) (h : j ≤ A.length) : (wrm u A j).length = A.length := by rw [wrm, List.length_append, mrk_len, List.length_drop]; omega
theorem wrm_all (u : Value) (A : List Value) : wrm u A A.length = mrk u A.length := by simp [wrm]
theorem wrm_at (u : Value) (A : List Value) (j i : Nat) (h : j ≤ i) : (wrm u A j)[i]? = A[i]? := by
  rw [wrm, List.getElem?_append_right (by rw [mrk_len]; exact h), mrk_len, List.getElem?_drop]
  congr 1
  omega
theorem wrm_set (u : Value) (A : List Value) (j : Nat) (h : j < A.length) : (wrm u A j).set j u = wrm u A (j + 1) := by
  apply List.ext_getElem?
  intro i
  rw [List.getElem?_set]
  by_cases e : j = i
  · subst e
    rw [if_pos rfl, if_pos (by rw [wrm_len _ _ _ (by omega)]; exact h), wrm, List.getElem?_append_left (by rw [mrk_len]; omega), mrk_at _ _ _ (by omega)]
  · rw [if_neg e, wrm, wrm]
    by_cases h1 : i < j
    · rw [List.getElem?_append_left (by rw [mrk_len]; exact h1), List.getElem?_append_left (by rw [mrk_len]; omega), mrk_at _ _ _ h1, mrk_at _ _ _ (by omega)]
    · rw [List.getElem?_append_right (by rw [mrk_len]; omega), List.getElem?_append_right (by rw [mrk_len]; omega), mrk_len, mrk_len, List.getElem?_drop, List.getElem?_drop]
      congr 1
      omega
theorem own_store1 {x : World} {B : Nat} {e : TypeId} {g n cap : Nat} {C : List Value} (h : x.ownsRow B e 1 (.slice (some ⟨g, 0, none⟩) n cap) n C) (j : Nat) (y : Value) :
    (x.setCell ⟨g, j, none⟩ y).ownsRow B e 1 (.slice (some ⟨g, 0, none⟩) n cap) n (C.set j y) ∧ ButL [g] x (x.setCell ⟨g, j, none⟩ y) := by
  refine ⟨?_, .setCell x g j y (by simp)⟩
  obtain ⟨h1, h2⟩ := h
  refine ⟨by rw [List.length_set]; exact h1, ?_⟩
  rcases h2 with ⟨hn, _⟩ | ⟨g', cap', cur, hn, hb, h2, h3, h4, h5, h6⟩
  · cases hn
  · cases hn
    refine .inr ⟨g, cap, cur.setIfInBounds j y, rfl, hb, heap_setCell_same x g j _ e _ h2, ?_, ?_, ?_, ?_⟩
    · exact h3
    · exact h4
    · rw [Array.size_setIfInBounds]; exact h5
    · rw [← h6, Array.toList_setIfInBounds, List.take_set]
theorem row_g {x : World} {B : Nat} {e : TypeId} {v : Value} {n : Nat} {xs : List Value} (h : x.ownsRow B e 1 v n xs) (hn : 0 < n) : ∃ g c, v = .slice (some ⟨g, 0, none⟩) n c ∧ ∀ j u, xs[j]? = some u → x.cell? ⟨g, j, none⟩ = some u := by
  obtain ⟨ao, cap, rfl, hg⟩ := own_form h
  obtain ⟨g, rfl⟩ := hg hn
  exact ⟨g, cap, rfl, fun j u hu => own_cell h hu⟩
theorem KR.markj {W x : World} {p : Dp} {d : DS} {Z1 Z2 D : List RowT} {e : TypeId} {g N vc j : Nat} {u : Value} {A : List Value} (h : KR W x p d (Z1 ++ ⟨e, .slice (some ⟨g, 0, none⟩) N vc, wrm u A j⟩ :: Z2) D) (hN : A.length = N) (hj : j < N) :
    KR W (x.setCell ⟨g, j, none⟩ u) p d (Z1 ++ ⟨e, .slice (some ⟨g, 0, none⟩) N vc, wrm u A (j + 1)⟩ :: Z2) D := by
  have ho := h.own ⟨e, .slice (some ⟨g, 0, none⟩) N vc, wrm u A j⟩ (by simp)
  unfold Rw at ho
  simp only [wrm_len u A j (by omega), hN] at ho
  obtain ⟨h1, h2⟩ := own_store1 ho j u
  rw [wrm_set u A j (by omega)] at h1
  exact h.put rfl h2 rfl (by rw [wrm_len u A (j + 1) (by omega), hN]; exact h1)
theorem row_free {x : World} {B : Nat} {e : TypeId} {g n c : Nat} {xs : List Value} (h : x.ownsRow B e 1 (.slice (some ⟨g, 0, none⟩) n c) n xs) (j : Nat) : x.frozen? ⟨g, j, none⟩ = false := by
  rcases h.2 with ⟨hn, _⟩ | ⟨g', cap, cur, hn, _, h2, _⟩
  · cases hn
  · cases hn
    exact frozen_of_row x g j _ e h2
/-- The marks of the lists number k. -/
def mw (k : Nat) : Value := .int .u32 ((k : Int) + 900)
def mi (k : Nat) : Value := .int .i64 (-(k : Int) - 1)
def pnd (AW AO : List Value) : List (Value × Value) → List RowT
  | [] => []
  | z :: r => ⟨27, z.1, AW⟩ :: ⟨3, z.2, AO⟩ :: pnd AW AO r
theorem pnd_snoc (AW AO : List Value) (zs : List (Value × Value)) (z : Value × Value) : pnd AW AO (zs ++ [z]) = pnd AW AO zs ++ [⟨27, z.1, AW⟩, ⟨3, z.2, AO⟩] := by
  induction zs with
  | nil => rfl
  | cons a r ih => simp [pnd, ih]
/-- The four lists of lists. -/
structure H4 where
  vl : Value
  ls : List Value
  vo : Value
  os : List Value
  vm : Value
  ms : List Value
  vt : Value
  ts : List Value
def H4.rows (h : H4) : List RowT := [⟨32, h.vl, h.ls⟩, ⟨45, h.vo, h.os⟩, ⟨32, h.vm, h.ms⟩, ⟨45, h.vt, h.ts⟩]
structure Mk (AW AO : List Value) (ls os ms ts : List Value) (D : List RowT) (k : Nat) : Prop where
  ex : ∃ a b c e, ls[k]? = some a ∧ os[k]? = some b ∧ ms[k]? = some c ∧ ts[k]? = some e ∧ (⟨27, a, mrk (mw k) AW.length⟩ : RowT) ∈ D ∧ (⟨3, b, mrk (mi k) AO.length⟩ : RowT) ∈ D ∧ (⟨27, c, mrk (mw k) (AW.length + 1)⟩ : RowT) ∈ D ∧ (⟨3, e, mrk (mi k) (AO.length + 1)⟩ : RowT) ∈ D
structure KI (W w : World) (p : Dp) (d : DS) (AW AO : List Value) (fx : List RowT) (t : Nat) (D : List RowT) (h : H4) : Prop where
  k : KR W w p d h.rows D
  f : ∀ z ∈ fx, z ∈ D
  ll : h.ls.length = t
  lo : h.os.length = t
  lm : h.ms.length = t
  lt : h.ts.length = t
  m : ∀ k, k < t → Mk AW AO h.ls h.os h.ms h.ts D k
/-- Some lists are still to be marked. -/
structure KJ (W w : World) (p : Dp) (d : DS) (AW AO : List Value) (fx : List RowT) (t c : Nat) (zs : List (Value × Value)) (D : List RowT) (h : H4) : Prop where
  k : KR W w p d (h.rows ++ pnd AW AO (zs.drop c)) D
  f : ∀ z ∈ fx, z ∈ D
  zl : zs.length = 2
  ll : h.ls.length = t + 2
  lo : h.os.length = t + 2
  al : ∀ i z, zs[i]? = some z → h.ls[t + i]? = some z.1
  ao : ∀ i z, zs[i]? = some z → h.os[t + i]? = some z.2
  lm : h.ms.length = t + c
  lt : h.ts.length = t + c
  m : ∀ k, k < t + c → Mk AW AO h.ls h.os h.ms h.ts D k
/-- Lists are being asked for. -/
structure KH (W w : World) (p : Dp) (d : DS) (AW AO : List Value) (fx : List RowT) (t c : Nat) (zs : List (Value × Value)) (D : List RowT) (h : H4) : Prop where
  k : KR W w p d (h.rows ++ pnd AW AO zs) D
  f : ∀ z ∈ fx, z ∈ D
  zl : zs.length = c
  ll : h.ls.length = t + c
  lo : h.os.length = t + c
  al : ∀ i z, zs[i]? = some z → h.ls[t + i]? = some z.1
  ao : ∀ i z, zs[i]? = some z → h.os[t + i]? = some z.2
  lm : h.ms.length = t
  lt : h.ts.length = t
  m : ∀ k, k < t → Mk AW AO h.ls h.os h.ms h.ts D k
theorem KI.start {W w : World} {p : Dp} {d : DS} {AW AO : List Value} {D : List RowT} (h : KR W w p d [] D) : KI W w p d AW AO D 0 D ⟨.slice none 0 0, [], .slice none 0 0, [], .slice none 0 0, [], .slice none 0 0, []⟩ := by
  refine ⟨⟨h.a, h.below, h.la, fun z hz => ?_, ?_, h.dn, fun z hz d _ g hg => ?_, fun z hz g hg => ?_⟩, fun z hz => hz, rfl, rfl, rfl, rfl, fun k hk => absurd hk (by omega)⟩
  · simp only [H4.rows, List.mem_cons, List.not_mem_nil, or_false] at hz
    rcases hz with rfl | rfl | rfl | rfl <;> exact World.ownsRow_nil _ _ _ _
  · have : ∀ v : Value, Ap (.slice none 0 0) v := fun v g hg => by cases hg
    simp [H4.rows, this]
  · simp only [H4.rows, List.mem_cons, List.not_mem_nil, or_false] at hz
    rcases hz with rfl | rfl | rfl | rfl <;> cases hg
  · simp only [H4.rows, List.mem_cons, List.not_mem_nil, or_false] at hz
    rcases hz with rfl | rfl | rfl | rfl <;> cases hg
theorem KI.kh {W w : World} {p : Dp} {d : DS} {AW AO : List Value} {fx : List RowT} {t : Nat} {D : List RowT} {h : H4} (hi : KI W w p d AW AO fx t D h) : KH W w p d AW AO fx t 0 [] D h :=
  ⟨by have := hi.k; simp only [pnd, List.append_nil]; exact this, hi.f, rfl, hi.ll, hi.lo, by simp, by simp, hi.lm, hi.lt, hi.m⟩
theorem Mk.more {AW AO : List Value} {ls os ms ts : List Value} {D : List RowT} {k : Nat} (h : Mk AW AO ls os ms ts D k) (l2 o2 m2 t2 : List Value) (D2 : List RowT) : Mk AW AO (ls ++ l2) (os ++ o2) (ms ++ m2) (ts ++ t2) (D ++ D2) k := by
  obtain ⟨a, b, c, e, h1, h2, h3, h4, h5, h6, h7, h8⟩ := h.ex
  have up : ∀ {l l2 : List Value} {u : Value}, l[k]? = some u → (l ++ l2)[k]? = some u := fun {l l2 u} hh => by
    obtain ⟨hl, _⟩ := List.getElem?_eq_some_iff.1 hh
    rw [List.getElem?_append_left hl]; exact hh
  exact ⟨a, b, c, e, up h1, up h2, up h3, up h4, by simp [h5], by simp [h6], by simp [h7], by simp [h8]⟩
theorem KH.next {W w w' : World} {p : Dp} {d : DS} {AW AO : List Value} {fx : List RowT} {t c : Nat} {zs : List (Value × Value)} {D : List RowT} {h : H4} (hi : KH W w p d AW AO fx t c zs D h) {v u vl vo : Value} (hk : KR W w' p d ((⟨vl, h.ls ++ [v], vo, h.os ++ [u], h.vm, h.ms, h.vt, h.ts⟩ : H4).rows ++ (pnd AW AO zs ++ [⟨27, v, AW⟩, ⟨3, u, AO⟩])) D) :
    KH W w' p d AW AO fx t (c + 1) (zs ++ [(v, u)]) D ⟨vl, h.ls ++ [v], vo, h.os ++ [u], h.vm, h.ms, h.vt, h.ts⟩ := by
  refine ⟨by rw [pnd_snoc]; exact hk, hi.f, by rw [List.length_append, hi.zl]; rfl, by simp only [List.length_append, hi.ll]; rfl, by simp only [List.length_append, hi.lo]; rfl, fun i z hz => ?_, fun i z hz => ?_, hi.lm, hi.lt, fun k hk2 => ?_⟩
  · by_cases e : i < zs.length
    · rw [List.getElem?_append_left e] at hz
      have := hi.al i z hz
      rw [List.getElem?_append_left (by rw [hi.ll, ← hi.zl]; omega)]; exact this
    · rw [List.getElem?_append_right (by omega)] at hz
      obtain ⟨rfl, rfl⟩ : i = zs.length ∧ z = (v, u) := by
        cases hq : i - zs.length with
        | zero => rw [hq] at hz; exact ⟨by omega, (Option.some.inj hz).symm⟩
        | succ q => rw [hq] at hz; simp at hz
      rw [List.getElem?_append_right (by rw [hi.ll, hi.zl]; omega), hi.ll, hi.zl, Nat.sub_self]; rfl
  · by_cases e : i < zs.length
    · rw [List.getElem?_append_left e] at hz
      have := hi.ao i z hz
      rw [List.getElem?_append_left (by rw [hi.lo, ← hi.zl]; omega)]; exact this
    · rw [List.getElem?_append_right (by omega)] at hz
      obtain ⟨rfl, rfl⟩ : i = zs.length ∧ z = (v, u) := by
        cases hq : i - zs.length with
        | zero => rw [hq] at hz; exact ⟨by omega, (Option.some.inj hz).symm⟩
        | succ q => rw [hq] at hz; simp at hz
      rw [List.getElem?_append_right (by rw [hi.lo, hi.zl]; omega), hi.lo, hi.zl, Nat.sub_self]; rfl
  · have := (hi.m k hk2).more [v] [u] [] [] []
    simpa using this
theorem KH.kj {W w : World} {p : Dp} {d : DS} {AW AO : List Value} {fx : List RowT} {t : Nat} {zs : List (Value × Value)} {D : List RowT} {h : H4} (hi : KH W w p d AW AO fx t 2 zs D h) : KJ W w p d AW AO fx t 0 zs D h :=
  ⟨by rw [List.drop_zero]; exact hi.k, hi.f, hi.zl, hi.ll, hi.lo, hi.al, hi.ao, hi.lm, hi.lt, hi.m⟩
theorem KJ.next {W w w' : World} {p : Dp} {d : DS} {AW AO : List Value} {fx : List RowT} {t c : Nat} {zs : List (Value × Value)} {D : List RowT} {h : H4} (hi : KJ W w p d AW AO fx t c zs D h) {v u vm vt v2 u2 : Value} (hz : zs[c]? = some (v, u))
    (hk : KR W w' p d ((⟨h.vl, h.ls, h.vo, h.os, vm, h.ms ++ [v2], vt, h.ts ++ [u2]⟩ : H4).rows ++ pnd AW AO (zs.drop (c + 1))) (D ++ [⟨27, v, mrk (mw (t + c)) AW.length⟩, ⟨27, v2, mrk (mw (t + c)) (AW.length + 1)⟩, ⟨3, u, mrk (mi (t + c)) AO.length⟩, ⟨3, u2, mrk (mi (t + c)) (AO.length + 1)⟩])) :
    KJ W w' p d AW AO fx t (c + 1) zs (D ++ [⟨27, v, mrk (mw (t + c)) AW.length⟩, ⟨27, v2, mrk (mw (t + c)) (AW.length + 1)⟩, ⟨3, u, mrk (mi (t + c)) AO.length⟩, ⟨3, u2, mrk (mi (t + c)) (AO.length + 1)⟩]) ⟨h.vl, h.ls, h.vo, h.os, vm, h.ms ++ [v2], vt, h.ts ++ [u2]⟩ := by
  refine ⟨hk, fun z hz => by simp [hi.f z hz], hi.zl, hi.ll, hi.lo, hi.al, hi.ao, by simp only [List.length_append, hi.lm]; rfl, by simp only [List.length_append, hi.lt]; rfl, fun k hk2 => ?_⟩
  by_cases e : k < t + c
  · have := (hi.m k e).more [] [] [v2] [u2] [⟨27, v, mrk (mw (t + c)) AW.length⟩, ⟨27, v2, mrk (mw (t + c)) (AW.length + 1)⟩, ⟨3, u, mrk (mi (t + c)) AO.length⟩, ⟨3, u2, mrk (mi (t + c)) (AO.length + 1)⟩]
    simpa only [List.append_nil] using this
  · obtain rfl : k = t + c := by omega
    refine ⟨v, u, v2, u2, hi.al c _ hz, hi.ao c _ hz, ?_, ?_, by simp, by simp, by simp, by simp⟩
    · rw [List.getElem?_append_right (by rw [hi.lm]; omega), hi.lm, Nat.sub_self]; rfl
    · rw [List.getElem?_append_right (by rw [hi.lt]; omega), hi.lt, Nat.sub_self]; rfl
theorem KJ.done {W w : World} {p : Dp} {d : DS} {AW AO : List Value} {fx : List RowT} {t : Nat} {zs : List (Value × Value)} {D : List RowT} {h : H4} (hi : KJ W w p d AW AO fx t 2 zs D h) : KI W w p d AW AO fx (t + 2) D h :=
  ⟨by have := hi.k; rw [List.drop_of_length_le (by rw [hi.zl]; exact Nat.le_refl _), pnd, List.append_nil] at this; exact this, hi.f, hi.ll, hi.lo, hi.lm, hi.lt, hi.m⟩
theorem KI.on {W w w' : World} {p : Dp} {d : DS} {AW AO : List Value} {fx : List RowT} {t : Nat} {D : List RowT} {h : H4} (hi : KI W w p d AW AO fx t D h) (hb : Below w.heap.size w w') : KI W w' p d AW AO fx t D h := ⟨hi.k.on hb, hi.f, hi.ll, hi.lo, hi.lm, hi.lt, hi.m⟩
theorem KH.on {W w w' : World} {p : Dp} {d : DS} {AW AO : List Value} {fx : List RowT} {t c : Nat} {zs : List (Value × Value)} {D : List RowT} {h : H4} (hi : KH W w p d AW AO fx t c zs D h) (hb : Below w.heap.size w w') : KH W w' p d AW AO fx t c zs D h := ⟨hi.k.on hb, hi.f, hi.zl, hi.ll, hi.lo, hi.al, hi.ao, hi.lm, hi.lt, hi.m⟩
theorem wdrop {zs : List (Value × Value)} {c : Nat} {z : Value × Value} (h : zs[c]? = some z) : zs.drop c = z :: zs.drop (c + 1) := by
  obtain ⟨hl, he⟩ := List.getElem?_eq_some_iff.1 h
  rw [List.drop_eq_getElem_cons hl, he]
/-- A row of words as it is read. -/
theorem row_wl {x : World} {B : Nat} {v : Value} {L : List Int} (h : x.ownsRow B 27 1 v (u32s L).length (u32s L)) (hr : ∀ y ∈ L, 0 ≤ y ∧ y < 4294967296) : ∃ ao c, v = .slice ao L.length c ∧ WL x ao L.length L := by
  obtain ⟨ao, c, rfl, hg⟩ := own_form h
  refine ⟨ao, c, by rw [u32s_len], rfl, hr, fun h0 => ?_⟩
  obtain ⟨g, rfl⟩ := hg (by rw [u32s_len]; exact h0)
  refine ⟨g, 0, rfl, fun j u hu => ?_, (h.lt g rfl).2⟩
  rw [Nat.zero_add]
  exact own_cell h hu
end Go.Proofs.Ytajkhkaidjjioaa
