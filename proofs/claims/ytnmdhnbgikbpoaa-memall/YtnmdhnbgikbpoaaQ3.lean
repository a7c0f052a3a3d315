/- The law's bench: four memories twice, and lists. -/
import Derived.Test.YtnmdhnbgikbpoaaQ2
namespace Go.Proofs.Ytnmdhnbgikbpoaa
open Go.RowKit
def TyAt (w : World) (k : Nat) (t : TypeId) : Prop := ∃ cur fr, w.heap[k]? = some (.cells cur t fr)
theorem TyAt.eq {w : World} {k : Nat} {t t' : TypeId} (h : TyAt w k t) (h' : TyAt w k t') : t = t' := by
  obtain ⟨c, fr, e⟩ := h
  obtain ⟨c', fr', e'⟩ := h'
  rw [e] at e'
  injection e' with e'
  injection e' with _ h2 _
theorem Cel.tyAt {w : World} {g : Nat} {t : TypeId} {cs : List Value} (h : Cel w g t cs) : TyAt w g t := ⟨_, _, h⟩
theorem Mem.tys {w : World} {f : Fp} {m : MS} (h : Mem w f m) : ∀ k ∈ f.all, TyAt w k 78 ∨ TyAt w k 82 ∨ TyAt w k 85 := by
  intro k hk
  simp only [Fp.all, List.mem_cons] at hk
  rcases hk with rfl | rfl | rfl | hk
  · exact .inl h.cel.tyAt
  · exact .inr (.inl h.sec.tyAt)
  · exact .inr (.inl h.ins.tyAt)
  · obtain ⟨i, hi, rfl⟩ := List.mem_iff_getElem.1 hk
    have := (h.pg i (by rw [← h.len]; exact hi)).tyAt
    unfold Fp.b at this
    rw [List.getD_eq_getElem?_getD, List.getElem?_eq_getElem hi] at this
    exact .inr (.inr this)
theorem RMem.tys {w : World} {r : Rf} {m : MS} (h : RMem w r m) : ∀ k ∈ r.all, TyAt w k 105 ∨ TyAt w k 24 ∨ TyAt w k 32 := by
  intro k hk
  rcases Rf.all_mem hk with rfl | rfl | ⟨j, hj, hb⟩
  · exact .inl h.cel.tyAt
  · obtain ⟨cur, h1, _⟩ := h.pages
    exact .inr (.inl ⟨_, _, h1⟩)
  · rcases (h.pg j (by rw [← h.len]; exact hj)).2 with ⟨e, _⟩ | ⟨b, cap, cur, e, h1, _⟩
    · rw [e] at hb; cases hb
    · rw [e] at hb
      simp only [blkOf, Option.some.injEq] at hb
      subst hb
      exact .inr (.inr ⟨_, _, h1⟩)
theorem Mem.no {w : World} {f : Fp} {m : MS} (h : Mem w f m) {k : Nat} {t : TypeId} (ht : TyAt w k t) (h1 : t ≠ 78) (h2 : t ≠ 82) (h3 : t ≠ 85) : k ∉ f.all := by
  intro hk
  rcases h.tys k hk with a | a | a
  · exact h1 (ht.eq a)
  · exact h2 (ht.eq a)
  · exact h3 (ht.eq a)
theorem RMem.no {w : World} {r : Rf} {m : MS} (h : RMem w r m) {k : Nat} {t : TypeId} (ht : TyAt w k t) (h1 : t ≠ 105) (h2 : t ≠ 24) (h3 : t ≠ 32) : k ∉ r.all := by
  intro hk
  rcases h.tys k hk with a | a | a
  · exact h1 (ht.eq a)
  · exact h2 (ht.eq a)
  · exact h3 (ht.eq a)
theorem Mem.rno {w : World} {f : Fp} {m m' : MS} {r : Rf} (h : Mem w f m) (h' : RMem w r m') : ∀ k ∈ f.all, k ∉ r.all := by
  intro k hk
  rcases h.tys k hk with a | a | a
  · exact h'.no a (by decide) (by decide) (by decide)
  · exact h'.no a (by decide) (by decide) (by decide)
  · exact h'.no a (by decide) (by decide) (by decide)
def mkk (k : Nat) : Int := (((k / 2 * 2 : Nat) : Int) % 4294967296 + 77) % 4294967296
/-- A list that bears its mark. -/
def LstIs (w : World) (v : Value) (a : Int) : Prop := ∃ ao n c, v = .slice ao n c ∧ n ≤ 100000 ∧ (n = 0 ∨ ∃ b, ao = some ⟨b, 0, none⟩ ∧ TyAt w b 32 ∧ ∀ j, j < n → w.cell? ⟨b, j, none⟩ = some (.int .u32 a))
theorem LstIs.but {w w' : World} {G : List Nat} {v : Value} {a : Int} (h : LstIs w v a) (hb : ButL G w w') (hn : ∀ b, blkOf v = some b → b ∉ G) : LstIs w' v a := by
  obtain ⟨ao, n, c, rfl, h1, h2⟩ := h
  refine ⟨ao, n, c, rfl, h1, h2.imp id ?_⟩
  rintro ⟨b, rfl, ⟨cur, fr, e⟩, hc⟩
  have hk := hb.block b (Array.getElem?_eq_some_iff.1 e).1 (hn b rfl)
  exact ⟨b, rfl, ⟨cur, fr, hk.trans e⟩, fun j hj => (World.cell?_of_block (w := w) hk).trans (hc j hj)⟩
def upd {α : Type} (f : Nat → α) (i : Nat) (x : α) : Nat → α := fun j => if j = i then x else f j
theorem upd_same {α : Type} (f : Nat → α) (i : Nat) (x : α) : upd f i x i = x := by simp [upd]
theorem upd_ne {α : Type} (f : Nat → α) {i j : Nat} (x : α) (h : j ≠ i) : upd f i x j = f j := by simp [upd, h]
def benC (f : Nat → Fp) (r : Nat → Rf) (vL : Value) : List Value := [ptr (f 0).gm, ptr (f 1).gm, ptr (f 2).gm, ptr (f 3).gm, ptr (r 0).g, ptr (r 1).g, ptr (r 2).g, ptr (r 3).g, vL]
structure Bn (W wr : World) (gb : Nat) (f : Nat → Fp) (r : Nat → Rf) (mf mr : Nat → MS) (vL : Value) (lv : List Value) : Prop where
  below : Below W.heap.size W wr
  hgb : W.heap.size ≤ gb
  cel : Cel wr gb 68 (benC f r vL)
  mem : ∀ i, i < 4 → Mem wr (f i) (mf i)
  rmem : ∀ i, i < 4 → RMem wr (r i) (mr i)
  pos : ∀ i, i < 4 → 0 < (mf i).P.length ∧ 0 < (mr i).P.length
  flo : ∀ i, i < 4 → ∀ k ∈ (f i).all, W.heap.size ≤ k
  rlo : ∀ i, i < 4 → ∀ k ∈ (r i).all, W.heap.size ≤ k
  fap : ∀ i j, i < 4 → j < 4 → i ≠ j → ∀ k ∈ (f i).all, k ∉ (f j).all
  rap : ∀ i j, i < 4 → j < 4 → i ≠ j → ∀ k ∈ (r i).all, k ∉ (r j).all
  hv : Hv W wr vL lv
  lst : ∀ k, k < lv.length → LstIs wr (lv.getD k nilV) (mkk k)
  lty : ∀ k, k < lv.length → ∀ b, blkOf (lv.getD k nilV) = some b → TyAt wr b 32
  apv : ∀ i, i < 4 → ∀ b, blkOf vL = some b → b ∉ (r i).all
  apl : ∀ i, i < 4 → ∀ k, k < lv.length → ∀ b, blkOf (lv.getD k nilV) = some b → b ∉ (r i).all
theorem TyAt.but {w w' : World} {G : List Nat} {k : Nat} {t : TypeId} (h : TyAt w k t) (hb : ButL G w w') (hn : k ∉ G) : TyAt w' k t := by
  obtain ⟨cur, fr, e⟩ := h
  exact ⟨cur, fr, (hb.block k (Array.getElem?_eq_some_iff.1 e).1 hn).trans e⟩
theorem TyAt.lt {w : World} {k : Nat} {t : TypeId} (h : TyAt w k t) : k < w.heap.size := by
  obtain ⟨cur, fr, e⟩ := h
  exact (Array.getElem?_eq_some_iff.1 e).1
theorem Hv.ty {W w : World} {v : Value} {L : List Value} (h : Hv W w v L) {b : Nat} (hb : blkOf v = some b) : TyAt w b 24 := by
  obtain ⟨_, cur, e⟩ := h.blk hb
  exact ⟨cur, _, e⟩
section
variable {W wr : World} {gb : Nat} {f : Nat → Fp} {r : Nat → Rf} {mf mr : Nat → MS} {vL : Value} {lv : List Value} (h : Bn W wr gb f r mf mr vL lv)
include h
theorem Bn.on {w' : World} (hb : Below wr.heap.size wr w') : Bn W w' gb f r mf mr vL lv :=
  ⟨below_on h.below hb, h.hgb, h.cel.on hb, fun i hi => (h.mem i hi).on hb, fun i hi => (h.rmem i hi).on hb, h.pos, h.flo, h.rlo, h.fap, h.rap, h.hv.on hb, fun k hk => (h.lst k hk).but (G := []) (.of hb) (by simp), fun k hk b hbb => (h.lty k hk b hbb).but (G := []) (.of hb) (by simp), h.apv, h.apl⟩
/-- The program's memory i has taken a step. -/
theorem Bn.fst {w' : World} (i : Nat) (hi : i < 4) {m' : MS} (hb : ButL (f i).w wr w') (hm : Mem w' (f i) m') (hp : 0 < m'.P.length) : Bn W w' gb f r (upd mf i m') mr vL lv := by
  have hM := h.mem i hi
  have no : ∀ k t, TyAt wr k t → t ≠ 78 → t ≠ 82 → t ≠ 85 → k ∉ (f i).w := fun k t ht a b c hk => hM.no ht a b c (Fp.w_all' hk)
  refine ⟨h.below.trans (hb.below (fun k hk => h.flo i hi k (Fp.w_all' hk)) h.below.size), h.hgb, h.cel.but hb (no _ _ h.cel.tyAt (by decide) (by decide) (by decide)), fun j hj => ?_, fun j hj => ?_, fun j hj => ?_, h.flo, h.rlo, h.fap, h.rap, ?_, fun k hk => (h.lst k hk).but hb (fun b hbb => no _ _ (h.lty k hk b hbb) (by decide) (by decide) (by decide)), fun k hk b hbb => (h.lty k hk b hbb).but hb (no _ _ (h.lty k hk b hbb) (by decide) (by decide) (by decide)), h.apv, h.apl⟩
  · by_cases e : j = i
    · subst e; rw [upd_same]; exact hm
    · rw [upd_ne _ _ e]; exact (h.mem j hj).frame hb (fun k hk hk' => h.fap j i hj hi e k hk (Fp.w_all' hk'))
  · refine (h.rmem j hj).frame hb (fun k hk hk' => (hM.rno (h.rmem j hj)) k (Fp.w_all' hk') hk)
  · by_cases e : j = i
    · subst e; rw [upd_same]; exact ⟨hp, (h.pos j hj).2⟩
    · rw [upd_ne _ _ e]; exact h.pos j hj
  · exact h.hv.but hb (fun k hk => h.flo i hi k (Fp.w_all' hk)) (fun b hbb => no _ _ (h.hv.ty hbb) (by decide) (by decide) (by decide))
/-- The document's memory i has taken a step. -/
theorem Bn.rst {w' : World} (i : Nat) (hi : i < 4) {m' : MS} {r' : Rf} (hs : RSt wr w' (r i) r' m') (hp : 0 < m'.P.length) : Bn W w' gb f (upd r i r') mf (upd mr i m') vL lv := by
  have hM := h.rmem i hi
  have hb := hs.but
  have no : ∀ k t, TyAt wr k t → t ≠ 105 → t ≠ 24 → t ≠ 32 → k ∉ (r i).all := fun k t ht a b c hk => hM.no ht a b c hk
  have hg : ∀ j, (upd r i r' j).g = (r j).g := fun j => by
    by_cases e : j = i
    · subst e; rw [upd_same]; exact hs.g
    · rw [upd_ne _ _ e]
  have sub : ∀ k ∈ r'.all, k ∈ (r i).all ∨ wr.heap.size ≤ k := hs.sub
  have hlo : ∀ k ∈ r'.all, W.heap.size ≤ k := fun k hk => (sub k hk).elim (h.rlo i hi k) (fun hh => Nat.le_trans h.below.size hh)
  have nv : ∀ b, blkOf vL = some b → b ∉ r'.all := fun b hbb hk => (sub b hk).elim (h.apv i hi b hbb) (fun hh => by have := (h.hv.ty hbb).lt; omega)
  have nl : ∀ k, k < lv.length → ∀ b, blkOf (lv.getD k nilV) = some b → b ∉ r'.all := fun k hk b hbb hm => (sub b hm).elim (h.apl i hi k hk b hbb) (fun hh => by have := (h.lty k hk b hbb).lt; omega)
  refine ⟨h.below.trans (hb.below (fun k hk => h.rlo i hi k hk) h.below.size), h.hgb, ?_, fun j hj => ?_, fun j hj => ?_, fun j hj => ?_, h.flo, fun j hj => ?_, h.fap, fun j k hj hk hjk x hx => ?_, ?_, fun k hk => (h.lst k hk).but hb (h.apl i hi k hk), fun k hk b hbb => (h.lty k hk b hbb).but hb (h.apl i hi k hk b hbb), fun j hj b hbb => ?_, fun j hj k hk b hbb => ?_⟩
  · have := h.cel.but hb (no _ _ h.cel.tyAt (by decide) (by decide) (by decide))
    unfold benC at this ⊢
    rw [hg 0, hg 1, hg 2, hg 3]; exact this
  · exact (h.mem j hj).frame hb ((h.mem j hj).rno hM)
  · by_cases e : j = i
    · subst e; rw [upd_same, upd_same]; exact hs.mem
    · rw [upd_ne _ _ e, upd_ne _ _ e]; exact (h.rmem j hj).frame hb (h.rap j i hj hi e)
  · by_cases e : j = i
    · subst e; rw [upd_same]; exact ⟨(h.pos j hj).1, hp⟩
    · rw [upd_ne _ _ e]; exact h.pos j hj
  · by_cases e : j = i
    · subst e; rw [upd_same]; exact hlo
    · rw [upd_ne _ _ e]; exact h.rlo j hj
  · by_cases e1 : j = i
    · subst e1
      rw [upd_same] at hx
      rw [upd_ne _ _ (Ne.symm hjk)]
      exact (sub x hx).elim (fun hh => h.rap j k hj hk hjk x hh) (fun hh hm => by have := (h.rmem k hk).lt x hm; omega)
    · rw [upd_ne _ _ e1] at hx
      by_cases e2 : k = i
      · subst e2
        rw [upd_same]
        intro hm
        exact (sub x hm).elim (fun hh => h.rap j k hj hk hjk x hx hh) (fun hh => by have := (h.rmem j hj).lt x hx; omega)
      · rw [upd_ne _ _ e2]; exact h.rap j k hj hk hjk x hx
  · exact h.hv.but hb (h.rlo i hi) (h.apv i hi)
  · by_cases e : j = i
    · subst e; rw [upd_same]; exact nv b hbb
    · rw [upd_ne _ _ e]; exact h.apv j hj b hbb
  · by_cases e : j = i
    · subst e; rw [upd_same]; exact nl k hk b hbb
    · rw [upd_ne _ _ e]; exact h.apl j hj k hk b hbb
theorem Bn.cm (i : Nat) (hi : i < 4) : wr.cell? ⟨gb, i, none⟩ = some (.pointer (some ⟨(f i).gm, 0, none⟩)) := by
  rw [h.cel.cell i]
  match i, hi with
  | 0, _ => rfl
  | 1, _ => rfl
  | 2, _ => rfl
  | 3, _ => rfl
theorem Bn.cr (i : Nat) (hi : i < 4) : wr.cell? ⟨gb, 4 + i, none⟩ = some (.pointer (some ⟨(r i).g, 0, none⟩)) := by
  rw [h.cel.cell (4 + i)]
  match i, hi with
  | 0, _ => rfl
  | 1, _ => rfl
  | 2, _ => rfl
  | 3, _ => rfl
theorem Bn.cl : wr.cell? ⟨gb, 8, none⟩ = some vL := h.cel.cell 8
/-- What lies elsewhere stays. -/
theorem Bn.fstay {w' : World} (i : Nat) (hi : i < 4) (hb : ButL (f i).w wr w') {g : Nat} {t : TypeId} {cs : List Value} (hc : Cel wr g t cs) (h1 : t ≠ 78) (h2 : t ≠ 82) (h3 : t ≠ 85) : Cel w' g t cs :=
  hc.but hb (fun hk => (h.mem i hi).no hc.tyAt h1 h2 h3 (Fp.w_all' hk))
theorem Bn.rstay {w' : World} (i : Nat) (hi : i < 4) (hb : ButL (r i).all wr w') {g : Nat} {t : TypeId} {cs : List Value} (hc : Cel wr g t cs) (h1 : t ≠ 105) (h2 : t ≠ 24) (h3 : t ≠ 32) : Cel w' g t cs :=
  hc.but hb ((h.rmem i hi).no hc.tyAt h1 h2 h3)
end
end Go.Proofs.Ytnmdhnbgikbpoaa
