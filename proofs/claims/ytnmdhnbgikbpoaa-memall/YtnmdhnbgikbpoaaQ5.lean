/- The law's hold 58, kept 32. -/
import Derived.Test.YtnmdhnbgikbpoaaQ4
namespace Go.Proofs.Ytnmdhnbgikbpoaa
open Go.RowKit
theorem append_where {P : Program} {w : World} {base : Nat} {t ty e : TypeId} {i : TypeInfo} {z : Value} {bytes : Nat} (ht : P.underlying t = some (.slice e)) (hi : P.info? e = some i) (hz : i.zero = some z) (hsize : i.size = 1) (hby : i.bytes = bytes) (hzs : z.cells.size = 1)
    {v : Value} {n : Nat} {xs : List Value} (hown : w.ownsRow base e 1 v n xs) {a : Addr} {m c : Nat} {news : List Value} (hl : news.length = m) (hnews : ∀ j u, news[j]? = some u → w.cell? (a.add j) = some u) (h1 : ∀ u ∈ news, u.oneCell' = true)
    (h63 : n + m ≤ maxLen) (hbytes : (n + m) * bytes ≤ 140737488355328) {v' : Value} {w' : World} (hr : (Builtin.append_ #[t, t] ty #[v, .slice (some a) m c]).run P w = .ok v' w') :
    v'.ownBlock = v.ownBlock ∨ ∀ g, v'.ownBlock = some g → w.heap.size ≤ g := by
  rcases hown.2 with ⟨rfl, rfl⟩ | ⟨g, cap, cur, rfl, hbg, hg, hnc, hcm, hcs, htake⟩
  · right
    have hx : xs = [] := List.eq_nil_of_length_eq_zero (by simpa using hown.1)
    subst hx
    obtain ⟨v2, w2, hr2, ho, _⟩ := run_append_own (P := P) w w.heap.size t ty e i z 1 bytes ht hi hz hsize hby hzs (by decide) (.slice none 0 0) 0 [] (World.ownsRow_nil w _ e 1) a m c news (by omega) hnews h1 h63 hbytes (Nat.le_refl _)
    rw [hr] at hr2
    cases hr2
    exact fun g hg => (ho.lt g hg).1
  · by_cases hroom : n + m ≤ cap
    · left
      have hr2 := run_append_room (P := P) w t ty e i ht hi g n cap cur hg a m c news (by rw [hsize]; omega) hnews h1 hroom (by rw [hsize]; omega)
      rw [hr] at hr2
      cases hr2
      rfl
    · right
      have holds : ∀ j u, xs[j]? = some u → w.cell? ((⟨g, 0, none⟩ : Addr).add j) = some u := hown.cells (g := g) rfl
      have hr2 := run_append_grow (P := P) w t ty e i z ht hi hz ⟨g, 0, none⟩ n cap xs (by rw [hsize]; exact hown.1) holds a m c news (by rw [hsize]; omega) hnews (by omega) (by simp only [maxLen] at h63; omega) (growslice_fits (by omega) (by rw [hby]; exact hbytes))
      rw [hr] at hr2
      cases hr2
      intro k hk
      simp [Value.ownBlock] at hk
      omega
theorem blk_own {v : Value} {b : Nat} {W w : World} {L : List Value} (h : Hv W w v L) (hb : blkOf v = some b) : v.ownBlock = some b := by
  rcases h.own.2 with ⟨hv, h0⟩ | ⟨g, cap, cur, hv, r⟩
  · rw [hv] at hb; cases hb
  · rw [hv] at hb ⊢; exact hb
theorem wpList_append_v2 {W w : World} {ops : Array Oper} {rest : List Oper} {o : Oper} {a : Act} {Q : Exit → Act → World → Prop} (hgd : o.guard = none) (s x : Operand)
    (ho : o.op = .call { callee := .builtin .append, args := #[s, x], argTypes := #[66, 66] }) (v : Value) (L : List Value) (hs : a.eval s = v) (H : Hv W w v L) (ad : Addr) (m c : Nat) (xs : List Value) (hx : a.eval x = .slice (some ad) m c) (hl : xs.length = m)
    (hsrc : ∀ j u, xs[j]? = some u → w.cell? (ad.add j) = some u) (hone : ∀ u ∈ xs, u.oneCell' = true) (hbytes : (L.length + m) * 24 ≤ 140737488355328)
    (h : ∀ v' w', Hv W w' v' (L ++ xs) → w.grownBy w' v.ownBlock → (v'.ownBlock = v.ownBlock ∨ ∀ g, v'.ownBlock = some g → w.heap.size ≤ g) → wpList Try.prog ops Q rest (a.put o.dst v') w') : wpList Try.prog ops Q (o :: rest) a w := by
  obtain ⟨i, hi, hz, hsize, hby⟩ := info_parts info24
  obtain ⟨v', w', hr, h1, h2, _⟩ := run_append_own (P := Try.prog) w W.heap.size 66 o.type 24 i (.slice none 0 0) 1 24 under66 hi hz hsize hby rfl (by decide) v L.length _ H.own ad m c xs (by rw [hl, Nat.mul_one]) hsrc hone (by unfold maxLen; omega) hbytes H.below.size
  have hw := append_where (P := Try.prog) under66 hi hz hsize hby rfl H.own hl hsrc hone (by unfold maxLen; omega) hbytes hr
  have hH : Hv W w' v' (L ++ xs) := ⟨by rw [List.length_append, hl]; exact h1, H.below.grown h2 H.below.size (fun g hg => (H.own.lt g hg).1)⟩
  refine wpList_plain hgd fun K hK => ?_
  unfold Oper.wp execOp
  simp only [ho, resolve, invoke, builtin, Sem.run_bind, Sem.run_pure, Result.andThen_ok, List.map_toArray, List.map_cons, List.map_nil, hs, hx, hr]
  exact hK _ _ (h _ _ hH h2 hw)
/-- A block of words that belongs to nobody's memory. -/
structure Loose (wr : World) (W : World) (g : Nat) (r : Nat → Rf) (lv : List Value) : Prop where
  ty : TyAt wr g 32
  lo : W.heap.size ≤ g
  nr : ∀ i, i < 4 → g ∉ (r i).all
  nl : ∀ k, k < lv.length → blkOf (lv.getD k nilV) ≠ some g
theorem Loose.but {wr w' W : World} {g : Nat} {r : Nat → Rf} {lv : List Value} {G : List Nat} (h : Loose wr W g r lv) (hb : ButL G wr w') (hn : g ∉ G) : Loose w' W g r lv := ⟨h.ty.but hb hn, h.lo, h.nr, h.nl⟩
section
variable {W wr : World} {gb : Nat} {f : Nat → Fp} {r : Nat → Rf} {mf mr : Nat → MS} {vL : Value} {lv : List Value} (h : Bn W wr gb f r mf mr vL lv)
include h
theorem Bn.other {w' : World} {g : Nat} (hg : Loose wr W g r lv) (hb : ButL [g] wr w') : Bn W w' gb f r mf mr vL lv := by
  have no : ∀ k t, TyAt wr k t → t ≠ 32 → k ∉ [g] := fun k t ht hn hk => by rw [List.mem_singleton] at hk; subst hk; exact hn (ht.eq hg.ty)
  have nf : ∀ {f0 : Fp} {m0 : MS}, Mem wr f0 m0 → ∀ k ∈ f0.all, k ∉ [g] := fun h0 k hk => by
    rcases h0.tys k hk with a | a | a <;> exact no k _ a (by decide)
  refine ⟨h.below.trans (hb.below (fun k hk => by rw [List.mem_singleton] at hk; rw [hk]; exact hg.lo) h.below.size), h.hgb, h.cel.but hb (no _ _ h.cel.tyAt (by decide)), fun j hj => (h.mem j hj).frame hb (nf (h.mem j hj)), fun j hj => (h.rmem j hj).frame hb (fun k hk hm => by rw [List.mem_singleton] at hm; subst hm; exact hg.nr j hj hk), h.pos, h.flo, h.rlo, h.fap, h.rap, h.hv.but hb (fun k hk => by rw [List.mem_singleton] at hk; rw [hk]; exact hg.lo) (fun b hbb => no _ _ (h.hv.ty hbb) (by decide)), fun k hk => (h.lst k hk).but hb (fun b hbb hm => by rw [List.mem_singleton] at hm; subst hm; exact hg.nl k hk hbb), fun k hk b hbb => (h.lty k hk b hbb).but hb (fun hm => by rw [List.mem_singleton] at hm; subst hm; exact hg.nl k hk hbb), h.apv, h.apl⟩
theorem Bn.loose {w' : World} {g : Nat} (hty : TyAt w' g 32) (hg : wr.heap.size ≤ g) : Loose w' W g r lv :=
  ⟨hty, Nat.le_trans h.below.size hg, fun i hi hm => by have := (h.rmem i hi).lt g hm; omega, fun k hk hb' => by have := (h.lty k hk g hb').lt; omega⟩
/-- Lists are put behind the others. -/
theorem Bn.grow {w' : World} {v' : Value} {xs : List Value} (h2 : Hv W w' v' (lv ++ xs)) (hgr : wr.grownBy w' vL.ownBlock) (hw : v'.ownBlock = vL.ownBlock ∨ ∀ g, v'.ownBlock = some g → wr.heap.size ≤ g)
    (hx : ∀ j, j < xs.length → LstIs wr (xs.getD j nilV) (mkk (lv.length + j)) ∧ ∀ b, blkOf (xs.getD j nilV) = some b → TyAt wr b 32 ∧ ∀ i, i < 4 → b ∉ (r i).all) :
    Bn W (w'.setCell ⟨gb, 8, none⟩ v') gb f r mf mr v' (lv ++ xs) := by
  obtain ⟨G, hG⟩ : ∃ G, G = gb :: (match vL.ownBlock with | some b => [b] | none => []) := ⟨_, rfl⟩
  have hbo : ∀ b, vL.ownBlock = some b → b ∈ G := fun b hb => by rw [hG, hb]; simp
  have hin : ∀ k ∈ G, k = gb ∨ vL.ownBlock = some k := fun k hk => by
    rw [hG, List.mem_cons] at hk
    rcases hk with e | hk
    · exact .inl e
    · cases hv : vL.ownBlock with
      | none => rw [hv] at hk; simp at hk
      | some b => rw [hv] at hk; simp at hk; exact .inr (by rw [hk])
  have hb : ButL G wr (w'.setCell ⟨gb, 8, none⟩ v') := (grown_but hgr hbo).trans (.setCell _ _ _ _ (by rw [hG]; simp))
  have no : ∀ k t, TyAt wr k t → t ≠ 68 → t ≠ 24 → k ∉ G := fun k t ht h1 h2 hk => by
    rcases hin k hk with e | e
    · subst e; exact h1 (ht.eq h.cel.tyAt)
    · exact h2 (ht.eq (h.hv.ty (ownBlock_blk h.hv e)))
  have nf : ∀ {f0 : Fp} {m0 : MS}, Mem wr f0 m0 → ∀ k ∈ f0.all, k ∉ G := fun h0 k hk => by
    rcases h0.tys k hk with a | a | a <;> exact no k _ a (by decide) (by decide)
  have nr : ∀ j, j < 4 → ∀ k ∈ (r j).all, k ∉ G := fun j hj k hk hm => by
    rcases hin k hm with e | e
    · subst e; exact (h.rmem j hj).no h.cel.tyAt (by decide) (by decide) (by decide) hk
    · exact h.apv j hj k (ownBlock_blk h.hv e) hk
  have hloG : ∀ k ∈ G, W.heap.size ≤ k := fun k hk => by
    rcases hin k hk with e | e
    · subst e; exact h.hgb
    · exact (h.hv.blk (ownBlock_blk h.hv e)).1
  have hgl := h.cel.lt
  have hcg : Cel w' gb 68 (benC f r vL) := h.cel.but (G := match vL.ownBlock with | some b => [b] | none => []) (grown_but hgr (fun b hb => by rw [hb]; simp)) (fun hm => by
    cases hv : vL.ownBlock with
    | none => rw [hv] at hm; simp at hm
    | some b => rw [hv] at hm; simp at hm; subst hm; exact absurd (h.cel.tyAt.eq (h.hv.ty (ownBlock_blk h.hv hv))) (by decide))
  have hnv : ∀ b, blkOf v' = some b → b ≠ gb := fun b hbb e => by
    subst e
    exact absurd ((h2.ty hbb).eq hcg.tyAt) (by decide)
  have getL : ∀ k, k < lv.length → (lv ++ xs).getD k nilV = lv.getD k nilV := fun k hk => by rw [List.getD_eq_getElem?_getD, List.getElem?_append_left hk, ← List.getD_eq_getElem?_getD]
  have getR : ∀ k, lv.length ≤ k → (lv ++ xs).getD k nilV = xs.getD (k - lv.length) nilV := fun k hk => by rw [List.getD_eq_getElem?_getD, List.getElem?_append_right hk, ← List.getD_eq_getElem?_getD]
  refine ⟨h.below.trans (hb.below hloG h.below.size), h.hgb, ?_, fun j hj => (h.mem j hj).frame hb (nf (h.mem j hj)), fun j hj => (h.rmem j hj).frame hb (nr j hj), h.pos, h.flo, h.rlo, h.fap, h.rap, ?_, fun k hk => ?_, fun k hk b => ?_, fun i hi b hbb hm => ?_, fun i hi k hk b => ?_⟩
  · rw [← benC_v f r vL v']; exact hcg.setCell 8 v'
  · exact h2.but (G := [gb]) (.setCell _ _ _ _ (by simp)) (fun k hk => by rw [List.mem_singleton] at hk; rw [hk]; exact h.hgb) (fun b hbb => by rw [List.mem_singleton]; exact hnv b hbb)
  · rw [List.length_append] at hk
    by_cases e : k < lv.length
    · rw [getL k e]
      exact (h.lst k e).but hb (fun b hbb => no _ _ (h.lty k e b hbb) (by decide) (by decide))
    · rw [getR k (by omega)]
      have := hx (k - lv.length) (by omega)
      rw [show lv.length + (k - lv.length) = k by omega] at this
      exact this.1.but hb (fun b hbb => no _ _ (this.2 b hbb).1 (by decide) (by decide))
  · rw [List.length_append] at hk
    by_cases e : k < lv.length
    · rw [getL k e]
      exact fun hbb => (h.lty k e b hbb).but hb (no _ _ (h.lty k e b hbb) (by decide) (by decide))
    · rw [getR k (by omega)]
      have := hx (k - lv.length) (by omega)
      exact fun hbb => (this.2 b hbb).1.but hb (no _ _ (this.2 b hbb).1 (by decide) (by decide))
  · have ho := blk_own h2 hbb
    rcases hw with e | e
    · rw [e] at ho; exact h.apv i hi b (ownBlock_blk h.hv ho) hm
    · have := e b ho; have := (h.rmem i hi).lt b hm; omega
  · rw [List.length_append] at hk
    by_cases e : k < lv.length
    · rw [getL k e]; exact h.apl i hi k e b
    · rw [getR k (by omega)]
      have := hx (k - lv.length) (by omega)
      exact fun hbb => (this.2 b hbb).2 i hi
end
theorem mkk0 (n : Nat) (h : n % 4 = 0) : mkk n = ((n : Int) % 4294967296 + 77) % 4294967296 := by unfold mkk; rw [show n / 2 * 2 = n by omega]
theorem mkk1 (n : Nat) (h : n % 4 = 0) : mkk (n + 1) = mkk n := by unfold mkk; rw [show (n + 1) / 2 * 2 = n by omega, show n / 2 * 2 = n by omega]
theorem mkk2 (n : Nat) (h : n % 4 = 0) : mkk (n + 2) = (mkk n + 2) % 4294967296 := by unfold mkk; rw [show (n + 2) / 2 * 2 = n + 2 by omega, show n / 2 * 2 = n by omega]; omega
theorem mkk3 (n : Nat) (h : n % 4 = 0) : mkk (n + 3) = (mkk n + 2) % 4294967296 := by unfold mkk; rw [show (n + 3) / 2 * 2 = n + 2 by omega, show n / 2 * 2 = n by omega]; omega
theorem lst_rep {w : World} {g n c : Nat} {a : Int} (h : Cel w g 32 (u32s (List.replicate n a))) (hn : n ≤ 100000) : LstIs w (.slice (some ⟨g, 0, none⟩) n c) a :=
  ⟨_, n, c, rfl, hn, .inr ⟨g, rfl, h.tyAt, fun j hj => by rw [h.cell j, u32s, List.getElem?_map, List.getElem?_eq_getElem (by simpa using hj)]; simp⟩⟩
theorem lst_hl {W w : World} {v : Value} {L : List Int} {a : Int} (h : Hl W w v L) (ha : ∀ x ∈ L, x = a) (hn : L.length ≤ 100000) : LstIs w v a := by
  obtain ⟨ao, c, rfl, hh⟩ := h.form
  refine ⟨ao, L.length, c, rfl, hn, ?_⟩
  rcases Nat.eq_zero_or_pos L.length with h0 | hp
  · exact .inl h0
  · obtain ⟨g, e, _, _, ⟨cur, hc⟩, hcell⟩ := hh hp
    exact .inr ⟨g, e, ⟨cur, _, hc⟩, fun j hj => by
      have := hcell j (.int .u32 (L[j])) (by rw [u32s, List.getElem?_map, List.getElem?_eq_getElem hj]; rfl)
      rw [this, ha _ (List.getElem_mem hj)]⟩
theorem lst_nil (w : World) (a : Int) : LstIs w (.slice none 0 0) a := ⟨none, 0, 0, rfl, by decide, .inl rfl⟩
end Go.Proofs.Ytnmdhnbgikbpoaa
