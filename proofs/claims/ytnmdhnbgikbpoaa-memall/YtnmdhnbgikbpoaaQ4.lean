/- The law's fresh 28. -/
import Derived.Test.YtnmdhnbgikbpoaaQ3
namespace Go.Proofs.Ytnmdhnbgikbpoaa
open Go.RowKit
theorem benC_f (f : Nat → Fp) (r : Nat → Rf) (vL : Value) (i : Nat) (hi : i < 4) (x : Fp) : (benC f r vL).set i (ptr x.gm) = benC (upd f i x) r vL := by
  match i, hi with
  | 0, _ => rfl
  | 1, _ => rfl
  | 2, _ => rfl
  | 3, _ => rfl
theorem benC_r (f : Nat → Fp) (r : Nat → Rf) (vL : Value) (i : Nat) (hi : i < 4) (x : Rf) : (benC f r vL).set (4 + i) (ptr x.g) = benC f (upd r i x) vL := by
  match i, hi with
  | 0, _ => rfl
  | 1, _ => rfl
  | 2, _ => rfl
  | 3, _ => rfl
theorem benC_v (f : Nat → Fp) (r : Nat → Rf) (vL v' : Value) : (benC f r vL).set 8 v' = benC f r v' := rfl
section
variable {W wr : World} {gb : Nat} {f : Nat → Fp} {r : Nat → Rf} {mf mr : Nat → MS} {vL : Value} {lv : List Value} (h : Bn W wr gb f r mf mr vL lv)
include h
theorem Bn.setM (i : Nat) (hi : i < 4) {f' : Fp} {m' : MS} (hm : Mem wr f' m') (hp : 0 < m'.P.length) (hlo : ∀ k ∈ f'.all, W.heap.size ≤ k) (hd : ∀ j, j < 4 → j ≠ i → ∀ k ∈ f'.all, k ∉ (f j).all) :
    Bn W (wr.setCell ⟨gb, i, none⟩ (.pointer (some ⟨f'.gm, 0, none⟩))) gb (upd f i f') r (upd mf i m') mr vL lv := by
  have hb := ButL.setCell (G := [gb]) wr gb i (.pointer (some ⟨f'.gm, 0, none⟩)) (by simp)
  have tg := h.cel.tyAt
  have no : ∀ k t, TyAt wr k t → t ≠ 68 → k ∉ [gb] := fun k t ht hn hk => by rw [List.mem_singleton] at hk; subst hk; exact hn (ht.eq tg)
  have nf : ∀ {f0 : Fp} {m0 : MS}, Mem wr f0 m0 → ∀ k ∈ f0.all, k ∉ [gb] := fun h0 k hk => by
    rcases h0.tys k hk with a | a | a <;> exact no k _ a (by decide)
  have nr : ∀ {r0 : Rf} {m0 : MS}, RMem wr r0 m0 → ∀ k ∈ r0.all, k ∉ [gb] := fun h0 k hk => by
    rcases h0.tys k hk with a | a | a <;> exact no k _ a (by decide)
  refine ⟨h.below.setCell (p := ⟨gb, i, none⟩) h.hgb _, h.hgb, ?_, fun j hj => ?_, fun j hj => (h.rmem j hj).frame hb (nr (h.rmem j hj)), fun j hj => ?_, fun j hj => ?_, h.rlo, fun j k hj hk hjk x hx => ?_, h.rap, h.hv.but hb (fun k hk => by rw [List.mem_singleton] at hk; rw [hk]; exact h.hgb) (fun b hbb => no _ _ (h.hv.ty hbb) (by decide)), fun k hk => (h.lst k hk).but hb (fun b hbb => no _ _ (h.lty k hk b hbb) (by decide)), fun k hk b hbb => (h.lty k hk b hbb).but hb (no _ _ (h.lty k hk b hbb) (by decide)), h.apv, h.apl⟩
  · rw [← benC_f f r vL i hi f']; exact h.cel.setCell i _
  · by_cases e : j = i
    · subst e; rw [upd_same, upd_same]; exact hm.frame hb (nf hm)
    · rw [upd_ne _ _ e, upd_ne _ _ e]; exact (h.mem j hj).frame hb (nf (h.mem j hj))
  · by_cases e : j = i
    · subst e; rw [upd_same]; exact ⟨hp, (h.pos j hj).2⟩
    · rw [upd_ne _ _ e]; exact h.pos j hj
  · by_cases e : j = i
    · subst e; rw [upd_same]; exact hlo
    · rw [upd_ne _ _ e]; exact h.flo j hj
  · by_cases e1 : j = i
    · subst e1
      rw [upd_same] at hx
      rw [upd_ne _ _ (Ne.symm hjk)]
      exact hd k hk (Ne.symm hjk) x hx
    · rw [upd_ne _ _ e1] at hx
      by_cases e2 : k = i
      · subst e2
        rw [upd_same]
        exact fun hm' => hd j hj e1 x hm' hx
      · rw [upd_ne _ _ e2]; exact h.fap j k hj hk hjk x hx
theorem Bn.setR (i : Nat) (hi : i < 4) {r' : Rf} {m' : MS} (hm : RMem wr r' m') (hp : 0 < m'.P.length) (hlo : ∀ k ∈ r'.all, W.heap.size ≤ k) (hd : ∀ j, j < 4 → j ≠ i → ∀ k ∈ r'.all, k ∉ (r j).all) (hv : ∀ b, blkOf vL = some b → b ∉ r'.all) (hl : ∀ k, k < lv.length → ∀ b, blkOf (lv.getD k nilV) = some b → b ∉ r'.all) :
    Bn W (wr.setCell ⟨gb, 4 + i, none⟩ (.pointer (some ⟨r'.g, 0, none⟩))) gb f (upd r i r') mf (upd mr i m') vL lv := by
  have hb := ButL.setCell (G := [gb]) wr gb (4 + i) (.pointer (some ⟨r'.g, 0, none⟩)) (by simp)
  have tg := h.cel.tyAt
  have no : ∀ k t, TyAt wr k t → t ≠ 68 → k ∉ [gb] := fun k t ht hn hk => by rw [List.mem_singleton] at hk; subst hk; exact hn (ht.eq tg)
  have nf : ∀ {f0 : Fp} {m0 : MS}, Mem wr f0 m0 → ∀ k ∈ f0.all, k ∉ [gb] := fun h0 k hk => by
    rcases h0.tys k hk with a | a | a <;> exact no k _ a (by decide)
  have nr : ∀ {r0 : Rf} {m0 : MS}, RMem wr r0 m0 → ∀ k ∈ r0.all, k ∉ [gb] := fun h0 k hk => by
    rcases h0.tys k hk with a | a | a <;> exact no k _ a (by decide)
  refine ⟨h.below.setCell (p := ⟨gb, 4 + i, none⟩) h.hgb _, h.hgb, ?_, fun j hj => (h.mem j hj).frame hb (nf (h.mem j hj)), fun j hj => ?_, fun j hj => ?_, h.flo, fun j hj => ?_, h.fap, fun j k hj hk hjk x hx => ?_, h.hv.but hb (fun k hk => by rw [List.mem_singleton] at hk; rw [hk]; exact h.hgb) (fun b hbb => no _ _ (h.hv.ty hbb) (by decide)), fun k hk => (h.lst k hk).but hb (fun b hbb => no _ _ (h.lty k hk b hbb) (by decide)), fun k hk b hbb => (h.lty k hk b hbb).but hb (no _ _ (h.lty k hk b hbb) (by decide)), fun j hj b hbb => ?_, fun j hj k hk b hbb => ?_⟩
  · rw [← benC_r f r vL i hi r']; exact h.cel.setCell (4 + i) _
  · by_cases e : j = i
    · subst e; rw [upd_same, upd_same]; exact hm.frame hb (nr hm)
    · rw [upd_ne _ _ e, upd_ne _ _ e]; exact (h.rmem j hj).frame hb (nr (h.rmem j hj))
  · by_cases e : j = i
    · subst e; rw [upd_same]; exact ⟨(h.pos j hj).1, hp⟩
    · rw [upd_ne _ _ e]; exact h.pos j hj
  · by_cases e : j = i
    · subst e; rw [upd_same]; exact hlo
    · rw [upd_ne _ _ e]; exact h.rlo j hj
  · by_cases e1 : j = i
    · subst e1
      rw [upd_same] at hx
      rw [upd_ne _ _ (Ne.symm hjk)]
      exact hd k hk (Ne.symm hjk) x hx
    · rw [upd_ne _ _ e1] at hx
      by_cases e2 : k = i
      · subst e2
        rw [upd_same]
        exact fun hm' => hd j hj e1 x hm' hx
      · rw [upd_ne _ _ e2]; exact h.rap j k hj hk hjk x hx
  · by_cases e : j = i
    · subst e; rw [upd_same]; exact hv b hbb
    · rw [upd_ne _ _ e]; exact h.apv j hj b hbb
  · by_cases e : j = i
    · subst e; rw [upd_same]; exact hl k hk b hbb
    · rw [upd_ne _ _ e]; exact h.apl j hj k hk b hbb
/-- A new memory of the program is put into its place. -/
theorem Bn.newM {w' : World} (i : Nat) (hi : i < 4) {f' : Fp} {m' : MS} (hn : NewMem wr w' f' m') (hp : 0 < m'.P.length) : Bn W (w'.setCell ⟨gb, i, none⟩ (.pointer (some ⟨f'.gm, 0, none⟩))) gb (upd f i f') r (upd mf i m') mr vL lv :=
  (h.on hn.below).setM i hi hn.mem hp (fun k hk => Nat.le_trans h.below.size (hn.new k hk)) (fun j hj _ k hk hm => by have := (h.mem j hj).lt k hm; have := hn.new k hk; omega)
theorem Bn.newR {w' : World} (i : Nat) (hi : i < 4) {r' : Rf} {m' : MS} (hn : NewR wr w' r' m') (hp : 0 < m'.P.length) : Bn W (w'.setCell ⟨gb, 4 + i, none⟩ (.pointer (some ⟨r'.g, 0, none⟩))) gb f (upd r i r') mf (upd mr i m') vL lv :=
  (h.on hn.below).setR i hi hn.mem hp (fun k hk => Nat.le_trans h.below.size (hn.new k hk)) (fun j hj _ k hk hm => by have := (h.rmem j hj).lt k hm; have := hn.new k hk; omega) (fun b hb hm => by have := (h.hv.ty hb).lt; have := hn.new b hm; omega) (fun k hk b hb hm => by have := (h.lty k hk b hb).lt; have := hn.new b hm; omega)
end
theorem new_pos (s n : Nat) (h : 1 ≤ s) : 0 < (MS.new s n).P.length := by simp [MS.new]; omega
def BE (W wr : World) (gb : Nat) (N : Nat) : Prop := ∃ f r m vL lv, Bn W wr gb f r m m vL lv ∧ lv.length ≤ N
set_option maxRecDepth 40000 in
set_option maxHeartbeats 4000000 in
theorem fresh_any {W wr : World} {gb : Nat} {f : Nat → Fp} {r : Nat → Rf} {m : Nat → MS} {vL : Value} {lv : List Value} (h : Bn W wr gb f r m m vL lv) (i : Nat) (hi : i < 4) (s n : Int) :
    Calls Try.prog 28 #[.pointer (some ⟨gb, 0, none⟩), .int .i64 (i : Int), .int .i64 s, .int .i64 n] wr fun x w' => x = .returned (.bool true) ∧ ∃ f' r' m', Bn W w' gb f' r' m' m' vL lv := by
  have i4 : (i : Int) < 4 := by omega
  have H := hid h
  clear h
  by_cases hf : 1 ≤ s ∧ s ≤ 64 ∧ 1 ≤ n ∧ n ≤ 64
  · obtain ⟨h1, h2, h3, h4⟩ := hf
    obtain ⟨a, rfl⟩ := Int.eq_ofNat_of_zero_le (show 0 ≤ s by omega)
    obtain ⟨b, rfl⟩ := Int.eq_ofNat_of_zero_le (show 0 ≤ n by omega)
    have HP := hid (new_pos a b (by omega))
    have N1 := hid (new_any wr a b (by omega) (by omega) (by omega) (by omega))
    have N2 : Hid (∀ x, Calls Try.prog 40 #[.int .i64 (a : Int), .int .i64 (b : Int)] x fun y w' => ∃ r, y = .returned (.tuple #[ptr r.g, .int .i64 0]) ∧ NewR x w' r (MS.new a b)) := hid (fun x => rnew_any x a b (by omega) (by omega) (by omega) (by omega))
    clear h1 h2 h3 h4
    go_enter Try.func28, Try.ntmps28
    go_wp2_with fail
    refine N1.out.mono ?_
    rintro x w1 ⟨f', rfl, hm⟩
    have HM := hid hm
    clear hm N1
    simp only [ptr]
    go_wp2_with fail
    refine (N2.out _).mono ?_
    rintro x w2 ⟨r', rfl, hr⟩
    have HB2 : Hid (NewMem wr w2 f' (MS.new a b)) := hid ⟨HM.out.mem.on hr.below, below_on HM.out.below hr.below, HM.out.new⟩
    have HR2 : Hid (NewR wr w2 r' (MS.new a b)) := hid ⟨hr.mem, below_on HM.out.below hr.below, fun k hk => Nat.le_trans HM.out.below.size (hr.new k hk)⟩
    have HS1 := hid (H.out.newM i hi HB2.out HP.out)
    have y1 := (H.out.on HB2.out.below).cm i hi
    have y2 := (H.out.on HB2.out.below).cel.free i
    have y3 := HS1.out.cr i hi
    have y4 := HS1.out.cel.free (4 + i)
    have HRX : Hid (RMem (w2.setCell ⟨gb, i, none⟩ (.pointer (some ⟨f'.gm, 0, none⟩))) r' (MS.new a b)) := hid (HR2.out.mem.frame (ButL.setCell (G := [gb]) w2 gb i _ (by simp)) (fun k hk => by
      rw [List.mem_singleton]; intro e; subst e
      have := HR2.out.new _ hk; have := H.out.cel.lt; omega))
    have HS2 := hid (HS1.out.setR i hi HRX.out HP.out (fun k hk => Nat.le_trans H.out.below.size (HR2.out.new k hk)) (fun j hj _ k hk hm => by have := (H.out.rmem j hj).lt k hm; have := HR2.out.new k hk; omega) (fun b hb hm => by have := (H.out.hv.ty hb).lt; have := HR2.out.new b hm; omega) (fun k hk b hb hm => by have := (H.out.lty k hk b hb).lt; have := HR2.out.new b hm; omega))
    clear hr HM HB2 HR2 N2 HRX HS1
    simp only [ptr]
    go_wp2_with fail
    refine (num_any _ _).mono ?_
    rintro x wk ⟨rfl, rfl⟩
    go_wp2_with fail
    go_ret
    exact ⟨rfl, _, _, _, HS2.out⟩
  · have N1 := hid (new_no wr s n hf)
    have N2 := hid (rnew_no wr s n hf)
    clear hf
    go_enter Try.func28, Try.ntmps28
    go_wp2_with fail
    refine N1.out.mono ?_
    rintro x w1 ⟨rfl, rfl⟩
    go_wp2_with fail
    refine N2.out.mono ?_
    rintro x w2 ⟨rfl, rfl⟩
    go_wp2_with fail
    refine (num_any _ _).mono ?_
    rintro x wk ⟨rfl, rfl⟩
    go_wp2_with fail
    go_ret
    exact ⟨rfl, _, _, _, H.out⟩
end Go.Proofs.Ytnmdhnbgikbpoaa
