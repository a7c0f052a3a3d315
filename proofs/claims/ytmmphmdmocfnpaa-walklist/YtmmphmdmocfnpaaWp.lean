/- WalkList: facts for its walk. -/
import Derived.Test.YtmmphmdmocfnpaaWn
namespace Go.Proofs.Ytmmphmdmocfnpaa
open Go.RowKit
set_option maxRecDepth 100000
def mc (q : Mp) : List Value := [.bool q.s, .int .i64 q.p, .bool q.wr, .bool q.ex]
theorem KR.box {W x x' : World} {fa : Fp} {m : MS} {Z D : List RowT} {hv gv : Value} {hs gs : List Value} (h : KR W x fa m Z D hv hs gv gs) {g : Nat} {cs : List Value} (hc : Cel x g 35 cs) (hW : W.heap.size ≤ g) (hb : ButL [g] x x') : KR W x' fa m Z D hv hs gv gs :=
  h.keep hb (fun k cur e hk he hm => by
    rw [List.mem_singleton] at hm
    subst hm
    unfold Cel at hc
    rw [hc] at hk
    injection hk with hk
    injection hk with _ h3 _
    subst h3
    rcases he with he | he <;> exact absurd he (by decide)) (h.a.frame hb (fun k hk hm => by
    rw [List.mem_singleton] at hm
    subst hm
    exact h.a.notT hc (by decide) (by decide) (by decide) hk)) (h.below.trans (hb.below (by simpa using hW) h.below.size))
structure IntsAt (W : World) (ao : Option Addr) (n b off : Nat) (F : Nat → Int) : Prop where
  ao : 0 < n → ao = some ⟨b, off, none⟩ ∧ b < W.heap.size
  c : ∀ j, j < n → W.cell? ⟨b, off + j, none⟩ = some (.int .i64 (F j))
  r : ∀ j, j < n → -9223372036854775808 ≤ F j ∧ F j ≤ 9223372036854775807
theorem IntsAt.cell {W x : World} {ao : Option Addr} {n b off : Nat} {F : Nat → Int} (h : IntsAt W ao n b off F) (hb : Below W.heap.size W x) (j : Nat) (hj : j < n) : x.cell? ⟨b, off + j, none⟩ = some (.int .i64 (F j)) :=
  (hb.cell (p := ⟨b, off + j, none⟩) (h.ao (by omega)).2).trans (h.c j hj)
theorem adr_parts (x : Mg) (o : Int) : 0 ≤ adr x o ∧ adr x o < 1073741824 ∧ VaOk (adr x o) ∧ adr x o / 4194304 = ix (tI x).toNat ∧ adr x o / 4096 % 1024 = tJ x ∧ spO (adr x o) = wi o 0 1024 ∧ adr x o - adr x o % 4096 = pAd (tI x) (tJ x) := by
  have hi := tI_range x
  have hj := tJ_range x
  have hw := wi_range o 0 1024 (by decide)
  have hx := ix_cases (tI x).toNat (by omega)
  unfold adr pAd
  generalize ix (tI x).toNat = a at *
  generalize tJ x = b at *
  generalize wi o 0 1024 = d at *
  have hv : VaOk (a * 4194304 + b * 4096 + d * 4) := by unfold VaOk; omega
  refine ⟨by omega, by omega, hv, by omega, by omega, ?_, by omega⟩
  unfold spO
  rw [if_pos hv]
  omega
/-- All that a mapping's address tells. -/
theorem adr_all (L : Nat → Mg) (K j : Nat) (hj : j < K) (o : Int) : (mpd L K).wk 0 (adr (L j) o) = (wnt L j (K - (j + 1))).2.sd ∧ (mpd L K).wkE 0 (adr (L j) o) = 0 ∧ (adr (L j) o - adr (L j) o % 4096, (wnt L j (K - (j + 1))).2.sd) ∈ (mpd L K).lst 0 256 := by
  obtain ⟨h1, h2, h3, h4, h5, h6, h7⟩ := adr_parts (L j) o
  have hi := tI_range (L j)
  have hl := wnt_last L j (K - (j + 1))
  rw [show j + 1 + (K - (j + 1)) = K by omega] at hl
  have hw := mpd_wk L K (adr (L j) o) h3 (tI (L j)).toNat (by omega) h4 (wnt L j (K - (j + 1))).2 (by rw [h5, show (((tI (L j)).toNat : Nat) : Int) = tI (L j) by omega]; exact hl)
  refine ⟨hw.1, hw.2, ?_⟩
  rw [h7]
  exact (mpd_mem L K _).2 ⟨_, _, _, tI_range _, tJ_range _, hl, rfl⟩
theorem far_all (L : Nat → Mg) (K : Nat) (va : Int) (h0 : 0 ≤ va) (h1 : va < 1073741824) (h2 : va % 4 = 0) (h : ∀ z ∈ (mpd L K).lst 0 256, z.1 ≠ va - va % 4096) : (mpd L K).wk 0 va = Mp.z ∧ (mpd L K).wkE 0 va = 92 := by
  refine mpd_wkn L K va ⟨h1, h2⟩ h0 (fun a ha hi => ?_)
  cases hl : lastM L K (a : Int) (va / 4096 % 1024) with
  | none => rfl
  | some x =>
    exfalso
    refine h (pAd (a : Int) (va / 4096 % 1024), x.sd) ((mpd_mem L K _).2 ⟨_, _, _, by omega, by omega, hl, rfl⟩) ?_
    simp only
    unfold pAd
    rw [Int.toNat_natCast, ← hi]
    omega
end Go.Proofs.Ytmmphmdmocfnpaa
