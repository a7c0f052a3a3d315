import Derived.Test.YtmomidkodjihjaaDoorP28
namespace Go.Proofs.YtmomidkodjihjaaDoor
open Go.RowKit
open H
set_option maxRecDepth 100000
set_option maxHeartbeats 8000000
structure HOp (h : Hk) (n : Nat) (t : Nat) : Prop where
  he : h.e = 43
  hst : h.st = 3
  hn : h.n = n
  hm : h.m = n + 40
  hcs : h.cs = [.int .i64 99, .int .u32 (t : Int), .slice none 0 0]
theorem rng3 {w : World} {g off : Nat} {a b c : Value} (h : w.rangeAt g off [a, b, c]) : w.cell? ⟨g, off, none⟩ = some a ∧ w.cell? ⟨g, off + 1, none⟩ = some b ∧ w.cell? ⟨g, off + 2, none⟩ = some c := ⟨by simpa using h 0 _ rfl, h 1 _ rfl, h 2 _ rfl⟩
theorem marked_row {w : World} {B : Nat} {h : Hk} {n t : Nat} (hk : h.ok w B) (hh : HOp h n t) : ∃ gM cM aL cL, h.vm = .slice (some ⟨gM, 0, none⟩) (n + 40) cM ∧ h.vl = .slice aL n cL ∧ (∀ i, i < n + 40 → w.rangeAt gM (i * 3) [.int .i64 99, .int .u32 (t : Int), .slice none 0 0]) ∧ ∀ i, i < n → ∃ gL, aL = some ⟨gL, 0, none⟩ ∧ w.rangeAt gL (i * 3) [.int .i64 99, .int .u32 (t : Int), .slice none 0 0] := by
  have hl := hk.l
  have hm := hk.m
  rw [hh.he, hh.hst, hh.hcs, hh.hn] at hl
  rw [hh.he, hh.hst, hh.hcs, hh.hm] at hm
  have rep : ∀ k i, i < k → (List.replicate k [Value.int .i64 99, .int .u32 (t : Int), .slice none 0 0])[i]? = some [.int .i64 99, .int .u32 (t : Int), .slice none 0 0] := fun k i hi => by rw [List.getElem?_replicate, if_pos hi]
  obtain ⟨aL, cL, hvl⟩ := own_frm hl (by decide)
  obtain ⟨gM, cM, m1, m2, m3⟩ := own_sub (L := List.replicate (n + 40) [Value.int .i64 99, .int .u32 (t : Int), .slice none 0 0]) hm (fun l hl => by rw [List.eq_of_mem_replicate hl]; rfl) (by omega) (by decide)
  refine ⟨gM, cM, aL, cL, m1, hvl, fun i hi => m3 i _ (rep _ i hi), fun i hi => ?_⟩
  obtain ⟨gL, cL', l1, l2, l3⟩ := own_sub (L := List.replicate n [Value.int .i64 99, .int .u32 (t : Int), .slice none 0 0]) hl (fun l hl => by rw [List.eq_of_mem_replicate hl]; rfl) (by omega) (by decide)
  rw [hvl] at l1
  cases l1
  exact ⟨gL, rfl, l3 i _ (rep _ i hi)⟩
theorem marked_any (W : World) (B : Nat) (ao bo : Option Addr) (T ac bc nn : Nat) (D : List Hk) (hT : D.length = T) (h1 : W.ownsRow B 25 1 (.slice ao T ac) T (D.map (·.vl))) (h2 : W.ownsRow B 25 1 (.slice bo T bc) T (D.map (·.vm))) (hk : ∀ h ∈ D, h.ok W B) (hD : ∀ t h, D[t]? = some h → HOp h nn t) (hn : nn ≤ 100) (hT4 : T ≤ 100) :
    Calls Tryd.prog 25 #[.slice ao T ac, .slice bo T bc, .int .i64 (nn : Int)] W fun e w' => e = .returned (.bool true) ∧ W = w' := by
  have n1 : (T : Int) ≤ 100 := by omega
  have n2 : (nn : Int) ≤ 100 := by omega
  have HR := hid (fun (t : Nat) (h : Hk) (ht : D[t]? = some h) (hlt : t < T) => (by
    obtain ⟨gM, cM, aL, cL, e1, e2, r1, r2⟩ := marked_row (hk h (List.mem_of_getElem? ht)) (hD t h ht)
    obtain ⟨ga, rfl⟩ := own_some h1 (by omega)
    obtain ⟨gb, rfl⟩ := own_some h2 (by omega)
    have d1 := own_rng h1 t h.vl (by rw [List.getElem?_map, ht]; rfl)
    have d2 := own_rng h2 t h.vm (by rw [List.getElem?_map, ht]; rfl)
    rw [Nat.zero_add] at d1 d2
    rw [e2] at d1
    rw [e1] at d2
    exact ⟨ga, gb, gM, cM, aL, cL, rfl, rfl, d1, d2, r1, r2⟩ : ∃ ga gb gM cM aL cL, ao = some ⟨ga, 0, none⟩ ∧ bo = some ⟨gb, 0, none⟩ ∧ W.cell? ⟨ga, t, none⟩ = some (.slice aL nn cL) ∧ W.cell? ⟨gb, t, none⟩ = some (.slice (some ⟨gM, 0, none⟩) (nn + 40) cM) ∧ (∀ i, i < nn + 40 → W.rangeAt gM (i * 3) [.int .i64 99, .int .u32 (t : Int), .slice none 0 0]) ∧ ∀ i, i < nn → ∃ gL, aL = some ⟨gL, 0, none⟩ ∧ W.rangeAt gL (i * 3) [.int .i64 99, .int .u32 (t : Int), .slice none 0 0]))
  have HT := hid hT
  clear h1 h2 hk hD hT
  go_enter Tryd.func25, Tryd.ntmps25
  go_wp2_with fail
  go_loopw [7] (fun i wr => ∃ t : Nat, t ≤ T ∧ i = .int .i64 (t : Int) ∧ W = wr) (fun i _ => T - (intOf i).toNat)
  case atStart => exact ⟨0, Nat.zero_le _, rfl, rfl⟩
  case round =>
    obtain ⟨t, ht, rfl, rfl⟩ := hrel
    by_cases hlt : t < T
    · have q1 : (t : Int) < (T : Int) := by omega
      obtain ⟨h, hh⟩ : ∃ h, D[t]? = some h := ⟨_, List.getElem?_eq_getElem (by rw [HT.out]; exact hlt)⟩
      obtain ⟨ga, gb, gM, cM, aL, cL, rfl, rfl, d1, d2, r1, r2⟩ := HR.out t h hh hlt
      have R1 := hid r1
      have R2 := hid r2
      clear r1 r2 hh HR
      go_wp2_with fail
      go_loopw [8] (fun i wr => ∃ j : Nat, j ≤ nn + 40 ∧ i = .int .i64 (j : Int) ∧ W = wr) (fun i _ => nn + 40 - (intOf i).toNat)
      case atStart => exact ⟨0, Nat.zero_le _, rfl, rfl⟩
      case round =>
        obtain ⟨j, hj, rfl, rfl⟩ := hrel
        by_cases hlt2 : j < nn + 40
        · have q2 : (j : Int) < (nn : Int) + 40 := by omega
          obtain ⟨c1, c2, _⟩ := rng3 (R1.out j hlt2)
          by_cases hlt3 : j < nn
          · have q3 : (j : Int) < (nn : Int) := by omega
            obtain ⟨gL, rfl, r3⟩ := R2.out j hlt3
            obtain ⟨c4, c5, _⟩ := rng3 r3
            clear r3
            go_wp2_with fail
            go_roundw
            case measure => simp [intOf] <;> omega
            case rel => exact ⟨j + 1, by omega, by simp, trivial⟩
          · have q3 : (nn : Int) ≤ (j : Int) := by omega
            go_wp2_with fail
            go_roundw
            case measure => simp [intOf] <;> omega
            case rel => exact ⟨j + 1, by omega, by simp, trivial⟩
        · have q2 : (nn : Int) + 40 ≤ (j : Int) := by omega
          go_wp2_with fail
          go_roundw
          case measure => simp [intOf] <;> omega
          case rel => exact ⟨t + 1, by omega, by simp, trivial⟩
    · have q1 : (T : Int) ≤ (t : Int) := by omega
      go_wp2_with fail
      go_ret
      exact ⟨rfl, rfl⟩
end Go.Proofs.YtmomidkodjihjaaDoor
