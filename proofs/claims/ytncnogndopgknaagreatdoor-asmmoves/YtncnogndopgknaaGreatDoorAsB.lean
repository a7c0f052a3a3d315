/- What is known of operands that were read; a statement that was read, laid down. -/
import Derived.Test.YtncnogndopgknaaGreatDoorAsA
namespace Go.Proofs.YtncnogndopgknaaGreatDoor
open Go.RowKit
namespace S
theorem between_lt {s : List UInt8} {lo hi : Int} {v : Nat} (h : between s lo hi = some v) : v < 4294967296 := by
  unfold between at h
  split at h
  · split at h
    · cases h; unfold u32; omega
    · cases h
  · cases h
theorem upTo_le {s : List UInt8} {m v : Nat} (h : upTo s m = some v) : v ≤ m := by
  unfold upTo at h
  split at h
  · split at h
    · cases h; assumption
    · cases h
  · cases h
theorem find1_lt {f : Nat → List UInt8} {lo : Nat} {s : List UInt8} : ∀ {hi k : Nat}, find1 f lo hi s = some k → k < hi := by
  intro hi
  induction hi with
  | zero => intro k hk; cases hk
  | succ m ih =>
    intro k hk
    unfold find1 at hk
    split at hk
    · rename_i k' hk'
      cases hk
      have := ih hk'
      omega
    · split at hk
      · cases hk; omega
      · cases hk
theorem readNumber_lt {l : Nat} {s : List UInt8} {v : Nat} (h : readNumber l s = some v) : v < 4294967296 ∧ (l = 110 → v ≤ 2048) := by
  unfold readNumber at h
  split at h
  · rename_i hl
    unfold register at h
    split at h
    · exact ⟨between_lt h, fun h0 => by omega⟩
    · cases h
  · split at h
    · rename_i hl
      have := find1_lt h
      exact ⟨by omega, fun h0 => by omega⟩
    · split at h
      · rename_i hl
        have := upTo_le h
        exact ⟨by omega, fun h0 => by omega⟩
      · split at h
        · rename_i hl
          exact ⟨between_lt h, fun h0 => by omega⟩
        · split at h
          · have := upTo_le h
            exact ⟨by omega, fun _ => this⟩
          · rename_i hl
            split at h
            · rename_i n hn
              cases h
              have := upTo_le hn
              exact ⟨by omega, fun h0 => absurd h0 hl⟩
            · exact ⟨between_lt h, fun h0 => absurd h0 hl⟩
theorem readOperand_ok {l : Nat} {w : T.Wd} {o : Opn} (h : readOperand l w = some o) : o.val < 4294967296 ∧ (l = 110 → o.val ≤ 2048) ∧ (o.lab ≠ [] → l = 111 ∨ l = 120) := by
  unfold readOperand at h
  split at h
  · cases h
  · split at h
    · rename_i hl
      cases h
      exact ⟨by show (0 : Nat) < _; decide, fun _ => Nat.zero_le _, fun _ => hl.1⟩
    · cases hr : readNumber l w.text with
      | none => rw [hr] at h; cases h
      | some v =>
        rw [hr] at h
        cases h
        exact ⟨(readNumber_lt hr).1, (readNumber_lt hr).2, fun h0 => absurd rfl h0⟩
theorem rdOps_ok {nc : Nat} : ∀ {L : List Nat} {rs : List T.Wd} {os : List Opn}, rdOps nc L rs = .inr os → os.length = L.length ∧ ∀ i (h : i < os.length) (h' : i < L.length), os[i].val < 4294967296 ∧ (L[i] = 110 → os[i].val ≤ 2048) ∧ (os[i].lab ≠ [] → L[i] = 111 ∨ L[i] = 120)
  | [], [], os, h => by cases h; exact ⟨rfl, fun i h => by simp at h⟩
  | [], _ :: _, os, h => by cases h
  | _ :: _, [], os, h => by cases h
  | l :: ls, w :: ws, os, h => by
    unfold rdOps at h
    split at h
    · cases h
    · rename_i o ho
      split at h
      · cases h
      · rename_i os' hos
        cases h
        have ih := rdOps_ok hos
        refine ⟨by simp [ih.1], fun i h h' => ?_⟩
        cases i with
        | zero => exact readOperand_ok ho
        | succ i => exact ih.2 i (by simpa using h) (by simpa using h')
/-- At most one of a kind's letters may be a label. -/
theorem one_label {k : Kd} (hk : KOk k) : ∀ i j (hi : i < k.shape.length) (hj : j < k.shape.length), (k.shape[i].toNat = 111 ∨ k.shape[i].toNat = 120) → (k.shape[j].toNat = 111 ∨ k.shape[j].toNat = 120) → i = j := by
  have key : ∀ s : List UInt8, ((List.range s.length).all fun i => (List.range s.length).all fun j => !((s.getD i 0).toNat == 111 || (s.getD i 0).toNat == 120) || !((s.getD j 0).toNat == 111 || (s.getD j 0).toNat == 120) || i == j) = true →
      ∀ i j (hi : i < s.length) (hj : j < s.length), (s[i].toNat = 111 ∨ s[i].toNat = 120) → (s[j].toNat = 111 ∨ s[j].toNat = 120) → i = j := by
    intro s hs i j hi hj h1 h2
    have h3 := List.all_eq_true.1 (List.all_eq_true.1 hs i (List.mem_range.2 hi)) j (List.mem_range.2 hj)
    rw [List.getD_eq_getElem?_getD, List.getElem?_eq_getElem hi, List.getD_eq_getElem?_getD, List.getElem?_eq_getElem hj] at h3
    simp only [Option.getD_some, Bool.or_eq_true, Bool.not_eq_true', Bool.or_eq_false_iff, beq_eq_false_iff_ne, beq_iff_eq] at h3
    rcases h3 with (h3 | h3) | h3
    · exact absurd h1 (by simp [h3.1, h3.2])
    · exact absurd h2 (by simp [h3.1, h3.2])
    · exact h3
  rcases hk.four with ⟨_, e⟩ | ⟨_, e⟩ | ⟨_, e⟩ | ⟨_, _, _, e⟩
  · rw [e]; exact key _ (by decide)
  · rw [e]; exact key _ (by decide)
  · rw [e]; exact key _ (by decide)
  · have : ∀ n < 25, ((List.range (shapeT.getD n []).length).all fun i => (List.range (shapeT.getD n []).length).all fun j => !(((shapeT.getD n []).getD i 0).toNat == 111 || ((shapeT.getD n []).getD i 0).toNat == 120) || !(((shapeT.getD n []).getD j 0).toNat == 111 || ((shapeT.getD n []).getD j 0).toNat == 120) || i == j) = true := by decide +kernel
    rw [e]; exact key _ (this k.op hk.op)
theorem shape6 {k : Kd} (hk : KOk k) : k.shape.length ≤ 3 ∧ ∀ i (h : i < k.shape.length), letter6 k.shape[i].toNat := by
  rcases hk.four with ⟨_, e⟩ | ⟨_, e⟩ | ⟨_, e⟩ | ⟨_, _, _, e⟩
  · rw [e]; exact ⟨by decide, fun i h => by have : i = 0 := by simpa using h
                                            subst this; exact .inr (.inr (.inr (.inr (.inr (.inr (.inr (.inr rfl)))))))⟩
  · rw [e]; refine ⟨by decide, fun i h => ?_⟩
    match i, h with
    | 0, _ => exact .inl rfl
    | 1, _ => exact .inr (.inr (.inr (.inr (.inr (.inr (.inr (.inr rfl)))))))
  · rw [e]; exact ⟨by decide, fun i h => by have : i = 0 := by simpa using h
                                            subst this; exact .inr (.inr (.inr (.inr (.inr (.inr (.inr (.inl rfl)))))))⟩
  · rw [e]
    have := shape_ok k.op hk.op
    refine ⟨this.1, fun i h => ?_⟩
    rcases this.2 i h with h | h | h | h | h | h | h
    · exact .inl h
    · exact .inr (.inl h)
    · exact .inr (.inr (.inl h))
    · exact .inr (.inr (.inr (.inl h)))
    · exact .inr (.inr (.inr (.inr (.inl h))))
    · exact .inr (.inr (.inr (.inr (.inr (.inl h)))))
    · exact .inr (.inr (.inr (.inr (.inr (.inr (.inl h))))))
/-- Operands that were read are as a kind asks. -/
theorem os_ok {k : Kd} (hk : KOk k) {nc : Nat} {rs : List T.Wd} {os : List Opn} (h : rdOps nc (k.shape.map (·.toNat)) rs = .inr os) : OsOk k os ∧ ∀ i j (hi : i < os.length) (hj : j < os.length), os[i].lab ≠ [] → os[j].lab ≠ [] → i = j := by
  obtain ⟨h1, h2⟩ := rdOps_ok h
  rw [List.length_map] at h1
  have h3 : ∀ i (h : i < os.length), os[i].val < 4294967296 ∧ (k.shape[i].toNat = 110 → os[i].val ≤ 2048) ∧ (os[i].lab ≠ [] → k.shape[i].toNat = 111 ∨ k.shape[i].toNat = 120) := fun i hi => by
    have := h2 i hi (by rw [List.length_map]; omega)
    simpa using this
  refine ⟨⟨h1.symm, fun o ho => ?_, fun hz o ho => ?_⟩, fun i j hi hj a b => one_label hk i j (by omega) (by omega) ((h3 i hi).2.2 a) ((h3 j hj).2.2 b)⟩
  · obtain ⟨i, hi, rfl⟩ := List.getElem_of_mem ho
    exact (h3 i hi).1
  · obtain ⟨i, hi, rfl⟩ := List.getElem_of_mem ho
    refine (h3 i hi).2.1 ?_
    rcases hk.four with ⟨e0, _⟩ | ⟨e0, _⟩ | ⟨_, e⟩ | ⟨_, _, e0, _⟩
    · rw [e0] at hz; exact absurd hz (by decide)
    · rw [e0] at hz; exact absurd hz (by decide)
    · have h1' : os.length = 1 := by rw [h1, e]; rfl
      have : i = 0 := by omega
      subst this
      simp [e]
    · exact absurd hz e0
end S
end Go.Proofs.YtncnogndopgknaaGreatDoor
