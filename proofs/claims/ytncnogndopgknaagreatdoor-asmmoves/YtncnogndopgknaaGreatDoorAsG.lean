/- What waits for its label: pure facts. -/
import Derived.Test.YtncnogndopgknaaGreatDoorAsF
namespace Go.Proofs.YtncnogndopgknaaGreatDoor
open Go.RowKit
namespace S
structure Lok (n : Nat) (t : Lt) : Prop where
  place : t.place < n
  kind : t.k.name ≠ zeroN
  lab : (t.ops.getD t.at' ⟨0, [], 0⟩).lab.length ≤ 1000000000
theorem Lok.mono {n m : Nat} {t : Lt} (h : Lok n t) (hm : n ≤ m) : Lok m t := ⟨Nat.lt_of_lt_of_le h.place hm, h.kind, h.lab⟩
theorem readOperand_lab {l : Nat} {w : T.Wd} {o : Opn} (h : readOperand l w = some o) : o.lab = [] ∨ o.lab = w.text := by
  unfold readOperand at h
  split at h
  · cases h
  · split at h
    · cases h; exact .inr rfl
    · cases hr : readNumber l w.text with
      | none => rw [hr] at h; cases h
      | some v => rw [hr] at h; cases h; exact .inl rfl
theorem rdOps_lab {nc : Nat} : ∀ {L : List Nat} {rs : List T.Wd} {os : List Opn}, rdOps nc L rs = .inr os → ∀ o ∈ os, o.lab = [] ∨ ∃ w ∈ rs, o.lab = w.text
  | [], [], _, h, o, ho => by cases h; cases ho
  | [], _ :: _, _, h, _, _ => by cases h
  | _ :: _, [], _, h, _, _ => by cases h
  | l :: ls, w :: ws, os, h, o, ho => by
    unfold rdOps at h
    cases hr : readOperand l w with
    | none => rw [hr] at h; cases h
    | some x =>
      rw [hr] at h
      cases hq : rdOps nc ls ws with
      | inl f => rw [hq] at h; cases h
      | inr os' =>
        rw [hq] at h
        cases h
        rcases List.mem_cons.1 ho with rfl | ho
        · exact (readOperand_lab hr).imp id fun e => ⟨w, by simp, e⟩
        · exact (rdOps_lab hq o ho).imp id fun ⟨w', hw, e⟩ => ⟨w', by simp [hw], e⟩
theorem words_pos {k : Kd} {os : List Opn} (h : k.name ≠ zeroN) : 0 < (words k os).length := by
  unfold words
  split
  · exact Nat.zero_lt_succ _
  · split
    · exact Nat.zero_lt_succ _
    · exact Nat.zero_lt_succ _
theorem stmt_lok {line : Nat} {st st' : St} {name : T.Wd} {rest : List T.Wd} (h : stmt line st name rest = .inr st') (hw : ∀ w ∈ rest, w.text.length ≤ 1000000000) (hl : ∀ t ∈ st.lat, Lok st.ws.length t) : (∀ t ∈ st'.lat, Lok st'.ws.length t) ∧ st'.lat.length ≤ st.lat.length + 3 ∧ st'.labs = st.labs := by
  unfold stmt at h
  cases hk : kindOf name.text with
  | none => rw [hk] at h; cases h
  | some k =>
    rw [hk] at h
    simp only at h
    split at h
    · cases h
    · split at h
      · cases h
      · cases hr : rdOps name.col (k.shape.map (·.toNat)) rest with
        | inl f => rw [hr] at h; cases h
        | inr os =>
          rw [hr] at h
          simp only at h
          split at h
          · cases h
          · cases h
            have hko := kindOf_ok hk
            have hos := rdOps_ok hr
            have h3 := (shape6 hko).1
            refine ⟨fun t ht => ?_, ?_, rfl⟩
            · rcases List.mem_append.1 ht with ht | ht
              · exact (hl t ht).mono (by show st.ws.length ≤ (st.ws ++ words k os).length; simp)
              · unfold lats at ht
                obtain ⟨i, hi, rfl⟩ := List.mem_map.1 ht
                obtain ⟨hi1, hi2⟩ := List.mem_filter.1 hi
                have hio : i < os.length := List.mem_range.1 hi1
                have hi3 : (os.getD i ⟨0, [], 0⟩).lab ≠ [] := by simpa using hi2
                have hgd : os.getD i ⟨0, [], 0⟩ = os[i] := by rw [List.getD_eq_getElem?_getD, List.getElem?_eq_getElem hio, Option.getD_some]
                rw [hgd] at hi3
                have hnz : k.name ≠ zeroN := by
                  intro hz'
                  have hsh : k.shape = [110] := by
                    rcases hko.four with ⟨a, b⟩ | ⟨a, b⟩ | ⟨a, b⟩ | ⟨_, _, a, b⟩
                    · rw [a] at hz'; exact absurd hz' (by decide)
                    · rw [a] at hz'; exact absurd hz' (by decide)
                    · exact b
                    · exact absurd hz' a
                  have hLi : i < (k.shape.map (·.toNat)).length := by rw [← hos.1]; exact hio
                  have := (hos.2 i hio hLi).2.2 hi3
                  have h110 : (k.shape.map (·.toNat))[i] = 110 := by
                    have : ∀ x ∈ k.shape.map (·.toNat), x = 110 := by rw [hsh]; simp
                    exact this _ (List.getElem_mem _)
                  omega
                refine ⟨?_, hnz, ?_⟩
                · show st.ws.length < (st.ws ++ words k os).length
                  have := words_pos hnz (os := os)
                  rw [List.length_append]; omega
                · show (os.getD i ⟨0, [], 0⟩).lab.length ≤ _
                  rw [hgd]
                  rcases rdOps_lab hr os[i] (List.getElem_mem _) with e | ⟨w, hwm, e⟩
                  · rw [e]; simp
                  · rw [e]; exact hw w hwm
            · show (st.lat ++ lats k os st.ws.length line).length ≤ _
              rw [List.length_append]
              have : (lats k os st.ws.length line).length ≤ os.length := by
                unfold lats
                rw [List.length_map]
                exact Nat.le_trans (List.length_filter_le _ _) (by simp)
              have := hos.1
              simp only [List.length_map] at this
              omega
theorem lay_lok {line : Nat} : ∀ {ws : List T.Wd} {st st' : St}, lay line st ws = .inr st' → (∀ w ∈ ws, w.text.length ≤ 1000000000) → (∀ t ∈ st.lat, Lok st.ws.length t) → (∀ t ∈ st'.lat, Lok st'.ws.length t) ∧ st'.lat.length ≤ st.lat.length + 3 ∧ st'.labs.length ≤ st.labs.length + ws.length
  | [], st, st', h, _, hl => by cases h; exact ⟨hl, by omega, by simp⟩
  | w :: ws, st, st', h, hw, hl => by
    unfold lay at h
    split at h
    · split at h
      · split at h
        · cases h
        · have := lay_lok h (fun v hv => hw v (by simp [hv])) hl
          refine ⟨this.1, this.2.1, ?_⟩
          have h2 := this.2.2
          simp only [List.length_append, List.length_cons, List.length_nil] at h2 ⊢
          omega
      · cases h
    · have := stmt_lok h (fun v hv => hw v (by simp [hv])) hl
      exact ⟨this.1, this.2.1, by rw [this.2.2]; omega⟩
theorem over_len {ws xs : List Nat} {p : Nat} (h : p ≤ ws.length) : (over ws p xs).length = ws.length := by
  unfold over
  simp only [List.length_append, List.length_take, List.length_drop]
  omega
end S
end Go.Proofs.YtncnogndopgknaaGreatDoor
