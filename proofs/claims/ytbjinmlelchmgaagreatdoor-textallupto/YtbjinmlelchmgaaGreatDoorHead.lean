/- What everybody can see (6). -/
import Derived.Test.YtbjinmlelchmgaaGreatDoorWrd3
import Derived.Test.YtbjinmlelchmgaaGreatDoorFmt
import Derived.Lib.AppendIntMem
namespace Go.Proofs.YtbjinmlelchmgaaGreatDoor
open Go.RowKit

theorem PowTab.on {W w : World} (h : PowTab W) (hb : Below W.heap.size W w) : PowTab w := Lib.tabBelow_of_tabIs h w hb
theorem numbers_any (w : World) : Calls Tryz.prog 28 #[] w fun e w' => e = .returned (.bool true) ∧ w = w' := by
  go_enter Tryz.func28, Tryz.ntmps28
  go_wp2
  go_ret
  exact ⟨rfl, rfl⟩
theorem rd_head : T.rd [97, 32, 34, 98, 34] 0 = .inr [⟨[97], false, 1⟩, ⟨[98], true, 3⟩] := by
  rw [T.rd_plain _ _ (by decide) (by decide) (by decide)]
  rw [show T.plainN [97, 32, 34, 98, 34] = 1 from by decide]
  simp only [List.drop_succ_cons, List.drop_zero]
  rw [T.rd_gap _ _ (by decide)]
  rw [T.rd_quoted (c := 34) [98, 34] [98] _ 2 (by decide) (by decide) (by rw [T.unq_self _ _ (by decide), T.unq_end _ _ (by decide)]; rfl) (by decide)]
  simp only [List.drop_succ_cons, List.drop_zero]
  rw [T.rd_nil]
  rfl
/-- The cells of a word. -/
theorem HW.cells {W w : World} {v : Value} {ws : List T.Wd} (h : HW W w v ws) (i : Nat) (hi : i < ws.length) : ∃ g cap, v = .slice (some ⟨g, 0, none⟩) ws.length cap ∧ w.cell? ⟨g, i * 3, none⟩ = some (.string ⟨ws[i].text.toArray⟩) ∧ w.cell? ⟨g, i * 3 + 1, none⟩ = some (.bool ws[i].quoted) ∧ w.cell? ⟨g, i * 3 + 2, none⟩ = some (.int .i64 (ws[i].col : Int)) := by
  rcases h.own.2 with ⟨_, h0⟩ | ⟨g, cap, cur, hv, _⟩
  · omega
  · refine ⟨g, cap, hv, ?_⟩
    have hc := h.own.cells (g := g) (by rw [hv]; rfl)
    have key : ∀ o, o < 3 → (wdsC ws)[i * 3 + o]? = (wdC ws[i])[o]? := by
      intro o ho
      have : ∀ (ws : List T.Wd) (i : Nat) (hi : i < ws.length), (wdsC ws)[i * 3 + o]? = (wdC ws[i])[o]? := by
        intro ws
        induction ws with
        | nil => intro i hi; simp at hi
        | cons w ws ih =>
          intro i hi
          rw [show wdsC (w :: ws) = wdC w ++ wdsC ws from by simp [wdsC]]
          cases i with
          | zero => rw [List.getElem?_append_left (by simp [wdC]; omega)]; simp
          | succ i =>
            rw [List.getElem?_append_right (by simp [wdC]; omega), show (wdC w).length = 3 from rfl, show (i + 1) * 3 + o - 3 = i * 3 + o from by omega, ih i (by simpa using hi)]
            simp
      exact this ws i hi
    refine ⟨?_, ?_, ?_⟩
    · have := hc (i * 3 + 0) _ (by rw [key 0 (by omega)]; rfl)
      rw [Addr.add_mid] at this
      simpa using this
    · have := hc (i * 3 + 1) _ (by rw [key 1 (by omega)]; rfl)
      rw [Addr.add_mid] at this
      simpa using this
    · have := hc (i * 3 + 2) _ (by rw [key 2 (by omega)]; rfl)
      rw [Addr.add_mid] at this
      simpa using this
set_option maxRecDepth 20000 in
set_option maxHeartbeats 1000000 in
theorem head_any (W : World) (htab : PowTab W) : Calls Tryz.prog 10 #[] W fun e w' => e = .returned (.bool true) ∧ Below W.heap.size W w' := by
  have HW : Hid (Calls Tryz.prog 13 #[.string ⟨#[97, 32, 34, 98, 34]⟩] W fun e W' => ∃ g cap, e = .returned (.tuple #[.slice (some ⟨g, 0, none⟩) 2 cap, .int .i64 0, .int .i64 0]) ∧ Below W.heap.size W W' ∧ W'.cell? ⟨g, 3, none⟩ = some (.string ⟨#[98]⟩) ∧ W'.cell? ⟨g, 4, none⟩ = some (.bool true) ∧ W'.cell? ⟨g, 5, none⟩ = some (.int .i64 3)) := hid (by
    refine (words_any W ⟨#[97, 32, 34, 98, 34]⟩ (by decide)).mono ?_
    intro e W' h
    rw [show (⟨#[97, 32, 34, 98, 34]⟩ : ByteArray).data.toList = [97, 32, 34, 98, 34] from rfl, rd_head] at h
    obtain ⟨v, rfl, h⟩ := h
    obtain ⟨g, cap, rfl, c0, c1, c2⟩ := h.cells 1 (by decide)
    exact ⟨g, cap, rfl, h.below, c0, c1, c2⟩)
  have HT : Hid (∀ w, PowTab w → Calls Tryz.prog 29 #[.int .u32 10] w fun e w' => e = .returned (.string ⟨#[49, 48]⟩) ∧ Below w.heap.size w w') := hid (fun w h => by
    refine (tens_text 10 (by decide) w h).mono ?_
    rintro e w' ⟨rfl, hb⟩
    refine ⟨?_, hb⟩
    rw [show Lib.decDigits 10 = [49, 48] from by rw [Lib.decDigits_two (by decide) (by decide)]; rfl])
  have HP : Hid (PowTab W) := htab
  clear htab
  go_enter Tryz.func10, Tryz.ntmps10
  go_wp2_with fail
  refine HW.out.mono ?_
  rintro e w1 ⟨g, cap, rfl, hb, c0, c1, c2⟩
  go_wp2_with fail
  refine (numbers_any _).mono ?_
  rintro e w2 ⟨rfl, rfl⟩
  go_wp2_with fail
  refine (HT.out _ (HP.out.on hb)).mono ?_
  rintro e w2 ⟨rfl, hb2⟩
  go_wp2_with fail
  go_ret
  exact ⟨rfl, hb.trans (hb2.mono hb.size)⟩
end Go.Proofs.YtbjinmlelchmgaaGreatDoor
