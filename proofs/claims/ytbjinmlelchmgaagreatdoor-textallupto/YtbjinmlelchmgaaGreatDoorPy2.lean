/- The law's plays (11): kind 2 (Words). -/
import Derived.Test.YtbjinmlelchmgaaGreatDoorPy5
import Derived.Test.YtbjinmlelchmgaaGreatDoorRfC
import Derived.Test.YtbjinmlelchmgaaGreatDoorWrd3
namespace Go.Proofs.YtbjinmlelchmgaaGreatDoor
open Go.RowKit
def okN (m : Nat) : Nat ⊕ List T.Wd → Prop
  | .inl _ => True
  | .inr ws => ws.length ≤ m
theorem okN_cons {m k : Nat} {w : T.Wd} {r : Nat ⊕ List T.Wd} (h : okN m r) (hk : m + 1 ≤ k) : okN k (T.cons w r) := by
  cases r with
  | inl x => trivial
  | inr ws => show (w :: ws).length ≤ k; have : ws.length ≤ m := h; simp; omega
theorem okN_mono {m k : Nat} {r : Nat ⊕ List T.Wd} (h : okN m r) (hk : m ≤ k) : okN k r := by
  cases r with
  | inl x => trivial
  | inr ws => exact Nat.le_trans h hk
theorem rd_len (l : List UInt8) (p : Nat) : okN l.length (T.rd l p) := by
  induction h : l.length using Nat.strongRecOn generalizing l p with
  | _ n ih =>
    subst h
    cases l with
    | nil => rw [T.rd_nil]; exact Nat.le_refl _
    | cons c t =>
      cases hg : T.isGap c with
      | true =>
        rw [T.rd_gap t p hg]
        exact okN_mono (ih t.length (by simp) t (p + 1) rfl) (by simp)
      | false =>
        by_cases h35 : c.toNat = 35
        · rw [T.rd_hash t p hg h35]; exact Nat.zero_le _
        · by_cases h34 : c.toNat = 34
          · cases hq : T.unq t with
            | inl x =>
              rw [T.rd_bad t p x hg h34 hq]
              trivial
            | inr y =>
              obtain ⟨b, m⟩ := y
              cases hp : T.parted (t.drop m) with
              | false =>
                rw [T.rd_joined t b p m hg h34 hq hp]
                trivial
              | true =>
                rw [T.rd_quoted t b p m hg h34 hq hp]
                exact okN_cons (ih (t.drop m).length (by simp; omega) (t.drop m) (p + 1 + m) rfl) (by simp)
          · rw [T.rd_plain t p hg h35 h34]
            have h1 := T.plainN_pos t hg
            have h2 := T.plainN_le (c :: t)
            exact okN_cons (ih ((c :: t).drop (T.plainN (c :: t))).length (by simp; omega) ((c :: t).drop (T.plainN (c :: t))) (p + T.plainN (c :: t)) rfl) (by rw [List.length_drop]; omega)
theorem wdsC_get : ∀ (ws : List T.Wd) (i r : Nat) (h : i < ws.length) (_ : r < 3), (wdsC ws)[i * 3 + r]? = (wdC ws[i])[r]?
  | w :: ws, 0, r, _, hr => by
    simp only [wdsC, List.map_cons, List.flatten_cons, Nat.zero_mul, Nat.zero_add, List.getElem_cons_zero]
    rw [List.getElem?_append_left (by simpa [wdC] using hr)]
  | w :: ws, i + 1, r, h, hr => by
    have ih := wdsC_get ws i r (by simpa using h) hr
    simp only [wdsC, List.map_cons, List.flatten_cons, List.getElem_cons_succ] at ih ⊢
    rw [List.getElem?_append_right (by simp [wdC]; omega), show (i + 1) * 3 + r - (wdC w).length = i * 3 + r from by simp [wdC]; omega]
    exact ih
theorem own_wds {w : World} {B : Nat} {e : TypeId} {v : Value} {ws : List T.Wd} (h : w.ownsRow B e 3 v ws.length (wdsC ws)) : ∃ ao cap, v = .slice ao ws.length cap ∧ WdsAt w ao ws := by
  rcases h.2 with ⟨hv, h0⟩ | ⟨g, cap, cur, h1, h2, h3, _⟩
  · exact ⟨none, 0, by rw [h0]; exact hv, .inl (List.eq_nil_of_length_eq_zero h0)⟩
  · subst h1
    refine ⟨_, cap, rfl, .inr ⟨g, 0, rfl, (Array.getElem?_eq_some_iff.1 h3).1, fun i hi => ?_⟩⟩
    have key : ∀ r (hr : r < 3) u, (wdC ws[i])[r]? = some u → w.cell? ⟨g, 0 + i * 3 + r, none⟩ = some u := by
      intro r hr u hu
      have := h.cells (g := g) rfl (i * 3 + r) u (by rw [wdsC_get ws i r hi hr]; exact hu)
      rw [Addr.add_mid] at this
      rw [Nat.add_assoc]
      exact this
    exact ⟨key 0 (by omega) _ rfl, key 1 (by omega) _ rfl, key 2 (by omega) _ rfl⟩
theorem WdsAt.on {W w : World} {ao : Option Addr} {l : List T.Wd} (h : WdsAt W ao l) (hb : Below W.heap.size W w) : WdsAt w ao l := by
  rcases h with h0 | ⟨b, o, e, hlt, hc⟩
  · exact .inl h0
  · refine .inr ⟨b, o, e, Nat.lt_of_lt_of_le hlt hb.size, fun i hi => ?_⟩
    obtain ⟨h1, h2, h3⟩ := hc i hi
    exact ⟨by rw [hb.cell (p := ⟨b, _, none⟩) hlt]; exact h1, by rw [hb.cell (p := ⟨b, _, none⟩) hlt]; exact h2, by rw [hb.cell (p := ⟨b, _, none⟩) hlt]; exact h3⟩
set_option maxRecDepth 40000 in
set_option maxHeartbeats 2000000 in
theorem plays2 (W : World) (s : ByteArray) (p u i : Int) (ab ar : Option Addr) (nb cb nr cr : Nat) (hs : s.size ≤ 1000000000) :
    Calls Tryz.prog 11 #[.agg #[.int .i64 2, .string s, .int .i64 p, .slice ab nb cb, .int .u32 u, .int .i32 i, .slice ar nr cr]] W fun e w' => e = .returned (.bool true) ∧ Below W.heap.size W w' := by
  have H1 : Hid (∀ w, Calls Tryz.prog 19 #[.string s] w fun e w' => RwPost w (T.rd s.data.toList 0) e w') := hid (fun w => rwords_any w s hs)
  have H2 : Hid (∀ w, Calls Tryz.prog 13 #[.string s] w fun e w' => WsPost w (T.rd s.data.toList 0) e w') := hid (fun w => words_any w s hs)
  have hN := rd_len s.data.toList 0
  rw [size_list] at hN
  generalize T.rd s.data.toList 0 = r at *
  cases r with
  | inl x =>
    have H3 : Hid (∀ w, Calls Tryz.prog 27 #[.slice none 0 0, .slice none 0 0] w fun e w' => e = .returned (.bool true) ∧ Below w.heap.size w w') := hid (fun w => sameWords_any w none none 0 0 0 [] rfl (by decide) (.inl rfl) (.inl rfl))
    clear hs hN
    go_enter Tryz.func11, Tryz.ntmps11
    go_wp2_with fail
    refine (H1.out _).mono ?_
    rintro e w1 ⟨rfl, hb1⟩
    have hc := box_cell hb1 1 (.string s) rfl
    have x1 : Hid (Below W.heap.size W w1) := hid (box_up hb1)
    clear hb1
    go_wp2_with fail
    refine (H2.out _).mono ?_
    rintro e w2 ⟨rfl, hb2⟩
    have x2 : Hid (Below W.heap.size W w2) := hid (x1.out.trans (hb2.mono x1.out.size))
    clear hb2 hc
    go_wp2_with fail
    refine (H3.out _).mono ?_
    rintro e w3 ⟨rfl, hb3⟩
    have x3 : Hid (Below W.heap.size W w3) := hid (x2.out.trans (hb3.mono x2.out.size))
    clear hb3
    go_wp2_with fail
    go_ret
    exact ⟨rfl, x3.out⟩
  | inr ws =>
    have hN' : ws.length ≤ s.size := hN
    have H3 : Hid (∀ w a1 a2 p1 p2, WdsAt w a1 ws → WdsAt w a2 ws → Calls Tryz.prog 27 #[.slice a1 ws.length p1, .slice a2 ws.length p2] w fun e w' => e = .returned (.bool true) ∧ Below w.heap.size w w') := hid (fun w a1 a2 p1 p2 h1 h2 => sameWords_any w a1 a2 _ p1 p2 ws rfl (by omega) h1 h2)
    clear hs hN hN'
    go_enter Tryz.func11, Tryz.ntmps11
    go_wp2_with fail
    refine (H1.out _).mono ?_
    rintro e w1 ⟨v1, rfl, F1⟩
    have hc := box_cell F1.below 1 (.string s) rfl
    have x1 : Hid (Below W.heap.size W w1) := hid (box_up F1.below)
    obtain ⟨a1, c1, rfl, hs1⟩ := own_wds F1.own
    have S1 : Hid (WdsAt w1 a1 ws) := hs1
    clear F1 hs1
    go_wp2_with fail
    refine (H2.out _).mono ?_
    rintro e w2 ⟨v2, rfl, F2⟩
    have x2 : Hid (Below W.heap.size W w2) := hid (x1.out.trans (F2.below.mono x1.out.size))
    obtain ⟨a2, c2, rfl, hs2⟩ := own_wds F2.own
    have S2 : Hid (WdsAt w2 a2 ws) := hs2
    have S3 : Hid (WdsAt w2 a1 ws) := hid (S1.out.on F2.below)
    clear F2 hs2 hc
    go_wp2_with fail
    refine (H3.out _ _ _ _ _ S2.out S3.out).mono ?_
    rintro e w3 ⟨rfl, hb3⟩
    have x3 : Hid (Below W.heap.size W w3) := hid (x2.out.trans (hb3.mono x2.out.size))
    clear hb3
    go_wp2_with fail
    go_ret
    exact ⟨rfl, x3.out⟩
end Go.Proofs.YtbjinmlelchmgaaGreatDoor
