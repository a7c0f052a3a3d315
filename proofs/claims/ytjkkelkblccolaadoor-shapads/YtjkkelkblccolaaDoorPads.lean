import Derived.Test.YtjkkelkblccolaaDoorMath2
namespace Go.Proofs.YtjkkelkblccolaaDoor
open Go.RowKit

theorem sumB_length (bs : List Int) : (sumB bs).length = 8 := run_length _ _ (run_length _ _ rfl _) _
/-- The two ways to sum bytes. -/
theorem chain_at (W w : World) (hT : Tab W) (h2 : 2 < W.heap.size) (hw : Below W.heap.size W w) (ao : Option Addr) (m c : Nat) (bs : List Int) (hx : bs.length = m) (hbs : Bts bs) (hat : At w .u8 ao bs) (hm : m ≤ 140737488351232) :
    Calls Tryd.prog 13 #[.slice ao m c] w fun e w' => ∃ ao' q cap', e = .returned (.slice ao' (64 * q) cap') ∧ Below W.heap.size W w' ∧
      (∀ w'', Below w'.heap.size w' w'' → Calls Tryd.prog 12 #[.slice ao' (64 * q) cap'] w'' fun e w3 => e = .returned (.agg ((sumB bs).map (Value.int .u32)).toArray) ∧ Below w.heap.size w w3) ∧ Below w.heap.size w w' := by
  obtain ⟨q, hq, hs⟩ := sumB_chain bs (by omega)
  have hlen : (padB bs).length = m + 1 + bz m + 8 := by simp [padB, lenB_length, hx]; omega
  have hbz : bz m < 64 := Nat.mod_lt _ (by decide)
  refine (padded_any w ao m c bs hx hat hm).mono ?_
  rintro e w' ⟨v, rfl, F⟩
  obtain ⟨ao', cap', rfl, hc', hat', _⟩ := F.at'
  rw [hq]
  refine ⟨ao', q, cap', rfl, hw.trans (F.below.mono hw.size), fun w'' hw'' => ?_, F.below⟩
  have hsz := hw.size
  have hsz' := F.below.size
  have hsz'' := hw''.size
  have hW'' : Below W.heap.size W w'' := hw.trans ((F.below.mono hsz).trans (hw''.mono (by omega)))
  refine (chained_any w'' (hT.below hW'' h2) (by omega) ao' q cap' (padB bs) hq (padB_bts hbs) (hat'.below hw'') (by omega)).mono ?_
  rintro e w3 ⟨rfl, hb⟩
  rw [hs]
  exact ⟨rfl, F.below.trans ((hw''.mono hsz').trans (hb.mono (by omega)))⟩

set_option maxRecDepth 20000 in
set_option maxHeartbeats 1000000 in
theorem pads_any (W : World) (hT : Tab W) (h2 : 2 < W.heap.size) (ab : Option Addr) (mb cb : Nat) (bs : List Int) (hb1 : bs.length = mb) (hb2 : Bts bs) (hb3 : At W .u8 ab bs) (hb4 : mb ≤ cb) (hb5 : mb ≤ 140737488351232)
    (aw : Option Addr) (mw cw : Nat) (xs : List Int) (hx1 : xs.length = mw) (hx2 : Wds xs) (hx3 : At W .u32 aw xs) (hx5 : 4 * mw ≤ 140737488351232) :
    Calls Tryd.prog 3 #[.slice ab mb cb, .slice aw mw cw] W fun e W' => e = .returned (.bool true) ∧ Below W.heap.size W W' := by
  have C9 : Hid (Calls Tryd.prog 9 #[.slice aw mw cw] W fun e w1 => ∃ ao' cap', e = .returned (.slice ao' (4 * mw) cap') ∧ 4 * mw ≤ cap' ∧ At w1 .u8 ao' (bytesD xs) ∧ Below W.heap.size W w1) := by
    refine (bytesOf_any W aw mw cw xs hx1 hx3 hx5).mono ?_
    rintro e w1 ⟨v, rfl, F⟩
    obtain ⟨ao', cap', rfl, hc', hat', _⟩ := F.at'
    rw [bytesD_length, hx1] at hc' ⊢
    exact ⟨ao', cap', rfl, hc', hat', F.below⟩
  have hyl : (bytesD xs).length = 4 * mw := by rw [bytesD_length, hx1]
  have C10 : Hid (∀ w1 w : World, Below W.heap.size W w1 → Below w1.heap.size w1 w → Calls Tryd.prog 10 #[] w fun e w' => e = .returned (.bool true) ∧ Below w1.heap.size w1 w') := fun w1 w h1 hw => by
    have := h1.size
    have := hw.size
    have hW := h1.trans (hw.mono h1.size)
    refine (abc_any w (hT.below hW h2) (by omega)).mono ?_
    rintro e w' ⟨rfl, hb⟩
    exact ⟨rfl, hw.trans (hb.mono hw.size)⟩
  have C11b : Hid (∀ w1 w : World, Below W.heap.size W w1 → Below w1.heap.size w1 w → Calls Tryd.prog 11 #[.slice ab mb cb] w fun e w' => e = .returned (.agg ((sumB bs).map (Value.int .u32)).toArray) ∧ Below w1.heap.size w1 w') := fun w1 w h1 hw => by
    have := h1.size
    have := hw.size
    have hW := h1.trans (hw.mono h1.size)
    have := sumBytes_any w (hT.below hW h2) (by omega) ab mb cb bs hb1 hb2 (hb3.below hW) hb4 hb5
    rw [← hb1] at this ⊢
    refine this.mono ?_
    rintro e w' ⟨rfl, hb⟩
    exact ⟨rfl, hw.trans (hb.mono hw.size)⟩
  have C14 : Hid (∀ w1 w : World, Below W.heap.size W w1 → Below w1.heap.size w1 w → Calls Tryd.prog 14 #[.slice aw mw cw] w fun e w' => e = .returned (.agg ((sumB (bytesD xs)).map (Value.int .u32)).toArray) ∧ Below w1.heap.size w1 w') := fun w1 w h1 hw => by
    have := h1.size
    have := hw.size
    have hW := h1.trans (hw.mono h1.size)
    have := sum_any w (hT.below hW h2) (by omega) aw mw cw xs hx1 (hx3.below hW) (by omega)
    rw [← sumW_eq xs hx2]
    rw [← hx1] at this ⊢
    refine this.mono ?_
    rintro e w' ⟨rfl, hb⟩
    exact ⟨rfl, hw.trans (hb.mono hw.size)⟩
  have C13b : Hid (∀ w1 w : World, Below W.heap.size W w1 → Below w1.heap.size w1 w → Calls Tryd.prog 13 #[.slice ab mb cb] w fun e w' => ∃ ao' q cap', e = .returned (.slice ao' (64 * q) cap') ∧ Below w1.heap.size w1 w' ∧ (∀ w'', Below w'.heap.size w' w'' → Calls Tryd.prog 12 #[.slice ao' (64 * q) cap'] w'' fun e w3 => e = .returned (.agg ((sumB bs).map (Value.int .u32)).toArray) ∧ Below w1.heap.size w1 w3)) := fun w1 w h1 hw => by
    have hW := h1.trans (hw.mono h1.size)
    refine (chain_at W w hT h2 hW ab mb cb bs hb1 hb2 (hb3.below hW) hb5).mono ?_
    rintro e w' ⟨ao', q, cap', rfl, _, hC, hb⟩
    refine ⟨ao', q, cap', rfl, hw.trans (hb.mono hw.size), fun w'' hw'' => (hC w'' hw'').mono ?_⟩
    rintro e w3 ⟨rfl, hb3'⟩
    exact ⟨rfl, hw.trans (hb3'.mono hw.size)⟩
  have C13w : Hid (∀ w1 w : World, ∀ ao cap, Below W.heap.size W w1 → At w1 .u8 ao (bytesD xs) → Below w1.heap.size w1 w → Calls Tryd.prog 13 #[.slice ao (4 * mw) cap] w fun e w' => ∃ ao' q cap', e = .returned (.slice ao' (64 * q) cap') ∧ Below w1.heap.size w1 w' ∧ (∀ w'', Below w'.heap.size w' w'' → Calls Tryd.prog 12 #[.slice ao' (64 * q) cap'] w'' fun e w3 => e = .returned (.agg ((sumB (bytesD xs)).map (Value.int .u32)).toArray) ∧ Below w1.heap.size w1 w3)) := fun w1 w ao cap h1 ha hw => by
    have hW := h1.trans (hw.mono h1.size)
    refine (chain_at W w hT h2 hW ao (4 * mw) cap (bytesD xs) hyl (bytesD_bts xs) (ha.below hw) hx5).mono ?_
    rintro e w' ⟨ao', q, cap', rfl, _, hC, hb⟩
    refine ⟨ao', q, cap', rfl, hw.trans (hb.mono hw.size), fun w'' hw'' => (hC w'' hw'').mono ?_⟩
    rintro e w3 ⟨rfl, hb3'⟩
    exact ⟨rfl, hw.trans (hb3'.mono hw.size)⟩
  have C11w : Hid (∀ w1 w : World, ∀ ao cap, Below W.heap.size W w1 → At w1 .u8 ao (bytesD xs) → 4 * mw ≤ cap → Below w1.heap.size w1 w → Calls Tryd.prog 11 #[.slice ao (4 * mw) cap] w fun e w' => e = .returned (.agg ((sumB (bytesD xs)).map (Value.int .u32)).toArray) ∧ Below w1.heap.size w1 w') := fun w1 w ao cap h1 ha hc hw => by
    have := h1.size
    have := hw.size
    have hW := h1.trans (hw.mono h1.size)
    have := sumBytes_any w (hT.below hW h2) (by omega) ao (4 * mw) cap (bytesD xs) hyl (bytesD_bts xs) (ha.below hw) hc hx5
    rw [← hyl] at this ⊢
    refine this.mono ?_
    rintro e w' ⟨rfl, hb⟩
    exact ⟨rfl, hw.trans (hb.mono hw.size)⟩
  have e1 := eq27 (sumB bs) (sumB bs) (sumB_length _) (sumB_length _)
  have e2 := eq27 (sumB (bytesD xs)) (sumB (bytesD xs)) (sumB_length _) (sumB_length _)
  rw [decide_eq_true rfl] at e1 e2
  generalize sumB bs = M at *
  generalize sumB (bytesD xs) = M' at *
  clear hb1 hb2 hb3 hb4 hb5 hx1 hx2 hx3 hx5 hT
  go_enter Tryd.func3, Tryd.ntmps3
  go_wp2_with fail
  refine C9.out.mono ?_
  rintro e w1 ⟨ao, cap, rfl, hc, hat, h1⟩
  go_wp2_with fail
  refine (C10.out w1 _ h1 (Below.refl _ _)).mono ?_
  rintro e w2 ⟨rfl, h2'⟩
  go_wp2_with fail
  refine (C11b.out w1 _ h1 h2').mono ?_
  rintro e w3 ⟨rfl, h3⟩
  go_wp2_with fail
  refine (C13b.out w1 _ h1 h3).mono ?_
  rintro e w4 ⟨a4, q4, c4, rfl, h4, hC4⟩
  go_wp2_with fail
  refine (hC4 _ (Below.refl _ _)).mono ?_
  rintro e w5 ⟨rfl, h5⟩
  clear hC4 h4 h3 h2' C10 C11b C13b
  go_wp2_with fail
  refine (C14.out w1 _ h1 h5).mono ?_
  rintro e w6 ⟨rfl, h6⟩
  go_wp2_with fail
  refine (C13w.out w1 _ _ _ h1 hat h6).mono ?_
  rintro e w7 ⟨a7, q7, c7, rfl, h7, hC7⟩
  go_wp2_with fail
  refine (hC7 _ (Below.refl _ _)).mono ?_
  rintro e w8 ⟨rfl, h8⟩
  clear hC7 h7 h6 h5 C13w
  go_wp2_with fail
  refine (C14.out w1 _ h1 h8).mono ?_
  rintro e w9 ⟨rfl, h9⟩
  go_wp2_with fail
  refine (C11w.out w1 _ _ _ h1 hat hc h9).mono ?_
  rintro e w10 ⟨rfl, h10⟩
  have HB : Hid (Below W.heap.size W w10) := h1.trans (h10.mono h1.size)
  clear h8 h9 h10 hat C14 C11w
  go_wp2
  go_ret
  exact ⟨rfl, HB.out⟩
end Go.Proofs.YtjkkelkblccolaaDoor
