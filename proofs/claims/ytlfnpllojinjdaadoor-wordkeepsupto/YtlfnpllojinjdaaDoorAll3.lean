import Derived.Test.YtlfnpllojinjdaaDoorAll1
namespace Go.Proofs.YtlfnpllojinjdaaDoor
open Go.RowKit

theorem words_at (W : World) (ao : Option Addr) (n cap : Nat) (bs : List Int) (hl : bs.length = 4 * n) (hbs : Bts bs) (h1 : At W .u8 ao bs) (hn : 4 * n ≤ 1048576) :
    Calls Tryd.prog 16 #[.slice ao (4 * n) cap] W fun e W' => e = .returned (.tuple #[.slice (some ⟨W.heap.size, 0, none⟩) n n, .int .i64 0]) ∧ Owned W W' .u32 22 n (wordsD bs n) := by
  rcases h1 with rfl | ⟨b, off, rfl, hb, h1⟩
  · obtain rfl : n = 0 := by simp at hl; omega
    exact words_nil W ao cap
  · exact words_any W b off n cap bs hl hbs h1 hn hb
theorem box_cell {W w1 : World} {C : Array Value} {e : TypeId} (h : Below (W.alloc (.cells C e)).heap.size (W.alloc (.cells C e)) w1) (i : Nat) : w1.cell? ⟨W.heap.size, i, none⟩ = C[i]? := (h.cell (p := ⟨W.heap.size, i, none⟩) (by simp)).trans (cell_new W C e i)
theorem Owned.at {W wr : World} {k : IntKind} {e : TypeId} {N : Nat} {L : List Int} (h : Owned W wr k e N L) : At wr k (some ⟨W.heap.size, 0, none⟩) L := .inr ⟨_, _, rfl, h.lt, h.row⟩
theorem after_box {W w1 : World} {o : Obj} (h : Below (W.alloc o).heap.size (W.alloc o) w1) : Below W.heap.size W w1 := (below_one W o).trans (h.mono (by simp))
set_option maxRecDepth 100000 in
set_option maxHeartbeats 1000000 in
theorem texts2 (W : World) (_hT : Tab W) (_h0 : 0 < W.heap.size) (o : OpV) (ok : o.Ok W) :
    Calls Tryd.prog 43 #[.agg (o.cells 2)] W fun e W' => e = .returned (.bool true) ∧ Below W.heap.size W W' := by
  obtain ⟨⟨a0, a1⟩, -, -, -, -, -, -, -, -, -, -, -, -, -, bl, bw, ba, bb, -⟩ := ok
  obtain ⟨a, b, c, d, n, m, lao, ln, lc, lx, pao, pn, pc, px, bao, bn, bc, bx, s⟩ := o
  simp only [OpV.cells] at *
  have HB : Hid _ := below_one W (.cells #[.int .i64 2, .int .u32 a, .int .u32 b, .int .u32 c, .int .u32 d, .int .i64 n, .int .i64 m, .slice lao ln lc, .slice pao pn pc, .slice bao bn bc, .string s] 67)
  have ba' := ba.below HB.out
  by_cases h4 : bn % 4 = 0
  · obtain ⟨q, rfl⟩ : ∃ q, bn = 4 * q := ⟨bn / 4, by omega⟩
    go_enter Tryd.func43, Tryd.ntmps43
    go_wp2_with fail
    refine (rwords_any _ bao q bc bx bl bw ba' (by omega)).mono ?_
    rintro e w1 ⟨v, rfl, F⟩
    have hb1 := F.below
    have k9 := box_cell hb1 9
    simp at k9
    obtain ⟨ro, rc, hv, hr1⟩ := F.at
    have hwl : (wordsD bx q).length = q := partW_length _ _ _
    rw [hwl] at hv
    subst hv
    clear F
    go_wp2_with fail
    refine (words_at _ bao q bc bx bl bw (ba'.below hb1) (by omega)).mono ?_
    rintro e w2 ⟨rfl, F2⟩
    have hb2 := hb1.trans (F2.below.mono hb1.size)
    have hl2 := F2.at
    have hr2 := hr1.below F2.below
    clear F2
    go_wp2_with fail
    refine (lawSame_yes _ _ _ q _ _ (wordsD bx q) hwl hl2 hr2 (by omega)).mono ?_
    rintro e w3 ⟨rfl, q3, rfl⟩
    have HH : Hid _ := after_box hb2
    clear hb2 hb1 hl2 hr2 hr1 k9
    go_wp2
    go_ret
    exact ⟨rfl, below_drewN HH.out _⟩
  · go_enter Tryd.func43, Tryd.ntmps43
    go_wp2_with (first | (go_at_call 40; refine (rwords_part _ _ _ _ bb h4).mono ?_; rintro e w' ⟨rfl, rfl⟩) | (go_at_call 16; refine (words_part _ _ _ _ bb h4).mono ?_; rintro e w' ⟨rfl, rfl⟩))
    refine (lawSame_yes _ _ _ 0 _ _ [] rfl (.inl rfl) (.inl rfl) (by decide)).mono ?_
    rintro e w3 ⟨rfl, q3, rfl⟩
    go_wp2
    go_ret
    exact ⟨rfl, below_drewN HB.out _⟩
set_option maxRecDepth 100000 in
set_option maxHeartbeats 1000000 in
theorem texts4 (W : World) (_hT : Tab W) (_h0 : 0 < W.heap.size) (o : OpV) (ok : o.Ok W) :
    Calls Tryd.prog 43 #[.agg (o.cells 4)] W fun e W' => e = .returned (.bool true) ∧ Below W.heap.size W W' := by
  obtain ⟨⟨a0, a1⟩, -, -, -, -, -, -, -, -, -, -, -, -, -, -, -, -, -, sb⟩ := ok
  obtain ⟨a, b, c, d, n, m, lao, ln, lc, lx, pao, pn, pc, px, bao, bn, bc, bx, s⟩ := o
  simp only [OpV.cells] at *
  have HB : Hid _ := below_one W (.cells #[.int .i64 4, .int .u32 a, .int .u32 b, .int .u32 c, .int .u32 d, .int .i64 n, .int .i64 m, .slice lao ln lc, .slice pao pn pc, .slice bao bn bc, .string s] 67)
  by_cases h8 : s.size = 8
  · have P := fun w => parseHex_eight w s h8
    have R := fun w => rparseHex_eight w s h8
    cases hp : pv (strL s) 0 8 with
    | some x =>
      rw [hp] at P R
      have HP : Hid (∀ w, Calls Tryd.prog 19 #[.string s] w fun e W' => e = .returned (.tuple #[.int .u32 x, .int .i64 0]) ∧ w = W') := P
      have HR : Hid (∀ w, Calls Tryd.prog 46 #[.string s] w fun e W' => e = .returned (.tuple #[.int .u32 x, .int .i64 0]) ∧ w = W') := R
      clear P R hp
      go_enter Tryd.func43, Tryd.ntmps43
      go_wp2_with (first | (go_at_call 19; refine (HP.out _).mono ?_; rintro e w' ⟨rfl, rfl⟩) | (go_at_call 46; refine (HR.out _).mono ?_; rintro e w' ⟨rfl, rfl⟩))
      go_ret
      exact ⟨rfl, HB.out⟩
    | none =>
      rw [hp] at P R
      have HP : Hid (∀ w, Calls Tryd.prog 19 #[.string s] w fun e W' => e = .returned (.tuple #[.int .u32 0, .int .i64 10]) ∧ w = W') := P
      have HR : Hid (∀ w, Calls Tryd.prog 46 #[.string s] w fun e W' => e = .returned (.tuple #[.int .u32 0, .int .i64 10]) ∧ w = W') := R
      clear P R hp
      go_enter Tryd.func43, Tryd.ntmps43
      go_wp2_with (first | (go_at_call 19; refine (HP.out _).mono ?_; rintro e w' ⟨rfl, rfl⟩) | (go_at_call 46; refine (HR.out _).mono ?_; rintro e w' ⟨rfl, rfl⟩))
      go_ret
      exact ⟨rfl, HB.out⟩
  · go_enter Tryd.func43, Tryd.ntmps43
    go_wp2_with (first | (go_at_call 19; refine (parseHex_size _ _ h8).mono ?_; rintro e w' ⟨rfl, rfl⟩) | (go_at_call 46; refine (rparseHex_size _ _ h8).mono ?_; rintro e w' ⟨rfl, rfl⟩))
    go_ret
    exact ⟨rfl, HB.out⟩
set_option maxRecDepth 100000 in
set_option maxHeartbeats 1000000 in
theorem texts5 (W : World) (hT : Tab W) (h0 : 0 < W.heap.size) (o : OpV) (ok : o.Ok W) :
    Calls Tryd.prog 43 #[.agg (o.cells 5)] W fun e W' => e = .returned (.bool true) ∧ Below W.heap.size W W' := by
  obtain ⟨⟨a0, a1⟩, -, -, -, -, -, ll, lw, la, lb, -, -, -, -, -, -, -, -, -⟩ := ok
  obtain ⟨a, b, c, d, n, m, lao, ln, lc, lx, pao, pn, pc, px, bao, bn, bc, bx, s⟩ := o
  simp only [OpV.cells] at *
  have HB : Hid _ := below_one W (.cells #[.int .i64 5, .int .u32 a, .int .u32 b, .int .u32 c, .int .u32 d, .int .i64 n, .int .i64 m, .slice lao ln lc, .slice pao pn pc, .slice bao bn bc, .string s] 67)
  have la' := la.below HB.out
  have hT1 := hT.alloc h0 (.cells #[.int .i64 5, .int .u32 a, .int .u32 b, .int .u32 c, .int .u32 d, .int .i64 n, .int .i64 m, .slice lao ln lc, .slice pao pn pc, .slice bao bn bc, .string s] 67)
  go_enter Tryd.func43, Tryd.ntmps43
  go_wp2_with fail
  refine (rhexAll_any _ lao ln lc lx ll lw la' lb).mono ?_
  rintro e w1 ⟨rfl, hb1⟩
  have k7 := box_cell hb1 7
  simp at k7
  go_wp2_with fail
  refine (hexAll_at _ (hT1.below hb1 (by simp)) lao ln lc lx ll lw (la'.below hb1) (by omega) (by have := hb1.size; simp at this; omega)).mono ?_
  rintro e w2 ⟨rfl, hb2⟩
  have HH : Hid _ := after_box (hb1.trans (hb2.mono hb1.size))
  clear hb2 hb1 k7
  go_wp2
  go_ret
  exact ⟨rfl, HH.out⟩
set_option maxRecDepth 100000 in
set_option maxHeartbeats 1000000 in
theorem texts6 (W : World) (_hT : Tab W) (_h0 : 0 < W.heap.size) (o : OpV) (ok : o.Ok W) :
    Calls Tryd.prog 43 #[.agg (o.cells 6)] W fun e W' => e = .returned (.bool true) ∧ Below W.heap.size W W' := by
  obtain ⟨⟨a0, a1⟩, -, -, -, -, -, -, -, -, -, -, -, -, -, -, -, -, -, sb⟩ := ok
  obtain ⟨a, b, c, d, n, m, lao, ln, lc, lx, pao, pn, pc, px, bao, bn, bc, bx, s⟩ := o
  simp only [OpV.cells] at *
  have HB : Hid _ := below_one W (.cells #[.int .i64 6, .int .u32 a, .int .u32 b, .int .u32 c, .int .u32 d, .int .i64 n, .int .i64 m, .slice lao ln lc, .slice pao pn pc, .slice bao bn bc, .string s] 67)
  by_cases h8 : s.size % 8 = 0
  · obtain ⟨q, hq⟩ : ∃ q, s.size = 8 * q := ⟨s.size / 8, by omega⟩
    have HA : Hid (∀ w, _) := fun w => parseAll_any w s q hq (by omega)
    have HR : Hid (∀ w, _) := fun w => rparseAll_any w s q hq (by omega)
    have hwl := hexWs_length (strL s) q
    have hq1 : q ≤ 262144 := by omega
    clear hq
    go_enter Tryd.func43, Tryd.ntmps43
    go_wp2_with fail
    refine (HR.out _).mono ?_
    rintro e w1 (⟨hall, v, rfl, F⟩ | ⟨⟨i, hi, hno⟩, rfl, hb1⟩)
    · have hb1 := F.below
      have k10 := box_cell hb1 10
      simp at k10
      obtain ⟨ro, rc, hv, hr1⟩ := F.at
      rw [hwl] at hv
      subst hv
      clear F
      go_wp2_with fail
      refine (HA.out _).mono ?_
      rintro e w2 (⟨_, rfl, F2⟩ | ⟨⟨i, hi, hno⟩, _, _⟩)
      · have hb2 := hb1.trans (F2.below.mono hb1.size)
        have hl2 := F2.at
        have hr2 := hr1.below F2.below
        clear F2 hall
        go_wp2_with fail
        refine (lawSame_yes _ _ _ q _ _ (hexWs (strL s) q) hwl hl2 hr2 (by omega)).mono ?_
        rintro e w3 ⟨rfl, q3, rfl⟩
        have HH : Hid _ := after_box hb2
        clear hb2 hb1 hl2 hr2 hr1 k10
        go_wp2
        go_ret
        exact ⟨rfl, below_drewN HH.out _⟩
      · exact absurd hno (hall i hi)
    · have k10 := box_cell hb1 10
      simp at k10
      have HN : Hid _ := hno
      clear hno
      go_wp2_with fail
      refine (HA.out _).mono ?_
      rintro e w2 (⟨hall, _, _⟩ | ⟨_, rfl, hb2'⟩)
      · exact absurd HN.out (hall i hi)
      · have HH : Hid _ := after_box (hb1.trans (hb2'.mono hb1.size))
        clear hb2' hb1 k10
        go_wp2_with fail
        refine (lawSame_yes _ _ _ 0 _ _ [] rfl (.inl rfl) (.inl rfl) (by decide)).mono ?_
        rintro e w3 ⟨rfl, q3, rfl⟩
        go_wp2
        go_ret
        exact ⟨rfl, below_drewN HH.out _⟩
  · go_enter Tryd.func43, Tryd.ntmps43
    go_wp2_with (first | (go_at_call 47; refine (rparseAll_part _ _ (by omega) h8).mono ?_; rintro e w' ⟨rfl, rfl⟩) | (go_at_call 17; refine (parseAll_part _ _ (by omega) h8).mono ?_; rintro e w' ⟨rfl, rfl⟩))
    refine (lawSame_yes _ _ _ 0 _ _ [] rfl (.inl rfl) (.inl rfl) (by decide)).mono ?_
    rintro e w3 ⟨rfl, q3, rfl⟩
    go_wp2
    go_ret
    exact ⟨rfl, below_drewN HB.out _⟩
end Go.Proofs.YtlfnpllojinjdaaDoor
