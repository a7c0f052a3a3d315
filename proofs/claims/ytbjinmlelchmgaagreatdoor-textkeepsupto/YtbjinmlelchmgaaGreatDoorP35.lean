import Derived.Test.YtbjinmlelchmgaaGreatDoorP34
import Derived.Test.YtbjinmlelchmgaaGreatDoorP01
import Derived.Test.YtbjinmlelchmgaaGreatDoorP17
namespace Go.Proofs.YtbjinmlelchmgaaGreatDoor
open Go.RowKit
set_option maxRecDepth 100000
set_option maxHeartbeats 8000000
theorem keeps_l (W : World) (ao : Option Addr) (n c : Nat) (ops : List Oz) (hn : ops.length = n) (h20 : n ≤ 1048576) (htab : PowTab W) (mm : Int) (hm : W.cell? ⟨1, 0, none⟩ = some (.int .i64 mm)) (hat : OzAt W ao ops) :
    Calls Tryz.prog 3 #[.slice ao n c] W fun e w' => e = .returned (.bool true) ∧ Below W.heap.size W w' := by
  have n1 : (n : Int) ≤ 1048576 := by omega
  have HN := hid hn
  have HAT := hid hat
  have HM := hid hm
  have HTB := hid htab
  have H0 : Hid (KS W W (bookR (.slice none 0 0) [] :: ([] : List An).flatMap An.rows) []) := hid ((KS.start W).add (bookR (.slice none 0 0) []) (Below.refl _ _) (World.ownsRow_nil _ _ _ _))
  clear hn hat hm htab
  go_enter Tryz.func3, Tryz.ntmps3
  go_wp2_with fail
  go_loopw [3, 4] (fun v3 i wr => ∃ (j : Nat) (v : Value) (As : List An), j ≤ 3 * n ∧ i = .int .i64 (j : Int) ∧ v = v3 ∧ As.length = j ∧ Hid (∀ k A, As[k]? = some A → AF ops k A) ∧ Hid (KS W wr (bookR v As :: As.flatMap An.rows) [])) (fun _ i _ => 3 * n - (intOf i).toNat)
  case atStart => exact ⟨0, _, [], by omega, rfl, rfl, rfl, hid (fun k A h => by simp at h), H0⟩
  case round =>
    clear H0
    obtain ⟨j, v, As, hj, rfl, rfl, hAl, HAF, HK⟩ := hrel
    have w3 : IntKind.i64.wrap (3 * (n : Int)) = 3 * (n : Int) := by rw [IntKind.wrap_i64]; omega
    by_cases hlt : j < 3 * n
    · have q1 : (j : Int) < 3 * (n : Int) := by omega
      have hkl := kk_lt j n hlt
      obtain ⟨x, hx⟩ : ∃ x, ops[kk j]? = some x := ⟨_, List.getElem?_eq_getElem (by rw [HN.out]; exact hkl)⟩
      have HX := hid hx
      obtain ⟨b, o, rfl, hb, hr, hof⟩ := HAT.out _ x hx
      have HOF := hid hof
      have HRG := hid (fun (w' : World) (hw : Below W.heap.size W w') => rangeAt_on hr hb hw)
      clear hx hr hof hb
      rcases (show j % 3 = 0 ∨ j % 3 = 1 ∨ j % 3 = 2 by omega) with hcs | hcs | hcs
      · have r2 : ((j : Int) % 3 == 2) = false := by have h9 : (j : Int) % 3 = 0 := (by omega); rw [h9]; rfl
        have r0 : ((j : Int) % 3 == 0) = true := by have h9 : (j : Int) % 3 = 0 := (by omega); rw [h9]; rfl
        have ek : (j : Int) / 3 = ((kk j : Nat) : Int) := by unfold kk; split <;> omega
        clear hcs
        have HQ0 : Hid (kk j = kk j) := hid rfl
        generalize hq : kk j = q at *
        have HQK := hid hq
        clear hq HQ0
        have q2 : (q : Int) < (n : Int) := by omega
        have y0 := HRG.out wr HK.out.below 0 _ rfl
        have y1 := HRG.out wr HK.out.below 1 _ rfl
        have y2 := HRG.out wr HK.out.below 2 _ rfl
        have y3 := HRG.out wr HK.out.below 3 _ rfl
        have y4 := HRG.out wr HK.out.below 4 _ rfl
        have y5 := HRG.out wr HK.out.below 5 _ rfl
        have y6 := HRG.out wr HK.out.below 6 _ rfl
        rw [Nat.add_zero] at y0
        go_wp2_with fail
        refine (asked_any W wr _ _ HK.out x.k x.p x.u x.i x.s x.ab x.ar x.nb x.cb x.nr x.cr x.l x.rws HOF.out mm HM.out).mono ?_
        rintro e w1 ⟨⟨a1, c1, a2, c2, a3, c3, ls, ws, bs⟩, rfl, hA1, hA2, hA3, hk1⟩
        have HA1 : Hid (ls = lnV x.s) := hid hA1
        have HA2 : Hid (ws = wdV x.s) := hid hA2
        have HA3 : Hid (bs = x.l) := hid hA3
        have HK1 := hid (hk1.box 28 [.slice a1 ls.length c1, .slice none 0 0, .slice a2 ws.length c2, .slice none 0 0, .slice a3 bs.length c3, .slice none 0 0, .int .u8 0])
        clear hk1 hA1 hA2 hA3 y0 y1 y2 y3 y4 y5 y6 HK
        dsimp only [An.cs, An.v1, An.v2, An.v3]
        have y0 := HRG.out _ HK1.out.below 0 _ rfl
        have y1 := HRG.out _ HK1.out.below 1 _ rfl
        have y2 := HRG.out _ HK1.out.below 2 _ rfl
        have y3 := HRG.out _ HK1.out.below 3 _ rfl
        have y4 := HRG.out _ HK1.out.below 4 _ rfl
        have y5 := HRG.out _ HK1.out.below 5 _ rfl
        have y6 := HRG.out _ HK1.out.below 6 _ rfl
        rw [Nat.add_zero] at y0
        go_upto_region 9 with fail
        clear r2 ek
        clear y0 y1 y2 y3 y4 y5 y6
        generalize World.alloc w1 _ = w2 at *
        generalize w1.heap.size = g6 at *
        have y0 := HRG.out _ HK1.out.below 0 _ rfl
        have y1 := HRG.out _ HK1.out.below 1 _ rfl
        have y2 := HRG.out _ HK1.out.below 2 _ rfl
        have y3 := HRG.out _ HK1.out.below 3 _ rfl
        have y4 := HRG.out _ HK1.out.below 4 _ rfl
        have y5 := HRG.out _ HK1.out.below 5 _ rfl
        have y6 := HRG.out _ HK1.out.below 6 _ rfl
        rw [Nat.add_zero] at y0
        go_wp2_with fail
        refine (handed_any W _ HK1.out.below x.k x.p x.u x.i x.s x.ab x.ar x.nb x.cb x.nr x.cr x.l x.rws HOF.out).mono ?_
        rintro e w3 ⟨rfl, hb3⟩
        have HK2 := hid (HK1.out.on hb3)
        clear hb3 HK1 y0 y1 y2 y3 y4 y5 y6
        have z0 := (HK2.out.cel 0 rfl).cell 0
        have z1 := (HK2.out.cel 0 rfl).cell 1
        have z2 := (HK2.out.cel 0 rfl).cell 2
        have z3 := (HK2.out.cel 0 rfl).cell 3
        have z4 := (HK2.out.cel 0 rfl).cell 4
        have z5 := (HK2.out.cel 0 rfl).cell 5
        have z6 := (HK2.out.cel 0 rfl).cell 6
        simp only [List.getElem?_cons_zero, List.getElem?_cons_succ] at z0 z1 z2 z3 z4 z5 z6
        go_wp2_with (at_builtin; refine wpList_append_s rfl _ _ 23 28 rfl Tryz.underlying23 info28 rfl (by decide) (by decide) rfl ((HK2.out.on (below_one _ (.cells #[.slice a1 ls.length c1, .slice none 0 0, .slice a2 ws.length c2, .slice none 0 0, .slice a3 bs.length c3, .slice none 0 0, .int .u8 0] 28))).mem (i := 4) rfl) (HK2.out.on (below_one _ (.cells #[.slice a1 ls.length c1, .slice none 0 0, .slice a2 ws.length c2, .slice none 0 0, .slice a3 bs.length c3, .slice none 0 0, .int .u8 0] 28))).below.size rfl (m := 1) (st := 7) rfl (cel_new _ 28 [.slice a1 ls.length c1, .slice none 0 0, .slice a2 ws.length c2, .slice none 0 0, .slice a3 bs.length c3, .slice none 0 0, .int .u8 0]).lie (by simp [Value.oneCell']) (by show As.length + 1 ≤ _; omega) ?_; intro v4 w4 hal; have HK3 := hid ((HK2.out.on (below_one _ (.cells #[.slice a1 ls.length c1, .slice none 0 0, .slice a2 ws.length c2, .slice none 0 0, .slice a3 bs.length c3, .slice none 0 0, .int .u8 0] 28))).app 4 rfl hal); clear hal HK2 z0 z1 z2 z3 z4 z5 z6)
        go_roundw
        case measure => simp [intOf] <;> omega
        case rel => exact ⟨j + 1, v4, As ++ [⟨a1, c1, a2, c2, a3, c3, ls, ws, bs⟩], by omega, by simp, rfl, by simp [hAl], af_snoc HAF hAl ⟨x, HQK.out ▸ HX.out, HA1.out, HA2.out, HA3.out⟩, hid (book_add HK3.out)⟩
      · have r2 : ((j : Int) % 3 == 2) = false := by have h9 : (j : Int) % 3 = 1 := (by omega); rw [h9]; rfl
        have r0 : ((j : Int) % 3 == 0) = false := by have h9 : (j : Int) % 3 = 1 := (by omega); rw [h9]; rfl
        have ek : (j : Int) / 3 = ((kk j : Nat) : Int) := by unfold kk; split <;> omega
        clear hcs
        have HQ0 : Hid (kk j = kk j) := hid rfl
        generalize hq : kk j = q at *
        have HQK := hid hq
        clear hq HQ0
        have q2 : (q : Int) < (n : Int) := by omega
        have y0 := HRG.out wr HK.out.below 0 _ rfl
        have y1 := HRG.out wr HK.out.below 1 _ rfl
        have y2 := HRG.out wr HK.out.below 2 _ rfl
        have y3 := HRG.out wr HK.out.below 3 _ rfl
        have y4 := HRG.out wr HK.out.below 4 _ rfl
        have y5 := HRG.out wr HK.out.below 5 _ rfl
        have y6 := HRG.out wr HK.out.below 6 _ rfl
        rw [Nat.add_zero] at y0
        go_wp2_with fail
        refine (asked_any W wr _ _ HK.out x.k x.p x.u x.i x.s x.ab x.ar x.nb x.cb x.nr x.cr x.l x.rws HOF.out mm HM.out).mono ?_
        rintro e w1 ⟨⟨a1, c1, a2, c2, a3, c3, ls, ws, bs⟩, rfl, hA1, hA2, hA3, hk1⟩
        have HA1 : Hid (ls = lnV x.s) := hid hA1
        have HA2 : Hid (ws = wdV x.s) := hid hA2
        have HA3 : Hid (bs = x.l) := hid hA3
        have HK1 := hid (hk1.box 28 [.slice a1 ls.length c1, .slice none 0 0, .slice a2 ws.length c2, .slice none 0 0, .slice a3 bs.length c3, .slice none 0 0, .int .u8 0])
        clear hk1 hA1 hA2 hA3 y0 y1 y2 y3 y4 y5 y6 HK
        dsimp only [An.cs, An.v1, An.v2, An.v3]
        go_upto_region 9 with fail
        clear r2 ek
        generalize World.alloc w1 _ = w2 at *
        generalize w1.heap.size = g6 at *
        have HK2 := HK1
        clear HK1
        have z0 := (HK2.out.cel 0 rfl).cell 0
        have z1 := (HK2.out.cel 0 rfl).cell 1
        have z2 := (HK2.out.cel 0 rfl).cell 2
        have z3 := (HK2.out.cel 0 rfl).cell 3
        have z4 := (HK2.out.cel 0 rfl).cell 4
        have z5 := (HK2.out.cel 0 rfl).cell 5
        have z6 := (HK2.out.cel 0 rfl).cell 6
        simp only [List.getElem?_cons_zero, List.getElem?_cons_succ] at z0 z1 z2 z3 z4 z5 z6
        go_wp2_with (at_builtin; refine wpList_append_s rfl _ _ 23 28 rfl Tryz.underlying23 info28 rfl (by decide) (by decide) rfl ((HK2.out.on (below_one _ (.cells #[.slice a1 ls.length c1, .slice none 0 0, .slice a2 ws.length c2, .slice none 0 0, .slice a3 bs.length c3, .slice none 0 0, .int .u8 0] 28))).mem (i := 4) rfl) (HK2.out.on (below_one _ (.cells #[.slice a1 ls.length c1, .slice none 0 0, .slice a2 ws.length c2, .slice none 0 0, .slice a3 bs.length c3, .slice none 0 0, .int .u8 0] 28))).below.size rfl (m := 1) (st := 7) rfl (cel_new _ 28 [.slice a1 ls.length c1, .slice none 0 0, .slice a2 ws.length c2, .slice none 0 0, .slice a3 bs.length c3, .slice none 0 0, .int .u8 0]).lie (by simp [Value.oneCell']) (by show As.length + 1 ≤ _; omega) ?_; intro v4 w4 hal; have HK3 := hid ((HK2.out.on (below_one _ (.cells #[.slice a1 ls.length c1, .slice none 0 0, .slice a2 ws.length c2, .slice none 0 0, .slice a3 bs.length c3, .slice none 0 0, .int .u8 0] 28))).app 4 rfl hal); clear hal HK2 z0 z1 z2 z3 z4 z5 z6)
        go_roundw
        case measure => simp [intOf] <;> omega
        case rel => exact ⟨j + 1, v4, As ++ [⟨a1, c1, a2, c2, a3, c3, ls, ws, bs⟩], by omega, by simp, rfl, by simp [hAl], af_snoc HAF hAl ⟨x, HQK.out ▸ HX.out, HA1.out, HA2.out, HA3.out⟩, hid (book_add HK3.out)⟩
      · have r2 : ((j : Int) % 3 == 2) = true := by rw [show (j : Int) % 3 = 2 by omega]; rfl
        have r0 : ((j : Int) % 3 == 0) = false := by have h9 : (j : Int) % 3 = 2 := (by omega); rw [h9]; rfl
        have ek : (j : Int) / 3 / 2 = ((kk j : Nat) : Int) := by unfold kk; split <;> omega
        clear hcs
        have HQ0 : Hid (kk j = kk j) := hid rfl
        generalize hq : kk j = q at *
        have HQK := hid hq
        clear hq HQ0
        have q2 : (q : Int) < (n : Int) := by omega
        have y0 := HRG.out wr HK.out.below 0 _ rfl
        have y1 := HRG.out wr HK.out.below 1 _ rfl
        have y2 := HRG.out wr HK.out.below 2 _ rfl
        have y3 := HRG.out wr HK.out.below 3 _ rfl
        have y4 := HRG.out wr HK.out.below 4 _ rfl
        have y5 := HRG.out wr HK.out.below 5 _ rfl
        have y6 := HRG.out wr HK.out.below 6 _ rfl
        rw [Nat.add_zero] at y0
        go_wp2_with fail
        refine (asked_any W wr _ _ HK.out x.k x.p x.u x.i x.s x.ab x.ar x.nb x.cb x.nr x.cr x.l x.rws HOF.out mm HM.out).mono ?_
        rintro e w1 ⟨⟨a1, c1, a2, c2, a3, c3, ls, ws, bs⟩, rfl, hA1, hA2, hA3, hk1⟩
        have HA1 : Hid (ls = lnV x.s) := hid hA1
        have HA2 : Hid (ws = wdV x.s) := hid hA2
        have HA3 : Hid (bs = x.l) := hid hA3
        have HK1 := hid (hk1.box 28 [.slice a1 ls.length c1, .slice none 0 0, .slice a2 ws.length c2, .slice none 0 0, .slice a3 bs.length c3, .slice none 0 0, .int .u8 0])
        clear hk1 hA1 hA2 hA3 y0 y1 y2 y3 y4 y5 y6 HK
        dsimp only [An.cs, An.v1, An.v2, An.v3]
        go_upto_region 9 with fail
        clear r2 ek
        generalize World.alloc w1 _ = w2 at *
        generalize w1.heap.size = g6 at *
        have HK2 := HK1
        clear HK1
        have z0 := (HK2.out.cel 0 rfl).cell 0
        have z1 := (HK2.out.cel 0 rfl).cell 1
        have z2 := (HK2.out.cel 0 rfl).cell 2
        have z3 := (HK2.out.cel 0 rfl).cell 3
        have z4 := (HK2.out.cel 0 rfl).cell 4
        have z5 := (HK2.out.cel 0 rfl).cell 5
        have z6 := (HK2.out.cel 0 rfl).cell 6
        simp only [List.getElem?_cons_zero, List.getElem?_cons_succ] at z0 z1 z2 z3 z4 z5 z6
        go_wp2_with (at_builtin; refine wpList_append_s rfl _ _ 23 28 rfl Tryz.underlying23 info28 rfl (by decide) (by decide) rfl ((HK2.out.on (below_one _ (.cells #[.slice a1 ls.length c1, .slice none 0 0, .slice a2 ws.length c2, .slice none 0 0, .slice a3 bs.length c3, .slice none 0 0, .int .u8 0] 28))).mem (i := 4) rfl) (HK2.out.on (below_one _ (.cells #[.slice a1 ls.length c1, .slice none 0 0, .slice a2 ws.length c2, .slice none 0 0, .slice a3 bs.length c3, .slice none 0 0, .int .u8 0] 28))).below.size rfl (m := 1) (st := 7) rfl (cel_new _ 28 [.slice a1 ls.length c1, .slice none 0 0, .slice a2 ws.length c2, .slice none 0 0, .slice a3 bs.length c3, .slice none 0 0, .int .u8 0]).lie (by simp [Value.oneCell']) (by show As.length + 1 ≤ _; omega) ?_; intro v4 w4 hal; have HK3 := hid ((HK2.out.on (below_one _ (.cells #[.slice a1 ls.length c1, .slice none 0 0, .slice a2 ws.length c2, .slice none 0 0, .slice a3 bs.length c3, .slice none 0 0, .int .u8 0] 28))).app 4 rfl hal); clear hal HK2 z0 z1 z2 z3 z4 z5 z6)
        go_roundw
        case measure => simp [intOf] <;> omega
        case rel => exact ⟨j + 1, v4, As ++ [⟨a1, c1, a2, c2, a3, c3, ls, ws, bs⟩], by omega, by simp, rfl, by simp [hAl], af_snoc HAF hAl ⟨x, HQK.out ▸ HX.out, HA1.out, HA2.out, HA3.out⟩, hid (book_add HK3.out)⟩
    · have hj3 : j = 3 * n := by omega
      subst hj3
      have HAL := hid hAl
      have HLEN := hid (fun (k : Nat) (A : An) (hk : As[k]? = some A) => an_len HAT.out (HAF.out k A hk))
      obtain ⟨aB, cB, rfl⟩ := own_frm HK.out.own0 (by decide)
      rw [hAl] at HK ⊢
      clear hAl
      go_wp2_with fail
      generalize hN : 3 * n = N at *
      have HNN := hid hN
      have q3 : (N : Int) ≤ 3145728 := by omega
      clear hN hj hlt
      go_loopw [8, 9] (fun i _ wr => ∃ j : Nat, j ≤ N ∧ i = .int .i64 (j : Int) ∧ Hid (KS W wr (bookR (.slice aB N cB) As :: As.flatMap An.rows) [])) (fun i _ _ => N - (intOf i).toNat)
      case atStart => exact ⟨0, Nat.zero_le _, rfl, HK⟩
      case round =>
        clear HK
        obtain ⟨j, hj, rfl, HK⟩ := hrel
        by_cases hlt : j < N
        · have q1 : (j : Int) < (N : Int) := by omega
          obtain ⟨gB, cB', hv, hgB, hr1, _⟩ := bk_at (Ds := []) (As := As) (N := N) (by rw [← bk_0]; exact HK.out) (by simp [HAL.out]) (by omega)
          injection hv with hv _ hv3
          subst hv hv3
          obtain ⟨A, hA⟩ : ∃ A, As[j]? = some A := ⟨_, List.getElem?_eq_getElem (by rw [HAL.out]; exact hlt)⟩
          have hr3 := hr1 j A hA
          rw [show ([] : List Hd).length + j = j by simp] at hr3
          have hmm := rows_mem hA
          obtain ⟨x, hx, hA1, hA2, hA3⟩ := HAF.out j A hA
          obtain ⟨a1, c1, a2, c2, a3, c3, ls, ws, bs⟩ := A
          simp only at hA1 hA2 hA3
          subst hA1 hA2 hA3
          have hr3 : wr.rangeAt gB (j * 7) [.slice a1 (lnV x.s).length c1, .slice none 0 0, .slice a2 (wdV x.s).length c2, .slice none 0 0, .slice a3 x.l.length c3, .slice none 0 0, .int .u8 0] := hr3
          have hkl := kk_lt j n (by rw [HNN.out]; exact hlt)
          obtain ⟨b, o, rfl, hb, hr, hof⟩ := HAT.out _ x hx
          have HOF := hid hof
          have HMM := hid (fun r hr => List.mem_cons_of_mem (bookR (.slice (some ⟨gB, 0, none⟩) N cB) As) (hmm r hr))
          have hb2 : b < wr.heap.size := Nat.lt_of_lt_of_le hb HK.out.below.size
          have hr4 := rangeAt_on hr hb HK.out.below
          have HC1 := hid (fun (w' : World) (hw : Below wr.heap.size wr w') => rangeAt_on hr3 hgB hw)
          have HC2 := hid (fun (w' : World) (hw : Below wr.heap.size wr w') => rangeAt_on hr4 hb2 hw)
          clear hr hof hb hr1 hr3 hr4 hb2 hgB hmm hx hA
          by_cases hcs : j % 3 = 2
          · have r2 : ((j : Int) % 3 == 2) = true := by rw [show (j : Int) % 3 = 2 by omega]; rfl
            have ek : (j : Int) / 3 / 2 = ((kk j : Nat) : Int) := by unfold kk; split <;> omega
            clear hcs
            generalize kk j = q at *
            have q2 : (q : Int) < (n : Int) := by omega
            go_upto_region 18 with fail
            try rw [ek]
            have HK5 := hid (HK.out.on (Below.refl _ _).drew)
            have HS5 : Hid (Below wr.heap.size wr wr.drew) := hid (Below.refl _ _).drew
            refine wp_region_held_drew (S := fun w => Below wr.heap.size wr w) (by kernel_rfl) (Below.refl _ _).drew (fun hHeld => ?_)
            clear hHeld
            revert HK5 HS5
            generalize World.drew wr = w5
            intro HK5 HS5
            have hHeld : Below wr.heap.size wr w5 := HS5.out
            refine tk 0 ⟨some 67, .move (.tmp 3), 23, "law.go:273", #[], none⟩ (.slice (some ⟨gB, 0, none⟩) N cB) ?_
            simp only [Act.put, List.setIfInBounds_toArray, List.set_cons_zero, List.set_cons_succ]
            refine tk 1 ⟨some 68, .move (.tmp 8), 3, "law.go:273", #[], none⟩ (.int .i64 (j : Int)) ?_
            simp only [Act.put, List.setIfInBounds_toArray, List.set_cons_zero, List.set_cons_succ]
            refine tk 2 ⟨some 69, .indexAddr 23 (.tmp 67) (.tmp 68), 0, "law.go:273", #[⟨0, .data⟩, ⟨1, .data⟩], none⟩ (.pointer (some ⟨gB, j * 7, none⟩)) ?_ (hy := Or.inl ⟨by rfl, by intro w hSw; have t1 := q1; go_simp⟩)
            simp only [Act.put, List.setIfInBounds_toArray, List.set_cons_zero, List.set_cons_succ]
            refine tk 3 ⟨some 70, .load 28 (.tmp 69), 28, "law.go:273", #[⟨2, .data⟩], none⟩ (.agg #[.slice a1 (lnV x.s).length c1, .slice none 0 0, .slice a2 (wdV x.s).length c2, .slice none 0 0, .slice a3 x.l.length c3, .slice none 0 0, .int .u8 0]) ?_ (hy := Or.inl ⟨by rfl, by intro w hSw; have y0 := HC1.out w hSw 0 _ rfl; have y1 := HC1.out w hSw 1 _ rfl; have y2 := HC1.out w hSw 2 _ rfl; have y3 := HC1.out w hSw 3 _ rfl; have y4 := HC1.out w hSw 4 _ rfl; have y5 := HC1.out w hSw 5 _ rfl; have y6 := HC1.out w hSw 6 _ rfl; rw [Nat.add_zero] at y0; go_simp⟩)
            simp only [Act.put, List.setIfInBounds_toArray, List.set_cons_zero, List.set_cons_succ]
            refine tk 4 ⟨some 71, .move (.tmp 0), 22, "law.go:273", #[], none⟩ (.slice (some ⟨b, o, none⟩) n c) ?_
            simp only [Act.put, List.setIfInBounds_toArray, List.set_cons_zero, List.set_cons_succ]
            refine tk 5 ⟨some 72, .move (.tmp 9), 3, "law.go:273", #[], none⟩ (.int .i64 (q : Int)) ?_
            simp only [Act.put, List.setIfInBounds_toArray, List.set_cons_zero, List.set_cons_succ]
            refine tk 6 ⟨some 73, .indexAddr 22 (.tmp 71) (.tmp 72), 0, "law.go:273", #[⟨4, .data⟩, ⟨5, .data⟩], none⟩ (.pointer (some ⟨b, o + q * 7, none⟩)) ?_ (hy := Or.inl ⟨by rfl, by intro w hSw; have t2 := q2; go_simp⟩)
            simp only [Act.put, List.setIfInBounds_toArray, List.set_cons_zero, List.set_cons_succ]
            refine tk 7 ⟨some 74, .load 34 (.tmp 73), 34, "law.go:273", #[⟨6, .data⟩], none⟩ (.agg #[.int .i64 x.k, .string x.s, .int .i64 x.p, .slice x.ab x.nb x.cb, .int .u32 x.u, .int .i32 x.i, .slice x.ar x.nr x.cr]) ?_ (hy := Or.inl ⟨by rfl, by intro w hSw; have y0 := HC2.out w hSw 0 _ rfl; have y1 := HC2.out w hSw 1 _ rfl; have y2 := HC2.out w hSw 2 _ rfl; have y3 := HC2.out w hSw 3 _ rfl; have y4 := HC2.out w hSw 4 _ rfl; have y5 := HC2.out w hSw 5 _ rfl; have y6 := HC2.out w hSw 6 _ rfl; rw [Nat.add_zero] at y0; go_simp⟩)
            simp only [Act.put, List.setIfInBounds_toArray, List.set_cons_zero, List.set_cons_succ]
            refine wpAnyH_ready (rs := [8]) (by kernel_rfl) (by simp) (AllReadyH.cons (o := ⟨some 75, .call { callee := .value (.func 7), args := #[.tmp 70, .tmp 74], argTypes := #[28, 34] }, 4, "law.go:273", #[⟨3, .data⟩, ⟨7, .data⟩], none⟩) rfl (fun KQ hK => ?_) AllReadyH.nil)
            go_simp
            refine (told_any W _ HK5.out.below x.k x.p x.u x.i x.s x.ab x.ar x.nb x.cb x.nr x.cr x.l x.rws HOF.out a1 a2 a3 c1 c2 c3 _ _ _ _ (an_at HK5.out (HMM.out)).1 (an_at HK5.out (HMM.out)).2.1 (an_at HK5.out (HMM.out)).2.2).mono ?_
            rintro e w6 ⟨rfl, hb6⟩
            have HK6 := hid (HK5.out.on hb6)
            have HS6 := hid (Below.trans HS5.out (hb6.mono HS5.out.size))
            clear hb6 HK5
            go_wp2_with fail
            refine hK.out _ _ HS6.out (fun hHeld => ?_)
            clear hK KQ
            try simp only [Act.put, List.setIfInBounds_toArray, List.set_cons_zero, List.set_cons_succ]
            refine tk 9 ⟨some 76, .unOp .not 4 (.tmp 75), 4, "law.go:273", #[⟨8, .data⟩], none⟩ (.bool false) ?_
            simp only [Act.put, List.setIfInBounds_toArray, List.set_cons_zero, List.set_cons_succ]
            refine wpAnyH_done (by kernel_rfl) ?_ _
            go_wp2_with fail
            go_roundw
            case measure => simp [intOf] <;> omega
            case rel => exact ⟨j + 1, by omega, by simp, HK6⟩
          · have r2 : ((j : Int) % 3 == 2) = false := by have h9 : (j : Int) % 3 ≠ 2 := (by omega); simpa using h9
            have ek : (j : Int) / 3 = ((kk j : Nat) : Int) := by unfold kk; split <;> omega
            clear hcs
            generalize kk j = q at *
            have q2 : (q : Int) < (n : Int) := by omega
            go_upto_region 18 with fail
            try rw [ek]
            have HK5 := hid (HK.out.on (Below.refl _ _).drew)
            have HS5 : Hid (Below wr.heap.size wr wr.drew) := hid (Below.refl _ _).drew
            refine wp_region_held_drew (S := fun w => Below wr.heap.size wr w) (by kernel_rfl) (Below.refl _ _).drew (fun hHeld => ?_)
            clear hHeld
            revert HK5 HS5
            generalize World.drew wr = w5
            intro HK5 HS5
            have hHeld : Below wr.heap.size wr w5 := HS5.out
            refine tk 0 ⟨some 67, .move (.tmp 3), 23, "law.go:273", #[], none⟩ (.slice (some ⟨gB, 0, none⟩) N cB) ?_
            simp only [Act.put, List.setIfInBounds_toArray, List.set_cons_zero, List.set_cons_succ]
            refine tk 1 ⟨some 68, .move (.tmp 8), 3, "law.go:273", #[], none⟩ (.int .i64 (j : Int)) ?_
            simp only [Act.put, List.setIfInBounds_toArray, List.set_cons_zero, List.set_cons_succ]
            refine tk 2 ⟨some 69, .indexAddr 23 (.tmp 67) (.tmp 68), 0, "law.go:273", #[⟨0, .data⟩, ⟨1, .data⟩], none⟩ (.pointer (some ⟨gB, j * 7, none⟩)) ?_ (hy := Or.inl ⟨by rfl, by intro w hSw; have t1 := q1; go_simp⟩)
            simp only [Act.put, List.setIfInBounds_toArray, List.set_cons_zero, List.set_cons_succ]
            refine tk 3 ⟨some 70, .load 28 (.tmp 69), 28, "law.go:273", #[⟨2, .data⟩], none⟩ (.agg #[.slice a1 (lnV x.s).length c1, .slice none 0 0, .slice a2 (wdV x.s).length c2, .slice none 0 0, .slice a3 x.l.length c3, .slice none 0 0, .int .u8 0]) ?_ (hy := Or.inl ⟨by rfl, by intro w hSw; have y0 := HC1.out w hSw 0 _ rfl; have y1 := HC1.out w hSw 1 _ rfl; have y2 := HC1.out w hSw 2 _ rfl; have y3 := HC1.out w hSw 3 _ rfl; have y4 := HC1.out w hSw 4 _ rfl; have y5 := HC1.out w hSw 5 _ rfl; have y6 := HC1.out w hSw 6 _ rfl; rw [Nat.add_zero] at y0; go_simp⟩)
            simp only [Act.put, List.setIfInBounds_toArray, List.set_cons_zero, List.set_cons_succ]
            refine tk 4 ⟨some 71, .move (.tmp 0), 22, "law.go:273", #[], none⟩ (.slice (some ⟨b, o, none⟩) n c) ?_
            simp only [Act.put, List.setIfInBounds_toArray, List.set_cons_zero, List.set_cons_succ]
            refine tk 5 ⟨some 72, .move (.tmp 9), 3, "law.go:273", #[], none⟩ (.int .i64 (q : Int)) ?_
            simp only [Act.put, List.setIfInBounds_toArray, List.set_cons_zero, List.set_cons_succ]
            refine tk 6 ⟨some 73, .indexAddr 22 (.tmp 71) (.tmp 72), 0, "law.go:273", #[⟨4, .data⟩, ⟨5, .data⟩], none⟩ (.pointer (some ⟨b, o + q * 7, none⟩)) ?_ (hy := Or.inl ⟨by rfl, by intro w hSw; have t2 := q2; go_simp⟩)
            simp only [Act.put, List.setIfInBounds_toArray, List.set_cons_zero, List.set_cons_succ]
            refine tk 7 ⟨some 74, .load 34 (.tmp 73), 34, "law.go:273", #[⟨6, .data⟩], none⟩ (.agg #[.int .i64 x.k, .string x.s, .int .i64 x.p, .slice x.ab x.nb x.cb, .int .u32 x.u, .int .i32 x.i, .slice x.ar x.nr x.cr]) ?_ (hy := Or.inl ⟨by rfl, by intro w hSw; have y0 := HC2.out w hSw 0 _ rfl; have y1 := HC2.out w hSw 1 _ rfl; have y2 := HC2.out w hSw 2 _ rfl; have y3 := HC2.out w hSw 3 _ rfl; have y4 := HC2.out w hSw 4 _ rfl; have y5 := HC2.out w hSw 5 _ rfl; have y6 := HC2.out w hSw 6 _ rfl; rw [Nat.add_zero] at y0; go_simp⟩)
            simp only [Act.put, List.setIfInBounds_toArray, List.set_cons_zero, List.set_cons_succ]
            refine wpAnyH_ready (rs := [8]) (by kernel_rfl) (by simp) (AllReadyH.cons (o := ⟨some 75, .call { callee := .value (.func 7), args := #[.tmp 70, .tmp 74], argTypes := #[28, 34] }, 4, "law.go:273", #[⟨3, .data⟩, ⟨7, .data⟩], none⟩) rfl (fun KQ hK => ?_) AllReadyH.nil)
            go_simp
            refine (told_any W _ HK5.out.below x.k x.p x.u x.i x.s x.ab x.ar x.nb x.cb x.nr x.cr x.l x.rws HOF.out a1 a2 a3 c1 c2 c3 _ _ _ _ (an_at HK5.out (HMM.out)).1 (an_at HK5.out (HMM.out)).2.1 (an_at HK5.out (HMM.out)).2.2).mono ?_
            rintro e w6 ⟨rfl, hb6⟩
            have HK6 := hid (HK5.out.on hb6)
            have HS6 := hid (Below.trans HS5.out (hb6.mono HS5.out.size))
            clear hb6 HK5
            go_wp2_with fail
            refine hK.out _ _ HS6.out (fun hHeld => ?_)
            clear hK KQ
            try simp only [Act.put, List.setIfInBounds_toArray, List.set_cons_zero, List.set_cons_succ]
            refine tk 9 ⟨some 76, .unOp .not 4 (.tmp 75), 4, "law.go:273", #[⟨8, .data⟩], none⟩ (.bool false) ?_
            simp only [Act.put, List.setIfInBounds_toArray, List.set_cons_zero, List.set_cons_succ]
            refine wpAnyH_done (by kernel_rfl) ?_ _
            go_wp2_with fail
            go_roundw
            case measure => simp [intOf] <;> omega
            case rel => exact ⟨j + 1, by omega, by simp, HK6⟩
        · have hjN : N = j := by omega
          subst hjN
          go_wp2_with fail
          have HK3 : Hid (KS W wr (bk (.slice aB N cB) [] (As.drop 0) :: (As.drop 0).flatMap An.rows) (([] : List Hd).flatMap Hd.hks)) := hid (by rw [List.drop_zero, ← bk_0]; exact HK.out)
          clear HK hj hlt
          go_loopw [10] (fun i wr => ∃ (j : Nat) (Ds : List Hd), j ≤ N ∧ i = .int .i64 (j : Int) ∧ Ds.length = j ∧ Hid (∀ d ∈ Ds, d.ok) ∧ Hid (KS W wr (bk (.slice aB N cB) Ds (As.drop j) :: (As.drop j).flatMap An.rows) (Ds.flatMap Hd.hks))) (fun i _ => N - (intOf i).toNat)
          case atStart => exact ⟨0, [], Nat.zero_le _, rfl, rfl, hid (fun _ h => by cases h), HK3⟩
          case round =>
            clear HK3
            obtain ⟨j, Ds, hj, rfl, hDl, HOK, HK⟩ := hrel
            have HDL := hid hDl
            by_cases hlt : j < N
            · have q1 : (j : Int) < (N : Int) := by omega
              obtain ⟨A, hA⟩ : ∃ A, As[j]? = some A := ⟨_, List.getElem?_eq_getElem (by rw [HAL.out]; exact hlt)⟩
              have HLN := hid (HLEN.out j A hA)
              have hdr : As.drop j = A :: As.drop (j + 1) := by
                obtain ⟨hk, he⟩ := List.getElem?_eq_some_iff.1 hA
                rw [List.drop_eq_getElem_cons hk, he]
              have hdl : (As.drop j).length = N - j := by rw [List.length_drop, HAL.out]
              rw [hdr] at HK hdl
              have HLL : Hid (Ds.length + (A :: As.drop (j + 1)).length = N) := hid (by rw [hDl, hdl]; omega)
              obtain ⟨gB, cB', hv, _, _, _⟩ := bk_at HK.out HLL.out (by omega)
              injection hv with hv _ hv3
              subst hv hv3
              have hc0 := bk_cell HK.out HLL.out hDl
              obtain ⟨a1, c1, a2, c2, a3, c3, ls, ws, bs⟩ := A
              have y0 : wr.cell? ⟨gB, j * 7, none⟩ = some (.slice a1 ls.length c1) := by have := hc0 0 _ rfl; rw [Nat.add_zero] at this; exact this
              have y2 : wr.cell? ⟨gB, j * 7 + 2, none⟩ = some (.slice a2 ws.length c2) := hc0 2 _ rfl
              have y4 : wr.cell? ⟨gB, j * 7 + 4, none⟩ = some (.slice a3 bs.length c3) := hc0 4 _ rfl
              have hlm : ∀ d : Hd, (Ds ++ [d]).length + (As.drop (j + 1)).length = N := fun d => by
                have h1 := HLL.out
                rw [List.length_cons] at h1
                rw [List.length_append, List.length_cons, List.length_nil]
                omega
              have HLM := hid hlm
              clear hlm
              clear hdr hdl hc0 hA hDl
              go_upto_region 23 with fail
              have HK5 := hid (HK.out.on (Below.refl _ _).drew)
              clear HK
              refine wp_region_held_drew (S := fun w => w.cell? ⟨gB, j * 7, none⟩ = some (.slice a1 ls.length c1) ∧ w.cell? ⟨gB, j * 7 + 2, none⟩ = some (.slice a2 ws.length c2) ∧ w.cell? ⟨gB, j * 7 + 4, none⟩ = some (.slice a3 bs.length c3)) (by kernel_rfl) ⟨y0, y2, y4⟩ (fun hHeld => ?_)
              clear y0 y2 y4
              revert HK5 hHeld
              generalize World.drew wr = w5
              intro HK5 hHeld
              refine tk 0 ⟨some 83, .move (.tmp 3), 23, "law.go:278", #[], none⟩ (.slice (some ⟨gB, 0, none⟩) N cB) ?_
              simp only [Act.put, List.setIfInBounds_toArray, List.set_cons_zero, List.set_cons_succ]
              refine tk 1 ⟨some 84, .move (.tmp 10), 3, "law.go:278", #[], none⟩ (.int .i64 (j : Int)) ?_
              simp only [Act.put, List.setIfInBounds_toArray, List.set_cons_zero, List.set_cons_succ]
              refine tk 2 ⟨some 85, .move (.tmp 3), 23, "law.go:278", #[], none⟩ (.slice (some ⟨gB, 0, none⟩) N cB) ?_
              simp only [Act.put, List.setIfInBounds_toArray, List.set_cons_zero, List.set_cons_succ]
              refine tk 3 ⟨some 86, .move (.tmp 10), 3, "law.go:278", #[], none⟩ (.int .i64 (j : Int)) ?_
              simp only [Act.put, List.setIfInBounds_toArray, List.set_cons_zero, List.set_cons_succ]
              refine tk 4 ⟨some 87, .indexAddr 23 (.tmp 85) (.tmp 86), 0, "law.go:278", #[⟨2, .data⟩, ⟨3, .data⟩], none⟩ (.pointer (some ⟨gB, j * 7, none⟩)) ?_ (hy := Or.inl ⟨by rfl, by intro w hSw; have t1 := q1; go_simp⟩)
              simp only [Act.put, List.setIfInBounds_toArray, List.set_cons_zero, List.set_cons_succ]
              refine tk 5 ⟨some 88, .fieldAddr 28 (.tmp 87) 0, 0, "law.go:278", #[⟨4, .data⟩], none⟩ (.pointer (some ⟨gB, j * 7, none⟩)) ?_
              simp only [Act.put, List.setIfInBounds_toArray, List.set_cons_zero, List.set_cons_succ]
              refine tk 6 ⟨some 89, .load 24 (.tmp 88), 24, "law.go:278", #[⟨5, .data⟩], none⟩ (.slice a1 ls.length c1) ?_ (hy := Or.inl ⟨by rfl, by intro w hSw; have t2 := hSw.1; go_simp⟩)
              simp only [Act.put, List.setIfInBounds_toArray, List.set_cons_zero, List.set_cons_succ]
              refine tk 7 ⟨some 90, .move (.tmp 3), 23, "law.go:278", #[], none⟩ (.slice (some ⟨gB, 0, none⟩) N cB) ?_
              simp only [Act.put, List.setIfInBounds_toArray, List.set_cons_zero, List.set_cons_succ]
              refine tk 8 ⟨some 91, .move (.tmp 10), 3, "law.go:278", #[], none⟩ (.int .i64 (j : Int)) ?_
              simp only [Act.put, List.setIfInBounds_toArray, List.set_cons_zero, List.set_cons_succ]
              refine tk 9 ⟨some 92, .indexAddr 23 (.tmp 90) (.tmp 91), 0, "law.go:278", #[⟨7, .data⟩, ⟨8, .data⟩], none⟩ (.pointer (some ⟨gB, j * 7, none⟩)) ?_ (hy := Or.inl ⟨by rfl, by intro w hSw; have t1 := q1; go_simp⟩)
              simp only [Act.put, List.setIfInBounds_toArray, List.set_cons_zero, List.set_cons_succ]
              refine tk 10 ⟨some 93, .fieldAddr 28 (.tmp 92) 2, 0, "law.go:278", #[⟨9, .data⟩], none⟩ (.pointer (some ⟨gB, j * 7 + 2, none⟩)) ?_
              simp only [Act.put, List.setIfInBounds_toArray, List.set_cons_zero, List.set_cons_succ]
              refine tk 11 ⟨some 94, .load 25 (.tmp 93), 25, "law.go:278", #[⟨10, .data⟩], none⟩ (.slice a2 ws.length c2) ?_ (hy := Or.inl ⟨by rfl, by intro w hSw; have t2 := hSw.2.1; go_simp⟩)
              simp only [Act.put, List.setIfInBounds_toArray, List.set_cons_zero, List.set_cons_succ]
              refine tk 12 ⟨some 95, .move (.tmp 3), 23, "law.go:278", #[], none⟩ (.slice (some ⟨gB, 0, none⟩) N cB) ?_
              simp only [Act.put, List.setIfInBounds_toArray, List.set_cons_zero, List.set_cons_succ]
              refine tk 13 ⟨some 96, .move (.tmp 10), 3, "law.go:278", #[], none⟩ (.int .i64 (j : Int)) ?_
              simp only [Act.put, List.setIfInBounds_toArray, List.set_cons_zero, List.set_cons_succ]
              refine tk 14 ⟨some 97, .indexAddr 23 (.tmp 95) (.tmp 96), 0, "law.go:278", #[⟨12, .data⟩, ⟨13, .data⟩], none⟩ (.pointer (some ⟨gB, j * 7, none⟩)) ?_ (hy := Or.inl ⟨by rfl, by intro w hSw; have t1 := q1; go_simp⟩)
              simp only [Act.put, List.setIfInBounds_toArray, List.set_cons_zero, List.set_cons_succ]
              refine tk 15 ⟨some 98, .fieldAddr 28 (.tmp 97) 4, 0, "law.go:278", #[⟨14, .data⟩], none⟩ (.pointer (some ⟨gB, j * 7 + 4, none⟩)) ?_
              simp only [Act.put, List.setIfInBounds_toArray, List.set_cons_zero, List.set_cons_succ]
              refine tk 16 ⟨some 99, .load 26 (.tmp 98), 26, "law.go:278", #[⟨15, .data⟩], none⟩ (.slice a3 bs.length c3) ?_ (hy := Or.inl ⟨by rfl, by intro w hSw; have t2 := hSw.2.2; go_simp⟩)
              simp only [Act.put, List.setIfInBounds_toArray, List.set_cons_zero, List.set_cons_succ]
              refine tk 17 ⟨some 100, .move (.tmp 10), 3, "law.go:278", #[], none⟩ (.int .i64 (j : Int)) ?_
              simp only [Act.put, List.setIfInBounds_toArray, List.set_cons_zero, List.set_cons_succ]
              refine tk 18 ⟨some 101, .convert 3 5 (.tmp 100), 5, "law.go:278", #[⟨17, .data⟩], none⟩ (.int .u8 ((j % 256 : Nat) : Int)) ?_ (hy := Or.inl ⟨by rfl, by intro w hSw; have t3 : IntKind.u8.wrap (j : Int) = (j : Int) % 256 := (by simp [IntKind.wrap, IntKind.signed, IntKind.bits]); go_simp⟩)
              simp only [Act.put, List.setIfInBounds_toArray, List.set_cons_zero, List.set_cons_succ]
              refine wpAnyH_ready (rs := [19]) (by kernel_rfl) (by simp) (AllReadyH.cons (o := ⟨some 102, .call { callee := .value (.func 8), args := #[.tmp 89, .tmp 94, .tmp 99, .tmp 101], argTypes := #[24, 25, 26, 5] }, 28, "law.go:278", #[⟨6, .data⟩, ⟨11, .data⟩, ⟨16, .data⟩, ⟨18, .data⟩], none⟩) rfl (fun KQ hK => ?_) AllReadyH.nil)
              go_simp
              refine (hold_any W _ a1 a2 a3 ls.length ws.length bs.length c1 c2 c3 (j % 256) _ _ _ _ _ (by omega) (take_rows HK5.out) HLN.out.1 HLN.out.2.1 HLN.out.2.2).mono ?_
              rintro e w6 ⟨m1, m2, m3, rfl, hk6⟩
              have o1 : w6.ownsRow W.heap.size 9 1 m1 (ls.length + 1) (rp (ls.length + 1) [.string (mks (j % 256))]) := (hk6.each _ (List.mem_cons_self ..)).m
              have o2 : w6.ownsRow W.heap.size 61 3 m2 (ws.length + 1) (rp (ws.length + 1) (mkw (j % 256))) := (hk6.each _ (List.mem_cons_of_mem _ (List.mem_cons_self ..))).m
              have o3 : w6.ownsRow W.heap.size 5 1 m3 (bs.length + 1) (rp (bs.length + 1) (mkb (j % 256))) := (hk6.each _ (List.mem_cons_of_mem _ (List.mem_cons_of_mem _ (List.mem_cons_self ..)))).m
              obtain ⟨b1, d1, rfl⟩ := own_frm o1 (by decide)
              obtain ⟨b2, d2, rfl⟩ := own_frm o2 (by decide)
              obtain ⟨b3, d3, rfl⟩ := own_frm o3 (by decide)
              clear o1 o2 o3
              have hc6 := bk_cell hk6 HLL.out HDL.out
              have HK6 := hid hk6
              clear hk6 HK5
              go_wp2_with fail
              refine hK.out _ _ ⟨by have := hc6 0 _ rfl; rw [Nat.add_zero] at this; exact this, hc6 2 _ rfl, hc6 4 _ rfl⟩ (fun hHeld => ?_)
              clear hK KQ
              try simp only [Act.put, List.setIfInBounds_toArray, List.set_cons_zero, List.set_cons_succ]
              refine tk 20 ⟨some 103, .indexAddr 23 (.tmp 83) (.tmp 84), 0, "law.go:278", #[⟨0, .data⟩, ⟨1, .data⟩, ⟨0, .phase⟩, ⟨1, .phase⟩, ⟨2, .phase⟩, ⟨3, .phase⟩, ⟨4, .phase⟩, ⟨5, .phase⟩, ⟨6, .phase⟩, ⟨7, .phase⟩, ⟨8, .phase⟩, ⟨9, .phase⟩, ⟨10, .phase⟩, ⟨11, .phase⟩, ⟨12, .phase⟩, ⟨13, .phase⟩, ⟨14, .phase⟩, ⟨15, .phase⟩, ⟨16, .phase⟩, ⟨17, .phase⟩, ⟨18, .phase⟩, ⟨19, .phase⟩], none⟩ (.pointer (some ⟨gB, j * 7, none⟩)) ?_ (hy := Or.inl ⟨by rfl, by intro w hSw; have t1 := q1; go_simp⟩)
              simp only [Act.put, List.setIfInBounds_toArray, List.set_cons_zero, List.set_cons_succ]
              refine wpAnyH_ready (rs := [21]) (by kernel_rfl) (by simp) (AllReadyH.cons (o := ⟨none, .store 28 (.tmp 103) (.tmp 102), 0, "law.go:278", #[⟨20, .data⟩, ⟨19, .data⟩, ⟨19, .chain⟩, ⟨0, .phase⟩, ⟨1, .phase⟩, ⟨2, .phase⟩, ⟨3, .phase⟩, ⟨4, .phase⟩, ⟨5, .phase⟩, ⟨6, .phase⟩, ⟨7, .phase⟩, ⟨8, .phase⟩, ⟨9, .phase⟩, ⟨10, .phase⟩, ⟨11, .phase⟩, ⟨12, .phase⟩, ⟨13, .phase⟩, ⟨14, .phase⟩, ⟨15, .phase⟩, ⟨16, .phase⟩, ⟨17, .phase⟩, ⟨18, .phase⟩, ⟨19, .phase⟩], none⟩) rfl (fun KQ hK => ?_) AllReadyH.nil)
              rw [if_pos (by rfl)]
              refine wp_store_bk _ _ rfl HK6.out HLL.out j HDL.out ⟨.slice a1 ls.length c1, .slice b1 (ls.length + 1) d1, .slice a2 ws.length c2, .slice b2 (ws.length + 1) d2, .slice a3 bs.length c3, .slice b3 (bs.length + 1) d3, ls.length, ws.length, bs.length, j % 256⟩ (by simp [Hd.cs, Value.oneCell']) rfl rfl ?_
              intro w7 hk7
              have hc7 := bk_cell2 hk7 (HLM.out _) (last_get Ds _ HDL.out)
              have HK7 := hid (hk7.hsub (hks_mem (Ds := Ds) (d := ⟨.slice a1 ls.length c1, .slice b1 (ls.length + 1) d1, .slice a2 ws.length c2, .slice b2 (ws.length + 1) d2, .slice a3 bs.length c3, .slice b3 (bs.length + 1) d3, ls.length, ws.length, bs.length, j % 256⟩) rfl))
              clear hk7 HK6
              refine hK.out _ _ ⟨by have := hc7 0 _ rfl; rw [Nat.add_zero] at this; exact this, hc7 2 _ rfl, hc7 4 _ rfl⟩ (fun hHeld => ?_)
              clear hK KQ
              try simp only [Act.put]
              refine wpAnyH_done (by kernel_rfl) ?_ _
              go_wp2_with fail
              go_roundw
              case measure => simp [intOf] <;> omega
              case rel => exact ⟨j + 1, Ds ++ [⟨.slice a1 ls.length c1, .slice b1 (ls.length + 1) d1, .slice a2 ws.length c2, .slice b2 (ws.length + 1) d2, .slice a3 bs.length c3, .slice b3 (bs.length + 1) d3, ls.length, ws.length, bs.length, j % 256⟩], by omega, by simp, by rw [List.length_append, HDL.out]; rfl, hid (fun d hd => by
                rcases List.mem_append.1 hd with h | h
                · exact HOK.out d h
                · obtain rfl := List.mem_singleton.1 h
                  exact ⟨Nat.mod_lt _ (by decide), HLN.out.1, HLN.out.2.1, HLN.out.2.2⟩), HK7⟩
            · have hjN : N = j := by omega
              subst hjN
              go_wp2_with fail
              have HK4 : Hid (KS W wr (bk (.slice aB N cB) Ds [] :: []) (Ds.flatMap Hd.hks)) := hid (by
                have h := HK.out
                rw [List.drop_eq_nil_of_le (by rw [HAL.out]; exact Nat.le_refl _)] at h
                exact h)
              clear HK hj hlt
              go_loopw [11, 12] (fun i _ wr => ∃ (j : Nat), j ≤ N ∧ i = .int .i64 (j : Int) ∧ Hid (KS W wr (bk (.slice aB N cB) Ds [] :: []) (Ds.flatMap Hd.hks))) (fun i _ _ => N - (intOf i).toNat)
              case atStart => exact ⟨0, Nat.zero_le _, rfl, HK4⟩
              case round =>
                clear HK4
                obtain ⟨j, hj, rfl, HK⟩ := hrel
                have HLZ : Hid (Ds.length + ([] : List An).length = N) := hid (by rw [HDL.out]; rfl)
                by_cases hlt : j < N
                · have q1 : (j : Int) < (N : Int) := by omega
                  obtain ⟨gB, cB', hv, _, _, _⟩ := bk_at HK.out HLZ.out (by omega)
                  injection hv with hv _ hv3
                  subst hv hv3
                  obtain ⟨d, hd⟩ : ∃ d, Ds[j]? = some d := ⟨_, List.getElem?_eq_getElem (by rw [HDL.out]; exact hlt)⟩
                  have hc := bk_cell2 HK.out HLZ.out hd
                  have hok := HOK.out d (List.mem_of_getElem? hd)
                  have HHK := hid (hd_ok HK.out hd)
                  obtain ⟨l1, m1, l2, m2, l3, m3, k1, k2, k3, m⟩ := d
                  have HOD := hid hok
                  have y0 : wr.cell? ⟨gB, j * 7, none⟩ = some l1 := by have := hc 0 _ rfl; rw [Nat.add_zero] at this; exact this
                  have y1 : wr.cell? ⟨gB, j * 7 + 1, none⟩ = some m1 := hc 1 _ rfl
                  have y2 : wr.cell? ⟨gB, j * 7 + 2, none⟩ = some l2 := hc 2 _ rfl
                  have y3 : wr.cell? ⟨gB, j * 7 + 3, none⟩ = some m2 := hc 3 _ rfl
                  have y4 : wr.cell? ⟨gB, j * 7 + 4, none⟩ = some l3 := hc 4 _ rfl
                  have y5 : wr.cell? ⟨gB, j * 7 + 5, none⟩ = some m3 := hc 5 _ rfl
                  have y6 : wr.cell? ⟨gB, j * 7 + 6, none⟩ = some (.int .u8 (m : Int)) := hc 6 _ rfl
                  clear hc hok hd
                  go_wp2_with fail
                  refine (stays_any wr W.heap.size k1 k2 k3 m l1 m1 l2 m2 l3 m3 HOD.out.m (HHK.out _ (List.mem_cons_self ..)) (HHK.out _ (List.mem_cons_of_mem _ (List.mem_cons_self ..))) (HHK.out _ (List.mem_cons_of_mem _ (List.mem_cons_of_mem _ (List.mem_cons_self ..)))) HOD.out.n1 HOD.out.n2 HOD.out.n3).mono ?_
                  rintro e w5 ⟨rfl, hb5⟩
                  have HK5 := hid (HK.out.on hb5)
                  clear hb5 HK y0 y1 y2 y3 y4 y5 y6
                  go_wp2_with fail
                  go_roundw
                  case measure => simp [intOf] <;> omega
                  case rel => exact ⟨j + 1, by omega, by simp, HK5⟩
                · have hjN : N = j := by omega
                  subst hjN
                  go_wp2_with fail
                  refine (head_any wr (HTB.out.on HK.out.below)).mono ?_
                  rintro e w5 ⟨rfl, hb5⟩
                  have HK5 := hid (HK.out.on hb5)
                  clear hb5 HK
                  go_wp2_with fail
                  go_ret
                  exact ⟨rfl, HK5.out.below⟩
end Go.Proofs.YtbjinmlelchmgaaGreatDoor
