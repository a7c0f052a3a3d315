import Derived.Test.YtildhjiddidghaaGreatDoorP49
import Derived.Test.YtildhjiddidghaaGreatDoorP33
import Derived.Test.YtildhjiddidghaaGreatDoorP43
import Derived.Test.YtildhjiddidghaaGreatDoorP01
import Derived.Test.YtildhjiddidghaaGreatDoorP44
import Derived.Test.YtildhjiddidghaaGreatDoorP45
namespace Go.Proofs.YtildhjiddidghaaGreatDoor
open Go.RowKit
set_option maxHeartbeats 8000000
set_option maxRecDepth 100000
theorem broken_d (w : World) (p : Rp) (d : DS) (h : RDB w p d) (hu : d.m.U) :
    Calls Tryz.prog 54 #[ptr p.g] w fun e w' => e = .returned (.tuple #[.int .i64 (d.fb 1 12).1, .int .i64 (d.fb 1 12).2]) ∧ Below w.heap.size w w' := by
  have HX := hid h
  have HAt := hid (fun w (h : RDB w p d) k hk c h1 h2 => at_d w p d h hu k hk c h1 h2)
  have HN := hid h.ok.n64
  have HC := hid (fun w (h : RDB w p d) => h.c1)
  obtain ⟨R, hR⟩ : ∃ R, d.fb 1 12 = R := ⟨_, rfl⟩
  rw [hR]
  have HR := hid hR
  clear h hu hR
  simp only [ptr] at *
  go_enter Tryz.func54, Tryz.ntmps54
  go_upto_region 2 with fail
  go_loopw [4] (fun i wr => ∃ c : Nat, 1 ≤ c ∧ c ≤ 13 ∧ i = .int .i64 (c : Int) ∧ Hid (Below w.heap.size w wr ∧ d.fb c (13 - c) = R)) (fun i _ => 13 - (intOf i).toNat)
  case atStart => exact ⟨1, by omega, by omega, rfl, hid ⟨Below.refl _ _, HR.out⟩⟩
  case round =>
    obtain ⟨c, hc0, hc1, rfl, HQ⟩ := hrel
    by_cases hlt : c ≤ 12
    · have q1 : (c : Int) ≤ 12 := by omega
      have HCc := hid (And.intro hc0 hlt)
      have HFb : Hid (d.fb c (13 - c) = match d.bad c with | some q => ((c : Int), (q : Int)) | none => d.fb (c + 1) (13 - (c + 1))) := hid (by
        obtain ⟨m, hm⟩ : ∃ m, 13 - c = m + 1 := ⟨12 - c, by omega⟩
        rw [hm, DS.fb, show 13 - (c + 1) = m by omega]
        cases d.bad c <;> rfl)
      clear hlt hc0 hc1
      go_upto_region 5 with fail
      go_loopw [5] (fun i w' => ∃ q : Nat, q ≤ d.m.ns ∧ i = .int .i64 (q : Int) ∧ Hid (Below w.heap.size w w' ∧ ∀ j, j < q → d.at12 c j = true)) (fun i _ => d.m.ns - (intOf i).toNat)
      case atStart => exact ⟨0, Nat.zero_le _, rfl, hid ⟨HQ.out.1, by intro r hr; omega⟩⟩
      case round =>
        obtain ⟨j, hj, rfl, HK⟩ := hrel
        have HXj := hid (HX.out.on HK.out.1)
        have x1 := HC.out _ HXj.out
        by_cases hjn : j < d.m.ns
        · have q3 : (j : Int) < (d.m.ns : Int) := by omega
          have hn := HN.out
          have q4 : (j : Int) ≤ 64 := by omega
          have HCa := hid (HAt.out _ HXj.out j hjn c HCc.out.1 HCc.out.2)
          have HJ := hid hjn
          clear hjn hj hn
          cases hy : d.at12 c j
          · rw [hy] at HCa
            have HBd := hid (bad_some HJ.out hy HK.out.2)
            clear hy
            go_wp2_with (go_at_call 91; refine HCa.out.mono ?_; rintro e w4 ⟨rfl, hb⟩; have B4 := hid (below_on HK.out.1 hb); clear hb)
            go_ret2
            rw [← HQ.out.2, HFb.out, HBd.out]
            exact ⟨rfl, B4.out⟩
          · rw [hy] at HCa
            have HY := hid hy
            clear hy
            go_wp2_with (go_at_call 91; refine HCa.out.mono ?_; rintro e w4 ⟨rfl, hb⟩; have B4 := hid (below_on HK.out.1 hb); clear hb)
            go_roundw
            case measure => have := HJ.out; simp [intOf] <;> omega
            case rel => exact ⟨j + 1, HJ.out, by simp, hid ⟨B4.out, fun q hq => by
              by_cases e : q = j
              · rw [e]; exact HY.out
              · exact HK.out.2 q (by omega)⟩⟩
        · have hjn' : j = d.m.ns := by omega
          subst hjn'
          have HBd := hid (bad_none HK.out.2)
          clear hjn hj
          go_wp2_with fail
          go_roundw
          case measure => have := HCc.out; simp [intOf] <;> omega
          case rel => exact ⟨c + 1, by omega, by have := HCc.out; omega, by simp, hid ⟨HK.out.1, by rw [← HQ.out.2, HFb.out, HBd.out]⟩⟩
    · have hcn : c = 13 := by omega
      have q1 : ¬ ((c : Int) ≤ 12) := by omega
      have HR2 : Hid (R = (0, 0)) := hid (by rw [← HQ.out.2, hcn]; rfl)
      clear hlt hc0 hc1 hcn
      go_wp2_with fail
      go_ret2
      rw [HR2.out]
      exact ⟨rfl, HQ.out.1⟩
theorem holds_d (w : World) (p : Rp) (d : DS) (h : RDB w p d) (hu : d.m.U) (c : Int) :
    Calls Tryz.prog 55 #[ptr p.g, .int .i64 c] w fun e w' => e = .returned (.bool (d.holds c)) ∧ Below w.heap.size w w' := by
  by_cases h1 : c < 1
  · have HV : Hid (d.holds c = false) := hid (by unfold DS.holds; simp; omega)
    clear h hu
    simp only [ptr] at *
    generalize d.holds c = R at *
    go_enter Tryz.func55, Tryz.ntmps55
    go_wp2_with fail
    go_ret
    rw [HV.out]
    exact ⟨rfl, Below.refl _ _⟩
  · by_cases h2 : 12 < c
    · have HV : Hid (d.holds c = false) := hid (by unfold DS.holds; simp; omega)
      clear h hu
      simp only [ptr] at *
      generalize d.holds c = R at *
      go_enter Tryz.func55, Tryz.ntmps55
      go_wp2_with fail
      go_ret
      rw [HV.out]
      exact ⟨rfl, Below.refl _ _⟩
    · obtain ⟨k, rfl⟩ : ∃ k : Nat, (k : Int) = c := ⟨c.toNat, by omega⟩
      have hk1 : 1 ≤ k := by omega
      have hk2 : k ≤ 12 := by omega
      have HV := hid (holds_bad d k hk1 hk2)
      have HX := hid h
      have HAt := hid (fun w (h : RDB w p d) q hq => at_d w p d h hu q hq k hk1 hk2)
      have HN := hid h.ok.n64
      have HC := hid (fun w (h : RDB w p d) => h.c1)
      have HNo := hid (fun q => @bad_some d k q)
      have HYe := hid (@bad_none d k)
      clear h hu hk1 hk2
      simp only [ptr] at *
      generalize d.holds (k : Int) = R at *
      generalize hA : d.at12 k = A at *
      clear hA
      generalize d.bad k = b at *
      generalize (k : Int) = c at *
      generalize d.m.ns = n at *
      go_enter Tryz.func55, Tryz.ntmps55
      go_upto_region 4 with fail
      go_loopw [5] (fun i w' => ∃ q : Nat, q ≤ n ∧ i = .int .i64 (q : Int) ∧ Hid (Below w.heap.size w w' ∧ ∀ j, j < q → A j = true)) (fun i _ => n - (intOf i).toNat)
      case atStart => exact ⟨0, Nat.zero_le _, rfl, hid ⟨Below.refl _ _, by intro r hr; omega⟩⟩
      case round =>
        obtain ⟨j, hj, rfl, HK⟩ := hrel
        have HXj := hid (HX.out.on HK.out.1)
        have x1 := HC.out _ HXj.out
        by_cases hjn : j < n
        · have q3 : (j : Int) < (n : Int) := by omega
          have hn := HN.out
          have q4 : (j : Int) ≤ 64 := by omega
          have HCa := hid (HAt.out _ HXj.out j hjn)
          have HJ := hid hjn
          clear hjn hj hn
          cases hy : A j
          · rw [hy] at HCa
            have HBd := hid (HNo.out j HJ.out hy HK.out.2)
            clear hy
            go_wp2_with (go_at_call 91; refine HCa.out.mono ?_; rintro e w4 ⟨rfl, hb⟩; have B4 := hid (below_on HK.out.1 hb); clear hb)
            go_ret
            rw [HV.out, HBd.out]
            exact ⟨rfl, B4.out⟩
          · rw [hy] at HCa
            have HY := hid hy
            clear hy
            go_wp2_with (go_at_call 91; refine HCa.out.mono ?_; rintro e w4 ⟨rfl, hb⟩; have B4 := hid (below_on HK.out.1 hb); clear hb)
            go_roundw
            case measure => have := HJ.out; simp [intOf] <;> omega
            case rel => exact ⟨j + 1, HJ.out, by simp, hid ⟨B4.out, fun q hq => by
              by_cases e : q = j
              · rw [e]; exact HY.out
              · exact HK.out.2 q (by omega)⟩⟩
        · have hjn' : j = n := by omega
          subst hjn'
          have HBd := hid (HYe.out HK.out.2)
          clear hjn hj
          go_wp2_with fail
          go_ret
          rw [HV.out, HBd.out]
          exact ⟨rfl, HK.out.1⟩
end Go.Proofs.YtildhjiddidghaaGreatDoor
namespace Go.Proofs.YtildhjiddidghaaGreatDoor
open Go.RowKit
set_option maxHeartbeats 8000000
set_option maxRecDepth 100000
def txT : List (List UInt8) := [[97, 32, 115, 112, 97, 99, 101, 32, 111, 119, 110, 115, 32, 105, 116, 115, 101, 108, 102], [97, 32, 102, 114, 101, 101, 32, 112, 97, 103, 101, 32, 105, 115, 32, 122, 101, 114, 111], [97, 110, 32, 111, 119, 110, 101, 114, 32, 105, 115, 32, 97, 32, 115, 112, 97, 99, 101], [97, 32, 115, 112, 97, 99, 101, 32, 99, 111, 117, 110, 116, 115, 32, 105, 116, 115, 32, 112, 97, 103, 101, 115], [98, 105, 114, 116, 104, 115, 32, 97, 114, 101, 32, 117, 110, 108, 105, 107, 101], [97, 32, 115, 112, 97, 99, 101, 39, 115, 32, 119, 111, 114, 100, 115, 32, 97, 114, 101, 32, 105, 116, 115, 32, 115, 116, 97, 116, 101, 39, 115], [97, 32, 115, 112, 97, 99, 101, 32, 104, 97, 115, 32, 111, 110, 101, 32, 102, 105, 114, 115, 116, 32, 116, 97, 98, 108, 101], [97, 32, 102, 105, 114, 115, 116, 32, 116, 97, 98, 108, 101, 32, 110, 97, 109, 101, 115, 32, 116, 104, 101, 32, 115, 101, 99, 111, 110, 100, 32, 111, 110, 101, 115], [97, 32, 115, 101, 99, 111, 110, 100, 32, 116, 97, 98, 108, 101, 32, 109, 97, 112, 115, 32, 119, 104, 97, 116, 32, 105, 116, 32, 109, 97, 121], [97, 32, 100, 97, 116, 97, 32, 112, 97, 103, 101, 32, 105, 115, 32, 109, 97, 112, 112, 101, 100, 32, 111, 110, 99, 101], [97, 32, 116, 104, 114, 101, 97, 100, 32, 105, 115, 32, 119, 104, 111, 108, 101], [97, 32, 115, 112, 97, 114, 101, 32, 112, 97, 103, 101, 32, 105, 115, 32, 122, 101, 114, 111]]
def txS (c : Int) : ByteArray := if 1 ≤ c ∧ c ≤ 12 then ⟨(txT.getD (c.toNat - 1) []).toArray⟩ else ⟨#[]⟩
def TxAt (W : World) : Prop := ∀ n : Nat, n < 12 → W.cell? ⟨0, n, none⟩ = some (.string ⟨(txT.getD n []).toArray⟩)
theorem cell_below {W w : World} {b i : Nat} (hb : Below W.heap.size W w) (h : b < W.heap.size) : w.cell? ⟨b, i, none⟩ = W.cell? ⟨b, i, none⟩ := by
  unfold World.cell?
  rw [show ({ block := b, off := i, spot := none } : Addr).block = b from rfl, hb.block _ h]
theorem c12 {c : Int} (h1 : 1 ≤ c) (h2 : c ≤ 12) : c = 1 ∨ c = 2 ∨ c = 3 ∨ c = 4 ∨ c = 5 ∨ c = 6 ∨ c = 7 ∨ c = 8 ∨ c = 9 ∨ c = 10 ∨ c = 11 ∨ c = 12 := by omega
theorem txS_no {c : Int} (h : ¬ (1 ≤ c ∧ c ≤ 12)) : txS c = ⟨#[]⟩ := by unfold txS; rw [if_neg h]
theorem under101 : Tryz.prog.underlying 101 = some (.array 12 9) := by kernel_rfl
theorem size9 : (Tryz.prog.info? 9).map (·.size) = some 1 := by kernel_rfl
theorem wpList_idx {ops : Array Oper} {rest : List Oper} {o : Oper} {a : Act} {w : World} {Q : Exit → Act → World → Prop} (hgd : o.guard = none) (x i : Operand) (ho : o.op = .index 101 x i) (cs : Array Value) (hx : a.eval x = .agg cs) (j : Nat) (hi : a.eval i = .int .i64 (j : Int)) (hj : j < 12) (v : Value) (hv : cs[j]? = some v) (hs : ∃ s, v = .string s)
    (h : wpList Tryz.prog ops Q rest (a.put o.dst v) w) : wpList Tryz.prog ops Q (o :: rest) a w := by
  have hr : (Instr.index 101 (.agg cs) (.int .i64 (j : Int))).run Tryz.prog w = .ok v w := by
    obtain ⟨s, rfl⟩ := hs
    have hb : (0 : Int) ≤ (j : Int) ∧ (j : Int) < ((12 : Nat) : Int) := by omega
    obtain ⟨it, hit, hz⟩ : ∃ it, Tryz.prog.info? 9 = some it ∧ it.size = 1 := by
      have := size9
      cases h9 : Tryz.prog.info? 9 with
      | none => rw [h9] at this; cases this
      | some it => rw [h9] at this; exact ⟨it, rfl, by simpa using this⟩
    simp [Instr.index, run_underlying under101, asIntOf, hb, sizeOf, typeInfo, hit, hz, hv, go_sem]
    intro hh
    omega
  refine wpList_plain hgd fun K hK => ?_
  unfold Oper.wp execOp
  simp only [ho, hx, hi, Sem.run_bind, Sem.run_pure, hr, Result.andThen_ok]
  exact hK _ _ h
theorem says_p (W : World) (hS : TxAt W) (c : Int) : Calls Tryz.prog 19 #[.int .i64 c] W fun e w' => e = .returned (.string (txS c)) ∧ W = w' := by
  have HI := hid (isClause_v W c)
  by_cases h : 1 ≤ c ∧ c ≤ 12
  · have e1 : (decide (1 ≤ c) && decide (c ≤ 12)) = true := by simp; exact h
    rw [e1] at HI
    clear e1
    rcases c12 h.1 h.2 with rfl | rfl | rfl | rfl | rfl | rfl | rfl | rfl | rfl | rfl | rfl | rfl
    · have x0 := hS 0 (by decide)
      clear hS h
      go_enter Tryz.func19, Tryz.ntmps19
      go_wp2_with (go_at_call 47; refine HI.out.mono ?_; rintro e w1 ⟨rfl, hw⟩; subst hw)
      go_ret
      exact ⟨rfl, rfl⟩
    · have x0 := hS 1 (by decide)
      clear hS h
      go_enter Tryz.func19, Tryz.ntmps19
      go_wp2_with (go_at_call 47; refine HI.out.mono ?_; rintro e w1 ⟨rfl, hw⟩; subst hw)
      go_ret
      exact ⟨rfl, rfl⟩
    · have x0 := hS 2 (by decide)
      clear hS h
      go_enter Tryz.func19, Tryz.ntmps19
      go_wp2_with (go_at_call 47; refine HI.out.mono ?_; rintro e w1 ⟨rfl, hw⟩; subst hw)
      go_ret
      exact ⟨rfl, rfl⟩
    · have x0 := hS 3 (by decide)
      clear hS h
      go_enter Tryz.func19, Tryz.ntmps19
      go_wp2_with (go_at_call 47; refine HI.out.mono ?_; rintro e w1 ⟨rfl, hw⟩; subst hw)
      go_ret
      exact ⟨rfl, rfl⟩
    · have x0 := hS 4 (by decide)
      clear hS h
      go_enter Tryz.func19, Tryz.ntmps19
      go_wp2_with (go_at_call 47; refine HI.out.mono ?_; rintro e w1 ⟨rfl, hw⟩; subst hw)
      go_ret
      exact ⟨rfl, rfl⟩
    · have x0 := hS 5 (by decide)
      clear hS h
      go_enter Tryz.func19, Tryz.ntmps19
      go_wp2_with (go_at_call 47; refine HI.out.mono ?_; rintro e w1 ⟨rfl, hw⟩; subst hw)
      go_ret
      exact ⟨rfl, rfl⟩
    · have x0 := hS 6 (by decide)
      clear hS h
      go_enter Tryz.func19, Tryz.ntmps19
      go_wp2_with (go_at_call 47; refine HI.out.mono ?_; rintro e w1 ⟨rfl, hw⟩; subst hw)
      go_ret
      exact ⟨rfl, rfl⟩
    · have x0 := hS 7 (by decide)
      clear hS h
      go_enter Tryz.func19, Tryz.ntmps19
      go_wp2_with (go_at_call 47; refine HI.out.mono ?_; rintro e w1 ⟨rfl, hw⟩; subst hw)
      go_ret
      exact ⟨rfl, rfl⟩
    · have x0 := hS 8 (by decide)
      clear hS h
      go_enter Tryz.func19, Tryz.ntmps19
      go_wp2_with (go_at_call 47; refine HI.out.mono ?_; rintro e w1 ⟨rfl, hw⟩; subst hw)
      go_ret
      exact ⟨rfl, rfl⟩
    · have x0 := hS 9 (by decide)
      clear hS h
      go_enter Tryz.func19, Tryz.ntmps19
      go_wp2_with (go_at_call 47; refine HI.out.mono ?_; rintro e w1 ⟨rfl, hw⟩; subst hw)
      go_ret
      exact ⟨rfl, rfl⟩
    · have x0 := hS 10 (by decide)
      clear hS h
      go_enter Tryz.func19, Tryz.ntmps19
      go_wp2_with (go_at_call 47; refine HI.out.mono ?_; rintro e w1 ⟨rfl, hw⟩; subst hw)
      go_ret
      exact ⟨rfl, rfl⟩
    · have x0 := hS 11 (by decide)
      clear hS h
      go_enter Tryz.func19, Tryz.ntmps19
      go_wp2_with (go_at_call 47; refine HI.out.mono ?_; rintro e w1 ⟨rfl, hw⟩; subst hw)
      go_ret
      exact ⟨rfl, rfl⟩
  · have e1 : (decide (1 ≤ c) && decide (c ≤ 12)) = false := by simp; omega
    rw [e1] at HI
    rw [txS_no h]
    clear e1 hS h
    go_enter Tryz.func19, Tryz.ntmps19
    go_wp2_with (go_at_call 47; refine HI.out.mono ?_; rintro e w1 ⟨rfl, hw⟩; subst hw)
    go_ret
    exact ⟨rfl, rfl⟩
theorem says_d (W : World) (c : Int) : Calls Tryz.prog 20 #[.int .i64 c] W fun e w' => e = .returned (.string (txS c)) ∧ W = w' := by
  by_cases h1 : c < 1
  · rw [txS_no (by omega)]
    go_enter Tryz.func20, Tryz.ntmps20
    go_wp2_with fail
    go_ret
    exact ⟨rfl, rfl⟩
  · by_cases h2 : 12 < c
    · rw [txS_no (by omega)]
      go_enter Tryz.func20, Tryz.ntmps20
      go_wp2_with fail
      go_ret
      exact ⟨rfl, rfl⟩
    · rcases c12 (c := c) (by omega) (by omega) with rfl | rfl | rfl | rfl | rfl | rfl | rfl | rfl | rfl | rfl | rfl | rfl
      · clear h1 h2
        go_enter Tryz.func20, Tryz.ntmps20
        go_wp2_with (refine wpList_idx rfl _ _ rfl _ rfl 0 rfl (by decide) _ rfl ⟨_, rfl⟩ ?_)
        go_ret
        exact ⟨rfl, rfl⟩
      · clear h1 h2
        go_enter Tryz.func20, Tryz.ntmps20
        go_wp2_with (refine wpList_idx rfl _ _ rfl _ rfl 1 rfl (by decide) _ rfl ⟨_, rfl⟩ ?_)
        go_ret
        exact ⟨rfl, rfl⟩
      · clear h1 h2
        go_enter Tryz.func20, Tryz.ntmps20
        go_wp2_with (refine wpList_idx rfl _ _ rfl _ rfl 2 rfl (by decide) _ rfl ⟨_, rfl⟩ ?_)
        go_ret
        exact ⟨rfl, rfl⟩
      · clear h1 h2
        go_enter Tryz.func20, Tryz.ntmps20
        go_wp2_with (refine wpList_idx rfl _ _ rfl _ rfl 3 rfl (by decide) _ rfl ⟨_, rfl⟩ ?_)
        go_ret
        exact ⟨rfl, rfl⟩
      · clear h1 h2
        go_enter Tryz.func20, Tryz.ntmps20
        go_wp2_with (refine wpList_idx rfl _ _ rfl _ rfl 4 rfl (by decide) _ rfl ⟨_, rfl⟩ ?_)
        go_ret
        exact ⟨rfl, rfl⟩
      · clear h1 h2
        go_enter Tryz.func20, Tryz.ntmps20
        go_wp2_with (refine wpList_idx rfl _ _ rfl _ rfl 5 rfl (by decide) _ rfl ⟨_, rfl⟩ ?_)
        go_ret
        exact ⟨rfl, rfl⟩
      · clear h1 h2
        go_enter Tryz.func20, Tryz.ntmps20
        go_wp2_with (refine wpList_idx rfl _ _ rfl _ rfl 6 rfl (by decide) _ rfl ⟨_, rfl⟩ ?_)
        go_ret
        exact ⟨rfl, rfl⟩
      · clear h1 h2
        go_enter Tryz.func20, Tryz.ntmps20
        go_wp2_with (refine wpList_idx rfl _ _ rfl _ rfl 7 rfl (by decide) _ rfl ⟨_, rfl⟩ ?_)
        go_ret
        exact ⟨rfl, rfl⟩
      · clear h1 h2
        go_enter Tryz.func20, Tryz.ntmps20
        go_wp2_with (refine wpList_idx rfl _ _ rfl _ rfl 8 rfl (by decide) _ rfl ⟨_, rfl⟩ ?_)
        go_ret
        exact ⟨rfl, rfl⟩
      · clear h1 h2
        go_enter Tryz.func20, Tryz.ntmps20
        go_wp2_with (refine wpList_idx rfl _ _ rfl _ rfl 9 rfl (by decide) _ rfl ⟨_, rfl⟩ ?_)
        go_ret
        exact ⟨rfl, rfl⟩
      · clear h1 h2
        go_enter Tryz.func20, Tryz.ntmps20
        go_wp2_with (refine wpList_idx rfl _ _ rfl _ rfl 10 rfl (by decide) _ rfl ⟨_, rfl⟩ ?_)
        go_ret
        exact ⟨rfl, rfl⟩
      · clear h1 h2
        go_enter Tryz.func20, Tryz.ntmps20
        go_wp2_with (refine wpList_idx rfl _ _ rfl _ rfl 11 rfl (by decide) _ rfl ⟨_, rfl⟩ ?_)
        go_ret
        exact ⟨rfl, rfl⟩
theorem told_l (W w : World) (g : Nat) (p : Dp) (r : Rp) (d : DS) (h : SS W w g p r d d) (hu : d.m.U) (h0 : 0 < d.m.ns) (c : Int) :
    Calls Tryz.prog 18 #[.pointer (some ⟨g, 0, none⟩), .int .i64 c] w fun e w' => e = .returned (.bool true) ∧ Below w.heap.size w w' := by
  have HB1 := hid (fun w (hw : DB w p d) => broken_v w p d hw hu h0)
  have HB2 := hid (fun w (hw : RDB w r d) => broken_d w r d hw hu)
  have HH1 := hid (fun w (hw : DB w p d) => holds_v w p d hw hu h0 c)
  have HH2 := hid (fun w (hw : RDB w r d) => holds_d w r d hw hu c)
  have HX := hid h
  clear h hu h0
  simp only [ptr] at *
  generalize d.holds c = z at *
  generalize (d.fb 1 12).1 = x at *
  generalize (d.fb 1 12).2 = y at *
  go_enter Tryz.func18, Tryz.ntmps18
  obtain ⟨x0, x1, x2⟩ := HX.out.c
  go_upto_region 2 with (go_at_call 7; refine (HB1.out _ HX.out.own).mono ?_; rintro e w1 ⟨rfl, hb1⟩; have S1 := hid (HX.out.on hb1); have B1 := hid hb1; clear hb1)
  clear x0 x1 x2
  obtain ⟨x0, x1, x2⟩ := S1.out.c
  go_upto_region 3 with (go_at_call 54; refine (HB2.out _ S1.out.doc).mono ?_; rintro e w2 ⟨rfl, hb2⟩; have S2 := hid (S1.out.on hb2); have B2 := hid (below_on B1.out hb2); clear hb2)
  clear x0 x1 x2 S1 B1
  have S3 := hid (S2.out.on (Below.refl _ _).drew)
  have B3 := hid (below_on B2.out (Below.refl _ _).drew)
  clear S2 B2
  refine wp_region_held_drew (S := fun w => w.cell? ⟨g, 1, none⟩ = some (.pointer (some ⟨p.g, 0, none⟩)) ∧ w.cell? ⟨g, 2, none⟩ = some (.pointer (some ⟨r.g, 0, none⟩))) (by kernel_rfl) S3.out.c.2 (fun hHeld => ?_)
  refine tk 0 (some 25) (.int .i64 x) ?_
  simp only [Act.put, tqA, tqZ, tqS]
  refine tk 1 (some 26) (.int .i64 x) ?_
  simp only [Act.put, tqA, tqZ, tqS]
  refine tk 2 (some 27) (.bool true) ?_
  simp only [Act.put, tqA, tqZ, tqS]
  refine tk 3 (some 28) (.bool true) ?_
  simp only [Act.put, tqA, tqZ, tqS]
  refine tk 4 (some 29) (.int .i64 y) ?_
  simp only [Act.put, tqA, tqZ, tqS]
  refine tk 5 (some 30) (.int .i64 y) ?_
  simp only [Act.put, tqA, tqZ, tqS]
  refine tk 6 (some 31) (.bool true) ?_
  simp only [Act.put, tqA, tqZ, tqS]
  refine tk 7 (some 32) (.bool true) ?_
  simp only [Act.put, tqA, tqZ, tqS]
  refine tk 8 (some 33) (.bool true) ?_
  simp only [Act.put, tqA, tqZ, tqS]
  refine tk 9 (some 34) (.pointer (some ⟨g, 0, none⟩)) ?_
  simp only [Act.put, tqA, tqZ, tqS]
  refine tk 10 (some 35) (.pointer (some ⟨g, 0, none⟩)) ?_
  simp only [Act.put, tqA, tqZ, tqS]
  refine tk 11 (some 36) (.pointer (some ⟨g, 1, none⟩)) ?_
  simp only [Act.put, tqA, tqZ, tqS]
  refine tk 12 (some 37) (.pointer (some ⟨p.g, 0, none⟩)) ?_ (hy := Or.inl ⟨by rfl, by intro w hSw; have hc := hSw.1; go_simp⟩)
  simp only [Act.put, tqA, tqZ, tqS]
  refine tk 13 (some 38) (.int .i64 c) ?_
  simp only [Act.put, tqA, tqZ, tqS]
  refine tk 15 (some 40) (.pointer (some ⟨g, 0, none⟩)) ?_
  simp only [Act.put, tqA, tqZ, tqS]
  refine tk 16 (some 41) (.pointer (some ⟨g, 0, none⟩)) ?_
  simp only [Act.put, tqA, tqZ, tqS]
  refine tk 17 (some 42) (.pointer (some ⟨g, 2, none⟩)) ?_
  simp only [Act.put, tqA, tqZ, tqS]
  refine tk 18 (some 43) (.pointer (some ⟨r.g, 0, none⟩)) ?_ (hy := Or.inl ⟨by rfl, by intro w hSw; have hc := hSw.2; go_simp⟩)
  simp only [Act.put, tqA, tqZ, tqS]
  refine tk 19 (some 44) (.int .i64 c) ?_
  simp only [Act.put, tqA, tqZ, tqS]
  refine wpAnyH_ready (rs := [14]) (by kernel_rfl) (by simp) (AllReadyH.cons (o := ⟨some 39, .call { callee := .value (.func 14), args := #[.tmp 37, .tmp 38], argTypes := #[31, 3] }, 4, "law.go:148", #[⟨12, .data⟩, ⟨13, .data⟩, ⟨8, .chain⟩, ⟨8, .guard⟩], some (8, true)⟩) rfl (fun KQ hK => ?_) AllReadyH.nil)
  go_simp
  refine (HH1.out _ S3.out.own).mono ?_
  rintro e w4 ⟨rfl, hb4⟩
  have S4 := hid (S3.out.on hb4)
  have B4 := hid (below_on B3.out hb4)
  clear hb4 S3 B3
  go_wp2_with fail
  refine hK.out _ _ S4.out.c.2 (fun hHeld => ?_)
  clear hK KQ
  try simp only [Act.put, tqA, tqZ, tqS]
  refine wpAnyH_ready (rs := [20]) (by kernel_rfl) (by simp) (AllReadyH.cons (o := ⟨some 45, .call { callee := .value (.func 55), args := #[.tmp 43, .tmp 44], argTypes := #[32, 3] }, 4, "law.go:148", #[⟨18, .data⟩, ⟨19, .data⟩, ⟨14, .chain⟩, ⟨8, .guard⟩], some (8, true)⟩) rfl (fun KQ hK => ?_) AllReadyH.nil)
  go_simp
  refine (HH2.out _ S4.out.doc).mono ?_
  rintro e w5 ⟨rfl, hb5⟩
  have S5 := hid (S4.out.on hb5)
  have B5 := hid (below_on B4.out hb5)
  clear hb5 S4 B4
  go_wp2_with fail
  refine hK.out _ _ S5.out.c.2 (fun hHeld => ?_)
  clear hK KQ
  try simp only [Act.put, tqA, tqZ, tqS]
  refine tk 21 (some 46) (.bool true) ?_
  simp only [Act.put, tqA, tqZ, tqS]
  refine tk 22 (some 47) (.bool true) ?_
  simp only [Act.put, tqA, tqZ, tqS]
  refine wpAnyH_ready (rs := [23]) (by kernel_rfl) (by simp) (AllReadyH.cons (o := ⟨some 4, .assign (.tmp 47), 4, "law.go:148", #[⟨22, .data⟩, ⟨20, .chain⟩, ⟨0, .phase⟩, ⟨1, .phase⟩, ⟨2, .phase⟩, ⟨3, .phase⟩, ⟨4, .phase⟩, ⟨5, .phase⟩, ⟨6, .phase⟩, ⟨7, .phase⟩, ⟨8, .phase⟩, ⟨9, .phase⟩, ⟨10, .phase⟩, ⟨11, .phase⟩, ⟨12, .phase⟩, ⟨13, .phase⟩, ⟨14, .phase⟩, ⟨15, .phase⟩, ⟨16, .phase⟩, ⟨17, .phase⟩, ⟨18, .phase⟩, ⟨19, .phase⟩, ⟨20, .phase⟩, ⟨21, .phase⟩, ⟨22, .phase⟩], none⟩) rfl (fun KQ hK => ?_) AllReadyH.nil)
  go_simp
  refine hK.out _ _ S5.out.c.2 (fun hHeld => ?_)
  clear hK KQ
  try simp only [Act.put, tqA, tqZ, tqS]
  refine wpAnyH_done (by kernel_rfl) ?_ _
  go_wp2_with fail
  go_ret
  exact ⟨rfl, B5.out⟩
end Go.Proofs.YtildhjiddidghaaGreatDoor
namespace Go.Proofs.YtildhjiddidghaaGreatDoor
open Go.RowKit
set_option maxHeartbeats 8000000
set_option maxRecDepth 100000
theorem TxAt.on {W w : World} (h : TxAt W) (hb : Below W.heap.size W w) (h0 : 0 < W.heap.size) : TxAt w := fun n hn => by
  rw [cell_below hb h0]
  exact h n hn
theorem all_l (W : World) (hT : H.Tab W) (hR : H.TabR W) (hS : TxAt W) (h2 : 2 < W.heap.size) (pg ins : Int) (ao : Option Addr) (n cp : Nat) (q : Nat → Aq) (hq : ActsAt W ao n q) (hn : (n : Int) ≤ 4611686018427387904) (cl : Int) :
    Calls Tryz.prog 5 #[.int .i64 pg, .int .i64 ins, .slice ao n cp, .int .i64 cl] W fun e W' => e = .returned (.bool true) ∧ Below W.heap.size W W' := by
  have HBg := hid (begun_l W pg ins)
  have HFr := hid (fun w => fresh_l w)
  have HAc := hid (fun w g p r d (h : SS W w g p r d d) (h0 : 0 < d.m.ns) (hu : d.m.U) (j : Nat) (hj : j < n) => act_any W w hT hR h2 g p r d h h0 hu (q j).k (q j).a (q j).b (q j).c (q j).v (hq.v j hj).1 (hq.v j hj).2 (q j).uo (q j).un (q j).uc)
  have HTo := hid (fun w g p r d (h : SS W w g p r d d) (hu : d.m.U) (h0 : 0 < d.m.ns) c => told_l W w g p r d h hu h0 c)
  have HS1 := hid (fun w (hb : Below W.heap.size W w) c => says_p w (hS.on hb (by omega)) c)
  have HS2 := hid (fun w c => says_d w c)
  have HQ := hid hq
  have HZ := hid (And.intro (begun_ns pg ins) (And.intro (begun_Z pg ins).u (sz_rg pg)))
  clear hT hR h2 hq hS
  generalize DS.begun pg ins = d0 at *
  go_enter Tryz.func5, Tryz.ntmps5
  go_upto_region 4 with (first | (go_at_call 9; refine HBg.out.mono ?_; rintro e w1 ⟨g, p1, r1, rfl, hs1⟩; have S1 := hid hs1; clear hs1) | (go_at_call 10; refine (HFr.out _).mono ?_; rintro e w2 ⟨rfl, hb2⟩; have S2 := hid (S1.out.on hb2); clear hb2 S1))
  clear HBg HFr
  go_upto_region 5 with fail
  go_loopw [10] (fun i wr => ∃ (j : Nat) (p : Dp) (r : Rp) (d : DS), j ≤ n ∧ i = .int .i64 (j : Int) ∧ Hid (SS W wr g p r d d) ∧ Hid (d.m.U ∧ 0 < d.m.ns)) (fun i _ => n - (intOf i).toNat)
  case atStart => exact ⟨0, p1, r1, d0, Nat.zero_le _, rfl, S2, hid ⟨HZ.out.2.1, by have := HZ.out; omega⟩⟩
  case round =>
    obtain ⟨j, p, r, d, hj, rfl, HS, HU⟩ := hrel
    clear S2
    by_cases hlt : j < n
    · have q1 : (j : Int) < (n : Int) := by omega
      obtain ⟨ga, oa, rfl, hga, _⟩ := HQ.out.at_ (by omega)
      have HRow := hid (HQ.out.row HS.out.bl hlt)
      have HA := hid (HAc.out _ g p r d HS.out HU.out.2 HU.out.1 j hlt)
      have HJ := hid hlt
      clear hlt hj hga
      go_wp2_with (first | (refine H.wpList_load_mid rfl 42 _ rfl ga (oa + j * 6) rfl _ _ HRow.out under42 rfl (by rw [size42]; rfl) ?_) | (go_at_call 11; refine HA.out.mono ?_; rintro e w3 ⟨rfl, p', r', d', hs3, hst⟩; have S3 := hid hs3; have U3 : Hid (d'.m.U ∧ 0 < d'.m.ns) := hid ⟨hst.u, by rw [hst.ns]; exact HU.out.2⟩; clear hs3 hst) | (go_at_call 18; refine (HTo.out _ g p' r' d' S3.out U3.out.1 U3.out.2 cl).mono ?_; rintro e w4 ⟨rfl, hb4⟩; have S4 := hid (S3.out.on hb4); clear hb4))
      go_roundw
      case measure => have := HJ.out; simp [intOf] <;> omega
      case rel => exact ⟨j + 1, p', r', d', HJ.out, by simp, S4, U3⟩
    · obtain rfl : j = n := by omega
      clear hlt hj HAc HQ HZ
      go_upto_region 10 with fail
      go_loopw [11] (fun i w' => ∃ (c : Nat), c ≤ 15 ∧ i = .int .i64 ((c : Int) - 1) ∧ Hid (SS W w' g p r d d)) (fun i _ => 15 - (intOf i + 1).toNat)
      case atStart => exact ⟨0, by omega, rfl, HS⟩
      case round =>
        obtain ⟨c, hc, rfl, HS'⟩ := hrel
        by_cases hlt : c < 15
        · have HTc := hid (fun w (h : SS W w g p r d d) => HTo.out w g p r d h HU.out.1 HU.out.2 ((c : Int) - 1))
          have HP := hid (fun w (hb : Below W.heap.size W w) => HS1.out w hb ((c : Int) - 1))
          have HD := hid (fun w => HS2.out w ((c : Int) - 1))
          have q1 : (c : Int) - 1 ≤ 13 := by omega
          have HJ := hid hlt
          clear hlt hc
          generalize txS ((c : Int) - 1) = T at *
          go_wp2_with (first | (go_at_call 18; refine (HTc.out _ HS'.out).mono ?_; rintro e w4 ⟨rfl, hb4⟩; have S4 := hid (HS'.out.on hb4); clear hb4) | (go_at_call 19; refine (HP.out _ S4.out.bl).mono ?_; rintro e w5 ⟨rfl, hw⟩; subst hw) | (go_at_call 20; refine (HD.out _).mono ?_; rintro e w5 ⟨rfl, hw⟩; subst hw))
          go_roundw
          case measure => have := HJ.out; simp [intOf] <;> omega
          case rel => exact ⟨c + 1, HJ.out, by simp, S4⟩
        · obtain rfl : c = 15 := by omega
          have HP := hid (fun w (hb : Below W.heap.size W w) => HS1.out w hb cl)
          have HD := hid (fun w => HS2.out w cl)
          clear hlt hc
          generalize txS cl = T at *
          go_wp2_with (first | (go_at_call 19; refine (HP.out _ HS'.out.bl).mono ?_; rintro e w5 ⟨rfl, hw⟩; subst hw) | (go_at_call 20; refine (HD.out _).mono ?_; rintro e w5 ⟨rfl, hw⟩; subst hw))
          go_ret
          exact ⟨by simp, HS'.out.bl⟩
end Go.Proofs.YtildhjiddidghaaGreatDoor
namespace Go.Proofs.YtildhjiddidghaaGreatDoor
open Go.ChangeShapes Go.WideShapes Go.ChangeAt Go.RowKit
set_option maxRecDepth 100000
theorem underStr : Tryz.prog.underlying 9 = some .string := by kernel_rfl
theorem cellsStr : Tryz.prog.cellsOf 9 = 1 := by kernel_rfl
theorem str_of {W : World} {fuel : Nat} {cs : List Value} {l : List UInt8} {p : List MemPlace} (h : DataW.trod (fun _ => ()) Tryz.prog W 0 (fun _ => true) false fuel 9 cs = some (.lit (.string l), p)) : cs = [.string ⟨l.toArray⟩] := by
  obtain ⟨s, h1, h2, _⟩ := DataW.trod_string underStr h
  simp only [Prod.mk.injEq, DataW.lit.injEq, Lit.string.injEq] at h2
  rw [h1, h2.1]
theorem strs_of {nm : String} {g T N : Nat} {L : List (List UInt8)} {D : DataW Unit} (hg : Tryz.prog.globalNamed nm = some g) (hT : (Tryz.prog.globals[g]?).map (·.type) = some T) (hu : Tryz.prog.underlying T = some (.array N 9)) (hD : D = .agg (L.map fun l => .lit (.string l)))
    {rest : List (String × DataW Unit)} {W : World} {ps : List MemPlace} (h : DataW.LaidVars Tryz.prog W ((nm, D) :: rest) ps) : ∀ n : Nat, n < N → W.cell? ⟨g, n, none⟩ = some (.string ⟨(L.getD n []).toArray⟩) := by
  obtain ⟨g', t', cs, fuel, p, q, hg', ht', hvar, hd, _, _⟩ := h
  obtain rfl := Option.some.inj (hg.symm.trans hg')
  obtain rfl := Option.some.inj (hT.symm.trans ht')
  have hcell := World.var?_cell hg hvar
  obtain ⟨xs, m, _, hx, hlen, hn, hel⟩ := DataW.trod_array hu hd
  rw [cellsStr] at hel
  intro n hn25
  have he := hel n hn25
  have hxn : n < xs.length := by omega
  rw [List.getElem?_eq_getElem hxn] at he
  have h1 : xs.map (·.1) = L.map fun l => .lit (.string l) := by
    have := (Prod.mk.injEq _ _ _ _).mp hx
    rw [hD] at this
    exact (DataW.agg.inj this.1).symm
  have hLl : n < L.length := by have := congrArg List.length h1; simp at this; omega
  have hf : xs[n].1 = .lit (.string (L.getD n [])) := by
    have h2 := congrArg (·[n]?) h1
    simpa [List.getElem?_eq_getElem hxn, List.getElem?_eq_getElem hLl, List.getD_eq_getElem?_getD] using h2
  generalize xs[n] = y at he hf
  obtain ⟨z0, q0⟩ := y
  simp only at hf
  subst hf
  have s0 := congrArg (·[0]?) (str_of he)
  simp [List.getElem?_drop] at s0
  rw [hcell, s0, List.getD_eq_getElem?_getD]
theorem g_tx : Tryz.prog.globalNamed "warden/valid.texts" = some 0 := by kernel_rfl
theorem gt_tx : (Tryz.prog.globals[0]?).map (·.type) = some 101 := by kernel_rfl
theorem tx_of {rest : List (String × DataW Unit)} {W : World} {ps : List MemPlace} (h : DataW.LaidVars Tryz.prog W (("warden/valid.texts", Rows.laid_warden_valid_texts) :: rest) ps) : TxAt W :=
  strs_of g_tx gt_tx under101 (show (Rows.laid_warden_valid_texts : DataW Unit) = .agg (txT.map fun l => .lit (.string l)) from rfl) h
end Go.Proofs.YtildhjiddidghaaGreatDoor
