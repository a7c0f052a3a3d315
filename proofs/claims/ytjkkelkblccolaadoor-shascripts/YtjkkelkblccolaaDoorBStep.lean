import Derived.Test.YtjkkelkblccolaaDoorStep1
import Derived.Test.YtjkkelkblccolaaDoorStep2
import Derived.Test.YtjkkelkblccolaaDoorStep5
import Derived.Test.YtjkkelkblccolaaDoorStepB
import Derived.Test.YtjkkelkblccolaaDoorStepC
namespace Go.Proofs.YtjkkelkblccolaaDoor
open Go.RowKit
/-- Whatever the step. -/
theorem step_any (W w0 : World) (hT : Tab W) (hR : TabR W) (h2 : 2 < W.heap.size) (gb : Nat) (ps : List Value) (rs : List (List Value)) (B0 : Ben W w0 gb 6 ps rs) (kd d nn : Int) (aw : Option Addr) (m cw : Nat) (xs : List Int) (hx : xs.length = m) (wx : Wds xs) (hat : At W .u32 aw xs) (hm : 4 * m ≤ 140737488351232) :
    Calls Tryd.prog 35 #[.pointer (some ⟨gb, 0, none⟩), .agg #[.int .i64 kd, .int .i64 d, .int .i64 nn, .slice aw m cw]] w0 fun e w => e = .returned (.bool true) ∧ ∃ ps' rs', Ben W w gb 6 ps' rs' := by
  by_cases h1 : kd = 1
  · subst h1; exact step1 W w0 hT hR h2 gb ps rs 6 6 B0 d nn aw m cw xs hx wx hat hm (fun i hi => .inr hi)
  by_cases h2' : kd = 2
  · subst h2'; exact step2 W w0 hT hR h2 gb ps rs B0 d nn aw m cw xs hx wx hat hm
  by_cases h3 : kd = 3
  · subst h3; exact step3 W w0 hT hR h2 gb ps rs B0 d nn aw m cw xs hx wx hat hm
  by_cases h4 : kd = 4
  · subst h4; exact step4 W w0 hT hR h2 gb ps rs B0 d nn aw m cw xs hx wx hat hm
  by_cases h5 : kd = 5
  · subst h5; exact step5 W w0 hT hR h2 gb ps rs B0 d nn aw m cw xs hx wx hat hm
  by_cases h6 : kd = 6
  · subst h6; exact step6 W w0 hT hR h2 gb ps rs B0 d nn aw m cw xs hx wx hat hm
  by_cases h7 : kd = 7
  · subst h7; exact step7 W w0 hT hR h2 gb ps rs B0 d nn aw m cw xs hx wx hat hm
  by_cases h8 : kd = 8
  · subst h8; exact step8 W w0 hT hR h2 gb ps rs B0 d nn aw m cw xs hx wx hat hm
  exact step9 W w0 hT hR h2 gb ps rs B0 kd d nn aw m cw xs hx wx hat hm ⟨h1, h2', h3, h4, h5, h6, h7, h8⟩
/-- A step of a script that came in. -/
def OpAt (W : World) (b off k : Nat) : Prop := ∃ (kd d nn : Int) (aw : Option Addr) (m cw : Nat) (xs : List Int), (∀ j, j < 4 → W.cell? ⟨b, off + k * 4 + j, none⟩ = [Value.int .i64 kd, .int .i64 d, .int .i64 nn, .slice aw m cw][j]?) ∧ xs.length = m ∧ Wds xs ∧ At W .u32 aw xs ∧ 4 * m ≤ 140737488351232
def benZ : List Value := benC (List.replicate 6 (.pointer none)) (List.replicate 6 zero59)
theorem size62 : (Tryd.prog.info? 62).map (·.size) = some 66 := by kernel_rfl
attribute [-simp] Tryd.isAgg59 Tryd.sizeOf59 Tryd.zeroValue59 Tryd.isAgg62 Tryd.sizeOf62 Tryd.zeroValue62
set_option maxRecDepth 20000 in
set_option maxHeartbeats 8000000 in
theorem scripts_any (W : World) (hT : Tab W) (hR : TabR W) (h2 : 2 < W.heap.size) (ao : Option Addr) (n cap : Nat) (hs : n = 0 ∨ ∃ b off, ao = some ⟨b, off, none⟩ ∧ b < W.heap.size ∧ ∀ k, k < n → OpAt W b off k) (hn : n ≤ 140737488351232) :
    Calls Tryd.prog 8 #[.slice ao n cap] W fun e w => e = .returned (.bool true) ∧ Below W.heap.size W w := by
  obtain ⟨Z, hZ⟩ : ∃ Z : List Value, Z = benZ := ⟨_, rfl⟩
  have hz : ∀ w, (zeroValue 62).run Tryd.prog w = .ok (.agg Z.toArray) w := fun w => by rw [Tryd.zeroValue62, hZ]; rfl
  have hZl : Z.length = 66 := by rw [hZ]; rfl
  have i1 : (n : Int) ≤ 140737488351232 := by omega
  have B0 : Hid (Ben W (W.alloc (Obj.cells Z.toArray 62)) W.heap.size 0 (List.replicate 6 (.pointer none)) (List.replicate 6 zero59)) := by
    refine ⟨rfl, rfl, fun r hr => by rw [List.eq_of_mem_replicate hr]; rfl, ?_, Nat.le_refl _, below_one _ _, fun k hk => by omega, fun k g hk => by omega, fun i j hi => by omega⟩
    have := heap_alloc_new W (Obj.cells Z.toArray 62)
    rw [hZ] at this ⊢
    exact this
  have HS : Hid (n = 0 ∨ ∃ b off, ao = some ⟨b, off, none⟩ ∧ b < W.heap.size ∧ ∀ k, k < n → OpAt W b off k) := hs
  have wnil : Hid (Wds []) := fun i => by simp
  clear hZ hs
  go_enter Tryd.func8, Tryd.ntmps8
  go_wp2_with fail
  go_loopw [4] (fun i wr => ∃ (t : Nat) (ps : List Value) (rs : List (List Value)), t ≤ 6 ∧ i = .int .i64 (t : Int) ∧ Ben W wr W.heap.size t ps rs) (fun i _ => 6 - (intOf i).toNat)
  case atStart => exact ⟨0, _, _, by decide, rfl, B0.out⟩
  case round =>
    clear B0
    obtain ⟨t, ps, rs, ht, rfl, B⟩ := hrel
    by_cases hlt : t < 6
    · have HB : Hid (Ben W wr W.heap.size t ps rs) := B
      have q0 : (t : Int) < 6 := by omega
      clear B
      go_wp2_with fail
      refine (step1 W wr hT hR h2 W.heap.size ps rs t (t + 1) HB.out (t : Int) 0 none 0 0 [] rfl wnil.out (.inl rfl) (by decide) (fun i hi => by unfold sl; omega)).mono ?_
      rintro e w1 ⟨rfl, ps', rs', B1⟩
      have HB1 : Hid (Ben W w1 W.heap.size (t + 1) ps' rs') := B1
      clear B1 HB
      go_wp2
      go_roundw
      case rel => exact ⟨t + 1, ps', rs', by omega, by go_num, HB1.out⟩
      case measure => simp [intOf]; omega
    · obtain rfl : t = 6 := by omega
      rw [show ((6 : Nat) : Int) = 6 from rfl]
      have HB : Hid (Ben W wr W.heap.size 6 ps rs) := B
      clear B
      go_wp2_with fail
      go_loopw [5] (fun i wr => ∃ (t : Nat) (ps : List Value) (rs : List (List Value)), t ≤ n ∧ i = .int .i64 (t : Int) ∧ Ben W wr W.heap.size 6 ps rs) (fun i _ => n - (intOf i).toNat)
      case atStart => exact ⟨0, _, _, Nat.zero_le _, rfl, HB.out⟩
      case round =>
        clear HB
        obtain ⟨t, ps, rs, ht, rfl, B⟩ := hrel
        by_cases hlt : t < n
        · rcases HS.out with h0 | ⟨b, off, rfl, hb, hS⟩
          · omega
          · obtain ⟨kd, d, nn, aw, m, cw, xs, hc, hx, wx, hat, hm⟩ := hS t hlt
            have cc : ∀ j, j < 4 → wr.cell? ⟨b, off + t * 4 + j, none⟩ = [Value.int .i64 kd, .int .i64 d, .int .i64 nn, .slice aw m cw][j]? := fun j hj => (B.low.cell (p := ⟨b, off + t * 4 + j, none⟩) hb).trans (hc j hj)
            have c0 := cc 0 (by decide)
            have c1 := cc 1 (by decide)
            have c2 := cc 2 (by decide)
            have c3 := cc 3 (by decide)
            simp only [List.getElem?_cons_zero, List.getElem?_cons_succ, Nat.add_zero] at c0 c1 c2 c3
            have HB : Hid (Ben W wr W.heap.size 6 ps rs) := B
            have HW : Hid (xs.length = m ∧ Wds xs ∧ At W .u32 aw xs ∧ 4 * m ≤ 140737488351232) := ⟨hx, wx, hat, hm⟩
            have q0 : (t : Int) < (n : Int) := by omega
            clear B cc hc hx wx hat hm hS
            go_wp2_with fail
            refine (step_any W wr hT hR h2 W.heap.size ps rs HB.out kd d nn aw m cw xs HW.out.1 HW.out.2.1 HW.out.2.2.1 HW.out.2.2.2).mono ?_
            rintro e w1 ⟨rfl, ps', rs', B1⟩
            have HB1 : Hid (Ben W w1 W.heap.size 6 ps' rs') := B1
            clear B1 HB c0 c1 c2 c3
            go_wp2
            go_roundw
            case rel => exact ⟨t + 1, ps', rs', by omega, by go_num, HB1.out⟩
            case measure => simp [intOf]; omega
        · obtain rfl : t = n := by omega
          have HB : Hid (Ben W wr W.heap.size 6 ps rs) := B
          clear B
          go_wp2_with fail
          go_loopw [6] (fun i wr => ∃ (t : Nat) (ps : List Value) (rs : List (List Value)), t ≤ 6 ∧ i = .int .i64 (t : Int) ∧ Ben W wr W.heap.size 6 ps rs) (fun i _ => 6 - (intOf i).toNat)
          case atStart => exact ⟨0, _, _, by decide, rfl, HB.out⟩
          case round =>
            clear HB
            obtain ⟨k, ps, rs, hk, rfl, B⟩ := hrel
            by_cases hlt : k < 6
            · have HB : Hid (Ben W wr W.heap.size 6 ps rs) := B
              have q0 : (k : Int) < 6 := by omega
              clear B
              go_wp2_with fail
              refine (step_any W wr hT hR h2 W.heap.size ps rs HB.out 3 (k : Int) 0 none 0 0 [] rfl wnil.out (.inl rfl) (by decide)).mono ?_
              rintro e w1 ⟨rfl, ps1, rs1, B1⟩
              have HB1 : Hid (Ben W w1 W.heap.size 6 ps1 rs1) := B1
              clear B1 HB
              go_wp2_with fail
              refine (step_any W w1 hT hR h2 W.heap.size ps1 rs1 HB1.out 6 (k : Int) 0 none 0 0 [] rfl wnil.out (.inl rfl) (by decide)).mono ?_
              rintro e w2 ⟨rfl, ps2, rs2, B2⟩
              have HB2 : Hid (Ben W w2 W.heap.size 6 ps2 rs2) := B2
              clear B2 HB1
              go_wp2_with fail
              refine (step_any W w2 hT hR h2 W.heap.size ps2 rs2 HB2.out 4 (k : Int) 0 none 0 0 [] rfl wnil.out (.inl rfl) (by decide)).mono ?_
              rintro e w3 ⟨rfl, ps3, rs3, B3⟩
              have HB3 : Hid (Ben W w3 W.heap.size 6 ps3 rs3) := B3
              clear B3 HB2
              go_wp2
              go_roundw
              case rel => exact ⟨k + 1, ps3, rs3, by omega, by go_num, HB3.out⟩
              case measure => simp [intOf]; omega
            · obtain rfl : k = 6 := by omega
              have HL : Hid (Below W.heap.size W wr) := B.low
              clear B
              go_wp2
              go_ret
              exact ⟨rfl, HL.out⟩
end Go.Proofs.YtjkkelkblccolaaDoor
