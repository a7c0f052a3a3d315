import Derived.Test.YtncnogndopgknaaGreatDoorP27
import Derived.Test.YtncnogndopgknaaGreatDoorP01
import Derived.Test.YtncnogndopgknaaGreatDoorP32
import Derived.Deep.DeepCutAuto
namespace Go.Proofs.YtncnogndopgknaaGreatDoor
open Go.RowKit
set_option maxRecDepth 100000
set_option maxHeartbeats 4000000
theorem atu {w : World} {ao : Option Addr} {l : List Nat} (h : AtW w ao l) : UAt w ao l := h
theorem cell_lt {w : World} {g o : Nat} {v : Value} (h : w.cell? ⟨g, o, none⟩ = some v) : g < w.heap.size := by
  rcases Nat.lt_or_ge g w.heap.size with h1 | h1
  · exact h1
  · simp [World.cell?, Array.getElem?_eq_none h1] at h
theorem data_list (l : List UInt8) : (⟨l.toArray⟩ : ByteArray).data.toList = l := by simp
theorem back_big (W : World) (h : AW W) (hT : TB W) (ao : Option Addr) (n c : Nat) (ws : List Nat) (hl : ws.length = n) (hat : AtW W ao ws) (hw : ∀ x ∈ ws, x < 4294967296) (b o : Nat) (hn : 2048 < n) :
    Calls Tryz.prog 5 #[.slice ao n c, .int .u32 (b : Int), .int .u32 (o : Int)] W fun x w' => x = .returned (.bool true) ∧ Below W.heap.size W w' := by
  have H8 := hid (first_any W h)
  have HP : Hid (∀ x, Below W.heap.size W x → Calls Tryz.prog 15 #[.slice ao n c, .int .u32 (b : Int)] x fun e w' => e = .returned (.tuple #[.string ⟨#[]⟩, .int .i64 66]) ∧ Below x.heap.size x w') := hid (fun x hx => by
    have h0 := print_any x (hT.on hx) ao n c ws hl (hat.on hx) hw (b : Int)
    have e1 : A.prt ws = [] := by unfold A.prt; rw [if_neg (by omega)]
    have e2 : A.prtE ws = 66 := by unfold A.prtE; rw [if_neg (by omega)]
    rw [e1, e2] at h0
    exact h0)
  have hn1 : (2048 : Int) < (n : Int) := by omega
  clear h hT hat hw hl
  go_enter Tryz.func5, Tryz.ntmps5
  go_wp2_with (first | (go_at_call 8; refine H8.out.mono ?_; rintro e w0 ⟨rfl, hb0⟩; have B0 := hid hb0; clear hb0) | (go_at_call 15; refine (HP.out w0 B0.out).mono ?_; rintro e w1 ⟨rfl, hb1⟩; have B1 := hid (below_on B0.out hb1); clear hb1))
  go_ret
  exact ⟨rfl, B1.out⟩
theorem back_any (W : World) (h : AW W) (hT : TB W) (ao : Option Addr) (n c : Nat) (ws : List Nat) (hl : ws.length = n) (hat : AtW W ao ws) (hw : ∀ x ∈ ws, x < 4294967296) (b o : Nat) (hb : b < 4294967296) (ho : o < 4294967296) :
    Calls Tryz.prog 5 #[.slice ao n c, .int .u32 (b : Int), .int .u32 (o : Int)] W fun x w' => x = .returned (.bool true) ∧ Below W.heap.size W w' := by
  by_cases hn : 2048 < n
  · exact back_big W h hT ao n c ws hl hat hw b o hn
  · have H8 := hid (first_any W h)
    have n1 : (n : Int) ≤ 2048 := by omega
    have HN : Hid (n ≤ 2048 ∧ ws.length = n) := hid ⟨by omega, hl⟩
    have HU := hid (fun x (hx : Below W.heap.size W x) => (atu hat).on hx)
    obtain ⟨s, hs⟩ : ∃ s : ByteArray, s = ⟨(A.prt ws).toArray⟩ := ⟨_, rfl⟩
    have hlen : s.size = (A.prt ws).length := by rw [hs, sz]
    have HP : Hid (∀ x, Below W.heap.size W x → Calls Tryz.prog 15 #[.slice ao n c, .int .u32 (b : Int)] x fun e w' => e = .returned (.tuple #[.string s, .int .i64 0]) ∧ Below x.heap.size x w') := hid (fun x hx => by
      have h0 := print_any x (hT.on hx) ao n c ws hl (hat.on hx) hw (b : Int)
      have e2 : A.prtE ws = 0 := by unfold A.prtE; rw [if_pos (by omega)]
      rw [e2, ← hs] at h0
      exact h0)
    have H9 : Hid (∀ x, Below W.heap.size W x → Calls Tryz.prog 9 #[.string s, .int .u32 (o : Int)] x fun y w' => ∃ a c', y = .returned (.tuple #[.slice a n c', .agg #[.int .i64 0, .int .i64 0, .int .i64 0]]) ∧ UAt w' a ws ∧ Below x.heap.size x w') := hid (fun x hx => by
      have h0 := asm_call x (h.on hx) s o ho
      rw [hs, data_list, S.asm_prt ws (by omega) hw o] at h0
      rw [hs]
      refine h0.mono ?_
      rintro e w' ⟨v, rfl, hown, hb'⟩
      obtain ⟨a, c', rfl⟩ := own_form hown
      exact ⟨a, c', by show _ = Ending.returned (.tuple #[.slice a n c', _]); rw [← hl], own_at hown, hb'⟩)
    have HSm : Hid (∀ x a c', UAt x a ws → Below W.heap.size W x → Calls Tryz.prog 10 #[.slice a n c', .slice ao n c] x fun y w' => y = .returned (.bool true) ∧ Below x.heap.size x w') := hid (fun x a c' ha hx => by
      have h0 := same_any x ws (by omega) a ao c' c ha ((atu hat).on hx)
      rw [hl] at h0
      exact h0)
    have HL : Hid (∀ x, Below W.heap.size W x → ∀ i, i < n → Calls Tryz.prog 16 #[.int .u32 ((ws.getD i 0 : Nat) : Int)] x fun y w' => y = .returned (.string ⟨(A.lin (ws.getD i 0 : Nat) []).toArray⟩) ∧ Below x.heap.size x w') := hid (fun x hx i hi => line_any x (hT.on hx) _ (by omega) (by have := S.getD_lt hw i; omega))
    have HA2 : Hid (∀ x, Below W.heap.size W x → ∀ i, i < n → Calls Tryz.prog 9 #[.string ⟨(A.lin (ws.getD i 0 : Nat) []).toArray⟩, .int .u32 (b : Int)] x fun y w' => ∃ g c', y = .returned (.tuple #[.slice (some ⟨g, 0, none⟩) 1 c', .agg #[.int .i64 0, .int .i64 0, .int .i64 0]]) ∧ w'.cell? ⟨g, 0, none⟩ = some (.int .u32 ((ws.getD i 0 : Nat) : Int)) ∧ Below x.heap.size x w') := hid (fun x hx i hi => by
      have h0 := asm_call x (h.on hx) ⟨(A.lin (ws.getD i 0 : Nat) []).toArray⟩ b hb
      rw [data_list, S.asm_lin _ (S.getD_lt hw i) b] at h0
      refine h0.mono ?_
      rintro e w' ⟨v, rfl, hown, hb'⟩
      rcases hown.2 with ⟨rfl, hz⟩ | ⟨g, cap, cur, rfl, _, hg, _⟩
      · cases hz
      · have hc := hown.cells (g := g) rfl 0 (.int .u32 ((ws.getD i 0 : Nat) : Int)) rfl
        rw [Addr.add_mid, Nat.zero_add] at hc
        exact ⟨g, cap, rfl, hc, hb'⟩)
    have HW : Hid (∀ i, i < n → ∀ x a, UAt x a ws → ∃ g off, a = some ⟨g, off, none⟩ ∧ x.cell? ⟨g, off + i, none⟩ = some (.int .u32 ((ws.getD i 0 : Nat) : Int))) := hid (fun i hi x a ha => by
      rcases ha with rfl | ⟨g, off, rfl, _, hc⟩
      · simp at hl; omega
      · refine ⟨g, off, rfl, ?_⟩
        rw [hc i (by omega), List.getD_eq_getElem?_getD, List.getElem?_eq_getElem (by omega)]
        rfl)
    have hsz : s.size ≤ 65536 := by rw [hlen]; exact S.prt_len ws
    have hlast : s = ⟨#[]⟩ ∨ ∃ k : Nat, s.size = k + 1 ∧ s.data[k]? = some 10 := by
      by_cases he : A.prt ws = []
      · exact .inl (by rw [hs, he])
      · have h1 := S.prt_last ws he
        rw [List.getLast?_eq_getElem?] at h1
        have h2 : 0 < (A.prt ws).length := List.length_pos_iff.2 he
        refine .inr ⟨(A.prt ws).length - 1, by omega, ?_⟩
        rw [hs]
        simpa using h1
    clear h hT hat hw hl hs hlen hb ho hn
    rcases hlast with rfl | ⟨k, hk, hk10⟩
    · skip
      go_enter Tryz.func5, Tryz.ntmps5
      go_upto_region 7 with (first | (go_at_call 8; refine H8.out.mono ?_; rintro e w0 ⟨rfl, hb0⟩; have B0 := hid hb0; clear hb0) | (go_at_call 15; refine (HP.out w0 B0.out).mono ?_; rintro e w1 ⟨rfl, hb1⟩; have B1 := hid (below_on B0.out hb1); clear hb1) | (go_at_call 9; refine (H9.out w1 B1.out).mono ?_; rintro e w2 ⟨a2, c2, rfl, hu, hb2⟩; have B2 := hid (And.intro (below_on (below_on B1.out hb2) (below_one w2 (.cells #[.int .i64 0, .int .i64 0, .int .i64 0] 27))) (And.intro (hu.on (below_one w2 (.cells #[.int .i64 0, .int .i64 0, .int .i64 0] 27))) (And.intro (Cel.new w2 27 [.int .i64 0, .int .i64 0, .int .i64 0]) (below_on B1.out hb2).size))); clear hb2 hu))
      generalize w2.alloc _ = X at *
      generalize w2.heap.size = g10 at *
      have z0 : X.cell? ⟨g10, 0, none⟩ = some (.int .i64 0) := B2.out.2.2.1.cell 0
      have HG10 := hid B2.out.2.2.2
      go_upto_region 9 with (go_at_call 10; refine (HSm.out _ _ _ B2.out.2.1 B2.out.1).mono ?_; rintro e w3 ⟨rfl, hb3⟩; have L0 := hid (And.intro (below_on B2.out.1 hb3) (B2.out.2.2.1.on hb3)); clear hb3 B2 z0)
      go_upto_region 10 with fail
      go_loopw [9, 11] (fun _ i wr => ∃ j : Nat, j ≤ n ∧ j ≤ 64 ∧ i = .int .i64 (j : Int) ∧ Hid (Below W.heap.size W wr ∧ Cel wr g10 27 [.int .i64 0, .int .i64 0, .int .i64 0])) (fun _ i _ => n - (intOf i).toNat)
      case atStart => exact ⟨0, Nat.zero_le _, Nat.zero_le _, rfl, L0⟩
      case round =>
        obtain ⟨j, hj, hj64, rfl, HQ⟩ := hrel
        clear L0
        by_cases hlt : j < n ∧ j < 64
        · have q1 : (j : Int) < (n : Int) := by omega
          have q2 : (j : Int) < 64 := by omega
          have q0 : (0 : Int) ≤ (j : Int) := by omega
          have qn : j < n := hlt.1
          have HJ := hid hlt
          have HLj := hid (fun x hx => HL.out x hx j hlt.1)
          have HAj := hid (fun x hx => HA2.out x hx j hlt.1)
          have HWj := hid (HW.out j hlt.1)
          clear hlt hj hj64
          obtain ⟨ga, oa, rfl, hc0⟩ := HWj.out wr ao (HU.out wr HQ.out.1)
          have HWc : Hid (∀ x, Below W.heap.size W x → x.cell? ⟨ga, oa + j, none⟩ = some (.int .u32 ((ws.getD j 0 : Nat) : Int))) := hid (fun x hx => by
            obtain ⟨g, off, hg, hc⟩ := HWj.out x _ (HU.out x hx)
            injection hg with hg
            injection hg with h1 h2
            subst h1 h2
            exact hc)
          clear HWj
          generalize ws.getD j 0 = w9 at *
          go_upto_region 13 with (first | (go_at_call 16; refine (HLj.out _ HQ.out.1).mono ?_; rintro e w3 ⟨rfl, hb3⟩; have B3 := hid (And.intro (below_on HQ.out.1 hb3) (HQ.out.2.on hb3)); clear hb3 HQ hc0) | (go_at_call 9; refine (HAj.out _ B3.out.1).mono ?_; rintro e w4 ⟨gl, cl, rfl, hcl, hb4⟩; have B4 := hid (And.intro (below_on B3.out.1 hb4) (And.intro (B3.out.2.on hb4) (And.intro hcl (Nat.lt_of_lt_of_le B3.out.2.lt hb4.size)))); clear hb4 B3 hcl) | (refine wpList_store_st rfl 27 _ _ rfl g10 [.int .i64 0, .int .i64 0, .int .i64 0] rfl rfl B4.out.2.1 sizeFault rfl rfl ?_; intro w5 hc5 hb5 _; have C5 := hid hc5; have U5 := hid hb5; clear hc5 hb5))
          have NE : g10 ≠ gl := by
            rintro rfl
            have h1 := B4.out.2.1.cell 0
            rw [B4.out.2.2.1] at h1
            cases h1
          have B6 : Hid (Below W.heap.size W w5) := hid (B4.out.1.trans (U5.out.below HG10.out B4.out.1.size))
          have C6 := hid (And.intro C5.out (And.intro (show w5.cell? ⟨gl, 0, none⟩ = some (.int .u32 ((w9 : Nat) : Int)) by
            have h1 := B4.out.2.2.1
            have h2 := cell_lt h1
            unfold World.cell? at h1 ⊢
            rw [U5.out.block gl h2 (fun e => NE e.symm)]
            exact h1) (HWc.out _ B6.out)))
          clear B4 NE C5 U5
          have B7 := hid (below_on B6.out (Below.refl _ _).drew)
          have C7 := hid (And.intro (C6.out.1.on (Below.refl _ _).drew) (And.intro C6.out.2.1 C6.out.2.2))
          clear B6
          refine wp_region_held_drew (S := fun w => w.cell? ⟨g10, 0, none⟩ = some (.int .i64 0) ∧ w.cell? ⟨gl, 0, none⟩ = some (.int .u32 ((w9 : Nat) : Int)) ∧ w.cell? ⟨ga, oa + j, none⟩ = some (.int .u32 ((w9 : Nat) : Int))) (by kernel_rfl) ⟨C6.out.1.cell 0, C6.out.2.1, C6.out.2.2⟩ (fun hHeld => ?_)
          refine tk 0 ⟨some 85, .fieldAddr 27 (.tmp 10) 0, 0, "outright.go:27", #[], none⟩ (.pointer (some ⟨g10, 0, none⟩)) ?_
          simp only [Act.put, List.setIfInBounds_toArray, List.set_cons_zero, List.set_cons_succ]
          refine tk 1 ⟨some 86, .load 25 (.tmp 85), 25, "outright.go:27", #[⟨0, .data⟩], none⟩ (.int .i64 0) ?_ (hy := Or.inl ⟨by rfl, by intro w hSw; have hc := hSw.1; go_simp⟩)
          simp only [Act.put, List.setIfInBounds_toArray, List.set_cons_zero, List.set_cons_succ]
          refine tk 2 ⟨some 87, .binOp .neq 3 (.tmp 86) (.const (.int .i64 0)) 3, 4, "outright.go:27", #[⟨1, .data⟩], none⟩ (.bool false) ?_
          simp only [Act.put, List.setIfInBounds_toArray, List.set_cons_zero, List.set_cons_succ]
          refine tk 3 ⟨some 88, .move (.tmp 87), 4, "outright.go:27", #[⟨2, .data⟩], none⟩ (.bool false) ?_
          simp only [Act.put, List.setIfInBounds_toArray, List.set_cons_zero, List.set_cons_succ]
          refine tk 4 ⟨some 89, .move (.tmp 9), 24, "outright.go:27", #[⟨3, .guard⟩], some (3, false)⟩ (.slice (some ⟨gl, 0, none⟩) 1 cl) ?_
          simp only [Act.put, List.setIfInBounds_toArray, List.set_cons_zero, List.set_cons_succ]
          refine tk 5 ⟨some 90, .call { callee := .builtin .len, args := #[.tmp 89], argTypes := #[24] }, 3, "outright.go:27", #[⟨4, .data⟩, ⟨3, .guard⟩], some (3, false)⟩ (.int .i64 1) ?_
          simp only [Act.put, List.setIfInBounds_toArray, List.set_cons_zero, List.set_cons_succ]
          refine tk 6 ⟨some 91, .binOp .neq 3 (.tmp 90) (.const (.int .i64 1)) 3, 4, "outright.go:27", #[⟨5, .data⟩, ⟨3, .guard⟩], some (3, false)⟩ (.bool false) ?_
          simp only [Act.put, List.setIfInBounds_toArray, List.set_cons_zero, List.set_cons_succ]
          refine tk 7 ⟨some 92, .pick (.tmp 88) (.const (.bool true)) (.tmp 91), 4, "outright.go:27", #[⟨3, .data⟩, ⟨6, .data⟩], none⟩ (.bool false) ?_
          simp only [Act.put, List.setIfInBounds_toArray, List.set_cons_zero, List.set_cons_succ]
          refine tk 8 ⟨some 93, .move (.tmp 92), 4, "outright.go:27", #[⟨7, .data⟩, ⟨3, .chain⟩], none⟩ (.bool false) ?_
          simp only [Act.put, List.setIfInBounds_toArray, List.set_cons_zero, List.set_cons_succ]
          refine tk 9 ⟨some 94, .move (.tmp 9), 24, "outright.go:27", #[⟨8, .guard⟩], some (8, false)⟩ (.slice (some ⟨gl, 0, none⟩) 1 cl) ?_
          simp only [Act.put, List.setIfInBounds_toArray, List.set_cons_zero, List.set_cons_succ]
          refine tk 10 ⟨some 95, .indexAddr 24 (.tmp 94) (.const (.int .i64 0)), 0, "outright.go:27", #[⟨9, .data⟩, ⟨8, .guard⟩], some (8, false)⟩ (.pointer (some ⟨gl, 0, none⟩)) ?_
          simp only [Act.put, List.setIfInBounds_toArray, List.set_cons_zero, List.set_cons_succ]
          refine tk 11 ⟨some 96, .load 22 (.tmp 95), 22, "outright.go:27", #[⟨10, .data⟩, ⟨8, .guard⟩], some (8, false)⟩ (.int .u32 ((w9 : Nat) : Int)) ?_ (hy := Or.inl ⟨by rfl, by intro w hSw; have hc := hSw.2.1; go_simp⟩)
          simp only [Act.put, List.setIfInBounds_toArray, List.set_cons_zero, List.set_cons_succ]
          refine tk 12 ⟨some 97, .move (.tmp 0), 24, "outright.go:27", #[⟨8, .guard⟩], some (8, false)⟩ (.slice (some ⟨ga, oa, none⟩) n c) ?_
          simp only [Act.put, List.setIfInBounds_toArray, List.set_cons_zero, List.set_cons_succ]
          refine tk 13 ⟨some 98, .move (.tmp 11), 3, "outright.go:27", #[⟨8, .guard⟩], some (8, false)⟩ (.int .i64 (j : Int)) ?_
          simp only [Act.put, List.setIfInBounds_toArray, List.set_cons_zero, List.set_cons_succ]
          refine tk 14 ⟨some 99, .indexAddr 24 (.tmp 97) (.tmp 98), 0, "outright.go:27", #[⟨12, .data⟩, ⟨13, .data⟩, ⟨8, .guard⟩], some (8, false)⟩ (.pointer (some ⟨ga, oa + j, none⟩)) ?_
          simp only [Act.put, List.setIfInBounds_toArray, List.set_cons_zero, List.set_cons_succ]
          refine tk 15 ⟨some 100, .load 22 (.tmp 99), 22, "outright.go:27", #[⟨14, .data⟩, ⟨8, .guard⟩], some (8, false)⟩ (.int .u32 ((w9 : Nat) : Int)) ?_ (hy := Or.inl ⟨by rfl, by intro w hSw; have hc := hSw.2.2; go_simp⟩)
          simp only [Act.put, List.setIfInBounds_toArray, List.set_cons_zero, List.set_cons_succ]
          refine tk 16 ⟨some 101, .binOp .neq 22 (.tmp 96) (.tmp 100) 22, 4, "outright.go:27", #[⟨11, .data⟩, ⟨15, .data⟩, ⟨8, .guard⟩], some (8, false)⟩ (.bool false) ?_
          simp only [Act.put, List.setIfInBounds_toArray, List.set_cons_zero, List.set_cons_succ]
          refine tk 17 ⟨some 102, .pick (.tmp 93) (.const (.bool true)) (.tmp 101), 4, "outright.go:27", #[⟨8, .data⟩, ⟨16, .data⟩], none⟩ (.bool false) ?_
          simp only [Act.put, List.setIfInBounds_toArray, List.set_cons_zero, List.set_cons_succ]
          refine wpAnyH_done (by kernel_rfl) ?_ _
          go_wp2_with fail
          go_roundw
          case measure => have := HJ.out; simp [intOf] <;> omega
          case rel => exact ⟨j + 1, by have := HJ.out; omega, by have := HJ.out; omega, by simp, hid ⟨B7.out, C7.out.1⟩⟩
        · by_cases hjn : j < n
          · have q1 : (j : Int) < (n : Int) := by omega
            have q2 : ¬ (j : Int) < 64 := by omega
            have HQ2 := hid HQ.out.1
            clear hlt hj
            go_wp2_with fail
            go_ret
            exact ⟨rfl, HQ2.out⟩
          · have hj2 : j = n := by omega
            subst hj2
            have HQ2 := hid HQ.out.1
            clear hlt hj
            go_wp2_with fail
            go_ret
            exact ⟨rfl, HQ2.out⟩
    · skip
      have hs1 : (s.size : Int) ≤ 65536 := by omega
      have hne : ¬ s.toList = [] := by
        intro h
        rw [ByteArray.toList_eq] at h
        have h2 := size_list s
        rw [h] at h2
        simp at h2
        omega
      have hx : ∀ h : s.size - 1 < s.size, (s[s.size - 1]'h).toNat = 10 := fun h => by
        have h1 : s.data[s.size - 1]? = some 10 := by rw [hk]; exact hk10
        obtain ⟨h2, h3⟩ := Array.getElem?_eq_some_iff.1 h1
        show (s.data[s.size - 1]'h2).toNat = 10
        rw [h3]
        rfl
      have he : s.toList.isEmpty = false := by simpa using hne
      have hs0 : (1 : Int) ≤ (s.size : Int) := by omega
      clear hk hk10 hsz
      go_enter Tryz.func5, Tryz.ntmps5
      go_upto_region 7 with (first | (go_at_call 8; refine H8.out.mono ?_; rintro e w0 ⟨rfl, hb0⟩; have B0 := hid hb0; clear hb0) | (go_at_call 15; refine (HP.out w0 B0.out).mono ?_; rintro e w1 ⟨rfl, hb1⟩; have B1 := hid (below_on B0.out hb1); clear hb1) | (go_at_call 9; refine (H9.out w1 B1.out).mono ?_; rintro e w2 ⟨a2, c2, rfl, hu, hb2⟩; have B2 := hid (And.intro (below_on (below_on B1.out hb2) (below_one w2 (.cells #[.int .i64 0, .int .i64 0, .int .i64 0] 27))) (And.intro (hu.on (below_one w2 (.cells #[.int .i64 0, .int .i64 0, .int .i64 0] 27))) (And.intro (Cel.new w2 27 [.int .i64 0, .int .i64 0, .int .i64 0]) (below_on B1.out hb2).size))); clear hb2 hu))
      generalize w2.alloc _ = X at *
      generalize w2.heap.size = g10 at *
      have z0 : X.cell? ⟨g10, 0, none⟩ = some (.int .i64 0) := B2.out.2.2.1.cell 0
      have HG10 := hid B2.out.2.2.2
      go_upto_region 9 with (go_at_call 10; refine (HSm.out _ _ _ B2.out.2.1 B2.out.1).mono ?_; rintro e w3 ⟨rfl, hb3⟩; have L0 := hid (And.intro (below_on B2.out.1 hb3) (B2.out.2.2.1.on hb3)); clear hb3 B2 z0)
      go_upto_region 10 with fail
      go_loopw [9, 11] (fun _ i wr => ∃ j : Nat, j ≤ n ∧ j ≤ 64 ∧ i = .int .i64 (j : Int) ∧ Hid (Below W.heap.size W wr ∧ Cel wr g10 27 [.int .i64 0, .int .i64 0, .int .i64 0])) (fun _ i _ => n - (intOf i).toNat)
      case atStart => exact ⟨0, Nat.zero_le _, Nat.zero_le _, rfl, L0⟩
      case round =>
        obtain ⟨j, hj, hj64, rfl, HQ⟩ := hrel
        clear L0
        by_cases hlt : j < n ∧ j < 64
        · have q1 : (j : Int) < (n : Int) := by omega
          have q2 : (j : Int) < 64 := by omega
          have q0 : (0 : Int) ≤ (j : Int) := by omega
          have qn : j < n := hlt.1
          have HJ := hid hlt
          have HLj := hid (fun x hx => HL.out x hx j hlt.1)
          have HAj := hid (fun x hx => HA2.out x hx j hlt.1)
          have HWj := hid (HW.out j hlt.1)
          clear hlt hj hj64
          obtain ⟨ga, oa, rfl, hc0⟩ := HWj.out wr ao (HU.out wr HQ.out.1)
          have HWc : Hid (∀ x, Below W.heap.size W x → x.cell? ⟨ga, oa + j, none⟩ = some (.int .u32 ((ws.getD j 0 : Nat) : Int))) := hid (fun x hx => by
            obtain ⟨g, off, hg, hc⟩ := HWj.out x _ (HU.out x hx)
            injection hg with hg
            injection hg with h1 h2
            subst h1 h2
            exact hc)
          clear HWj
          generalize ws.getD j 0 = w9 at *
          go_upto_region 13 with (first | (go_at_call 16; refine (HLj.out _ HQ.out.1).mono ?_; rintro e w3 ⟨rfl, hb3⟩; have B3 := hid (And.intro (below_on HQ.out.1 hb3) (HQ.out.2.on hb3)); clear hb3 HQ hc0) | (go_at_call 9; refine (HAj.out _ B3.out.1).mono ?_; rintro e w4 ⟨gl, cl, rfl, hcl, hb4⟩; have B4 := hid (And.intro (below_on B3.out.1 hb4) (And.intro (B3.out.2.on hb4) (And.intro hcl (Nat.lt_of_lt_of_le B3.out.2.lt hb4.size)))); clear hb4 B3 hcl) | (refine wpList_store_st rfl 27 _ _ rfl g10 [.int .i64 0, .int .i64 0, .int .i64 0] rfl rfl B4.out.2.1 sizeFault rfl rfl ?_; intro w5 hc5 hb5 _; have C5 := hid hc5; have U5 := hid hb5; clear hc5 hb5))
          have NE : g10 ≠ gl := by
            rintro rfl
            have h1 := B4.out.2.1.cell 0
            rw [B4.out.2.2.1] at h1
            cases h1
          have B6 : Hid (Below W.heap.size W w5) := hid (B4.out.1.trans (U5.out.below HG10.out B4.out.1.size))
          have C6 := hid (And.intro C5.out (And.intro (show w5.cell? ⟨gl, 0, none⟩ = some (.int .u32 ((w9 : Nat) : Int)) by
            have h1 := B4.out.2.2.1
            have h2 := cell_lt h1
            unfold World.cell? at h1 ⊢
            rw [U5.out.block gl h2 (fun e => NE e.symm)]
            exact h1) (HWc.out _ B6.out)))
          clear B4 NE C5 U5
          have B7 := hid (below_on B6.out (Below.refl _ _).drew)
          have C7 := hid (And.intro (C6.out.1.on (Below.refl _ _).drew) (And.intro C6.out.2.1 C6.out.2.2))
          clear B6
          refine wp_region_held_drew (S := fun w => w.cell? ⟨g10, 0, none⟩ = some (.int .i64 0) ∧ w.cell? ⟨gl, 0, none⟩ = some (.int .u32 ((w9 : Nat) : Int)) ∧ w.cell? ⟨ga, oa + j, none⟩ = some (.int .u32 ((w9 : Nat) : Int))) (by kernel_rfl) ⟨C6.out.1.cell 0, C6.out.2.1, C6.out.2.2⟩ (fun hHeld => ?_)
          refine tk 0 ⟨some 85, .fieldAddr 27 (.tmp 10) 0, 0, "outright.go:27", #[], none⟩ (.pointer (some ⟨g10, 0, none⟩)) ?_
          simp only [Act.put, List.setIfInBounds_toArray, List.set_cons_zero, List.set_cons_succ]
          refine tk 1 ⟨some 86, .load 25 (.tmp 85), 25, "outright.go:27", #[⟨0, .data⟩], none⟩ (.int .i64 0) ?_ (hy := Or.inl ⟨by rfl, by intro w hSw; have hc := hSw.1; go_simp⟩)
          simp only [Act.put, List.setIfInBounds_toArray, List.set_cons_zero, List.set_cons_succ]
          refine tk 2 ⟨some 87, .binOp .neq 3 (.tmp 86) (.const (.int .i64 0)) 3, 4, "outright.go:27", #[⟨1, .data⟩], none⟩ (.bool false) ?_
          simp only [Act.put, List.setIfInBounds_toArray, List.set_cons_zero, List.set_cons_succ]
          refine tk 3 ⟨some 88, .move (.tmp 87), 4, "outright.go:27", #[⟨2, .data⟩], none⟩ (.bool false) ?_
          simp only [Act.put, List.setIfInBounds_toArray, List.set_cons_zero, List.set_cons_succ]
          refine tk 4 ⟨some 89, .move (.tmp 9), 24, "outright.go:27", #[⟨3, .guard⟩], some (3, false)⟩ (.slice (some ⟨gl, 0, none⟩) 1 cl) ?_
          simp only [Act.put, List.setIfInBounds_toArray, List.set_cons_zero, List.set_cons_succ]
          refine tk 5 ⟨some 90, .call { callee := .builtin .len, args := #[.tmp 89], argTypes := #[24] }, 3, "outright.go:27", #[⟨4, .data⟩, ⟨3, .guard⟩], some (3, false)⟩ (.int .i64 1) ?_
          simp only [Act.put, List.setIfInBounds_toArray, List.set_cons_zero, List.set_cons_succ]
          refine tk 6 ⟨some 91, .binOp .neq 3 (.tmp 90) (.const (.int .i64 1)) 3, 4, "outright.go:27", #[⟨5, .data⟩, ⟨3, .guard⟩], some (3, false)⟩ (.bool false) ?_
          simp only [Act.put, List.setIfInBounds_toArray, List.set_cons_zero, List.set_cons_succ]
          refine tk 7 ⟨some 92, .pick (.tmp 88) (.const (.bool true)) (.tmp 91), 4, "outright.go:27", #[⟨3, .data⟩, ⟨6, .data⟩], none⟩ (.bool false) ?_
          simp only [Act.put, List.setIfInBounds_toArray, List.set_cons_zero, List.set_cons_succ]
          refine tk 8 ⟨some 93, .move (.tmp 92), 4, "outright.go:27", #[⟨7, .data⟩, ⟨3, .chain⟩], none⟩ (.bool false) ?_
          simp only [Act.put, List.setIfInBounds_toArray, List.set_cons_zero, List.set_cons_succ]
          refine tk 9 ⟨some 94, .move (.tmp 9), 24, "outright.go:27", #[⟨8, .guard⟩], some (8, false)⟩ (.slice (some ⟨gl, 0, none⟩) 1 cl) ?_
          simp only [Act.put, List.setIfInBounds_toArray, List.set_cons_zero, List.set_cons_succ]
          refine tk 10 ⟨some 95, .indexAddr 24 (.tmp 94) (.const (.int .i64 0)), 0, "outright.go:27", #[⟨9, .data⟩, ⟨8, .guard⟩], some (8, false)⟩ (.pointer (some ⟨gl, 0, none⟩)) ?_
          simp only [Act.put, List.setIfInBounds_toArray, List.set_cons_zero, List.set_cons_succ]
          refine tk 11 ⟨some 96, .load 22 (.tmp 95), 22, "outright.go:27", #[⟨10, .data⟩, ⟨8, .guard⟩], some (8, false)⟩ (.int .u32 ((w9 : Nat) : Int)) ?_ (hy := Or.inl ⟨by rfl, by intro w hSw; have hc := hSw.2.1; go_simp⟩)
          simp only [Act.put, List.setIfInBounds_toArray, List.set_cons_zero, List.set_cons_succ]
          refine tk 12 ⟨some 97, .move (.tmp 0), 24, "outright.go:27", #[⟨8, .guard⟩], some (8, false)⟩ (.slice (some ⟨ga, oa, none⟩) n c) ?_
          simp only [Act.put, List.setIfInBounds_toArray, List.set_cons_zero, List.set_cons_succ]
          refine tk 13 ⟨some 98, .move (.tmp 11), 3, "outright.go:27", #[⟨8, .guard⟩], some (8, false)⟩ (.int .i64 (j : Int)) ?_
          simp only [Act.put, List.setIfInBounds_toArray, List.set_cons_zero, List.set_cons_succ]
          refine tk 14 ⟨some 99, .indexAddr 24 (.tmp 97) (.tmp 98), 0, "outright.go:27", #[⟨12, .data⟩, ⟨13, .data⟩, ⟨8, .guard⟩], some (8, false)⟩ (.pointer (some ⟨ga, oa + j, none⟩)) ?_
          simp only [Act.put, List.setIfInBounds_toArray, List.set_cons_zero, List.set_cons_succ]
          refine tk 15 ⟨some 100, .load 22 (.tmp 99), 22, "outright.go:27", #[⟨14, .data⟩, ⟨8, .guard⟩], some (8, false)⟩ (.int .u32 ((w9 : Nat) : Int)) ?_ (hy := Or.inl ⟨by rfl, by intro w hSw; have hc := hSw.2.2; go_simp⟩)
          simp only [Act.put, List.setIfInBounds_toArray, List.set_cons_zero, List.set_cons_succ]
          refine tk 16 ⟨some 101, .binOp .neq 22 (.tmp 96) (.tmp 100) 22, 4, "outright.go:27", #[⟨11, .data⟩, ⟨15, .data⟩, ⟨8, .guard⟩], some (8, false)⟩ (.bool false) ?_
          simp only [Act.put, List.setIfInBounds_toArray, List.set_cons_zero, List.set_cons_succ]
          refine tk 17 ⟨some 102, .pick (.tmp 93) (.const (.bool true)) (.tmp 101), 4, "outright.go:27", #[⟨8, .data⟩, ⟨16, .data⟩], none⟩ (.bool false) ?_
          simp only [Act.put, List.setIfInBounds_toArray, List.set_cons_zero, List.set_cons_succ]
          refine wpAnyH_done (by kernel_rfl) ?_ _
          go_wp2_with fail
          go_roundw
          case measure => have := HJ.out; simp [intOf] <;> omega
          case rel => exact ⟨j + 1, by have := HJ.out; omega, by have := HJ.out; omega, by simp, hid ⟨B7.out, C7.out.1⟩⟩
        · by_cases hjn : j < n
          · have q1 : (j : Int) < (n : Int) := by omega
            have q2 : ¬ (j : Int) < 64 := by omega
            have HQ2 := hid HQ.out.1
            clear hlt hj
            go_wp2_with fail
            go_ret
            exact ⟨rfl, HQ2.out⟩
          · have hj2 : j = n := by omega
            subst hj2
            have HQ2 := hid HQ.out.1
            clear hlt hj
            go_wp2_with fail
            go_ret
            exact ⟨rfl, HQ2.out⟩
end Go.Proofs.YtncnogndopgknaaGreatDoor
