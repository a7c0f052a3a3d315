/- mapped 24 (the law's). -/
import Derived.Test.YtmmphmdmocfnpaaB2
namespace Go.Proofs.Ytmmphmdmocfnpaa
open Go.RowKit
set_option maxHeartbeats 8000000
set_option maxRecDepth 100000
theorem MS.write_ns (m : MS) (s : Bool) (p o v : Int) : (m.write s p o v).ns = m.ns ∧ (m.write s p o v).P.length = m.P.length := by
  unfold MS.write
  split
  · exact ⟨rfl, rfl⟩
  · split
    · exact ⟨rfl, List.length_set⟩
    · exact ⟨rfl, rfl⟩
def tabs : Nat → MS
  | 0 => MS.new 8 4
  | t + 1 => (tabs t).write true 0 (ix t) (256 * ((t : Int) + 1) + 1)
def mpd (L : Nat → Mg) : Nat → MS
  | 0 => tabs 3
  | k + 1 => (mpd L k).write true (wi (L k).i 0 3 + 1) (wi (L k).j 0 1024) (L k).sd.enc
theorem tabs_ns : ∀ t, (tabs t).ns = 8 ∧ (tabs t).P.length = 12
  | 0 => by simp [tabs, MS.new]
  | t + 1 => by rw [tabs, (MS.write_ns _ _ _ _ _).1, (MS.write_ns _ _ _ _ _).2]; exact tabs_ns t
theorem mpd_ns (L : Nat → Mg) : ∀ k, (mpd L k).ns = 8 ∧ (mpd L k).P.length = 12
  | 0 => tabs_ns 3
  | k + 1 => by rw [mpd, (MS.write_ns _ _ _ _ _).1, (MS.write_ns _ _ _ _ _).2]; exact mpd_ns L k
theorem err_ok {m : MS} (h : m.ns = 8) (p o : Int) (h0 : 0 ≤ p) (h1 : p < 8) (ho : In o) : m.err true p o = 0 := by
  unfold MS.err MS.at
  rw [if_pos h0, if_pos rfl, if_pos (by rw [h]; exact h1)]
  simp only
  rw [if_pos ho]
theorem ix_in (t : Nat) : In (ix t) := by
  unfold ix In
  split
  · decide
  · split <;> decide
structure MgAt (W : World) (ao : Option Addr) (n b off : Nat) (L : Nat → Mg) : Prop where
  ao : 0 < n → ao = some ⟨b, off, none⟩ ∧ b < W.heap.size
  c : ∀ j, j < n → W.rangeAt b (off + j * 6) [.int .i64 (L j).i, .int .i64 (L j).j, .bool (L j).s, .int .i64 (L j).p, .bool (L j).wr, .bool (L j).ex]
  r : ∀ j, j < n → (L j).Ok
theorem MgAt.cells {W w : World} {ao : Option Addr} {n b off : Nat} {L : Nat → Mg} (h : MgAt W ao n b off L) (hb : Below W.heap.size W w) (j : Nat) (hj : j < n) :
    w.cell? ⟨b, off + j * 6, none⟩ = some (.int .i64 (L j).i) ∧ w.cell? ⟨b, off + j * 6 + 1, none⟩ = some (.int .i64 (L j).j) ∧ w.cell? ⟨b, off + j * 6 + 2, none⟩ = some (.bool (L j).s) ∧ w.cell? ⟨b, off + j * 6 + 3, none⟩ = some (.int .i64 (L j).p) ∧ w.cell? ⟨b, off + j * 6 + 4, none⟩ = some (.bool (L j).wr) ∧ w.cell? ⟨b, off + j * 6 + 5, none⟩ = some (.bool (L j).ex) := by
  have hlt := (h.ao (by omega)).2
  have hc := h.c j hj
  exact ⟨(hb.cell (p := ⟨b, off + j * 6, none⟩) hlt).trans (hc 0 _ rfl), (hb.cell (p := ⟨b, off + j * 6 + 1, none⟩) hlt).trans (hc 1 _ rfl), (hb.cell (p := ⟨b, off + j * 6 + 2, none⟩) hlt).trans (hc 2 _ rfl), (hb.cell (p := ⟨b, off + j * 6 + 3, none⟩) hlt).trans (hc 3 _ rfl), (hb.cell (p := ⟨b, off + j * 6 + 4, none⟩) hlt).trans (hc 4 _ rfl), (hb.cell (p := ⟨b, off + j * 6 + 5, none⟩) hlt).trans (hc 5 _ rfl)⟩
theorem mappedl_any (W : World) (ao : Option Addr) (n cp b off : Nat) (L : Nat → Mg) (hL : MgAt W ao n b off L) (hn : (n : Int) ≤ 4611686018427387904) :
    Calls Try.prog 24 #[.slice ao n cp] W fun e W' => ∃ f, e = .returned (.tuple #[ptr f.gm, .bool true]) ∧ NewMem W W' f (mpd L (min n 60)) := by
  have H1 := hid (new_any W 8 4 (by decide) (by decide) (by decide) (by decide))
  have HL := hid hL
  clear hL
  unfold ptr at *
  go_enter Try.func24, Try.ntmps24
  go_wp2_with fail
  refine H1.out.mono ?_
  rintro e w1 ⟨f, rfl, hm1⟩
  have HM1 : Hid (NewMem W w1 f (tabs 0)) := hid hm1
  clear hm1 H1
  go_wp2_with fail
  go_loopw [6] (fun i wr => ∃ t : Nat, t ≤ 3 ∧ i = .int .i64 (t : Int) ∧ Hid (NewMem W wr f (tabs t))) (fun i _ => 3 - (intOf i).toNat)
  case atStart => exact ⟨0, by decide, rfl, HM1⟩
  case round =>
    clear HM1
    obtain ⟨t, ht, rfl, HQ⟩ := hrel
    by_cases hlt : t < 3
    · have q1 : (t : Int) < 3 := by omega
      have hF := first_any wr ((t : Int) + 1)
      unfold fW fE at hF
      rw [if_pos (by unfold Pg; omega), if_pos (by unfold Pg; omega)] at hF
      have HF := hid hF
      clear hF
      have HW := hid (fun w' (hb : Below wr.heap.size wr w') => write_any w' f (tabs t) (HQ.out.mem.on hb) true 0 (ix t) (256 * ((t : Int) + 1) + 1))
      have he := err_ok (tabs_ns t).1 0 (ix t) (by decide) (by decide) (ix_in t)
      rw [he] at HW
      unfold fr ptr at HW
      clear he
      go_wp2_with fail
      refine HF.out.mono ?_
      rintro e wx ⟨rfl, rfl⟩
      go_wp2_with fail
      refine (index_any _ t hlt).mono ?_
      rintro e w2 ⟨rfl, hb2⟩
      have HW2 := hid (HW.out w2 hb2)
      have HQ2 := hid (HQ.out.on hb2)
      clear hb2 HF HW HQ
      go_wp2_with fail
      refine HW2.out.mono ?_
      rintro e w3 ⟨rfl, hm3, hb3⟩
      have HQ3 : Hid (NewMem W w3 f (tabs (t + 1))) := hid (HQ2.out.write hm3 hb3)
      clear hm3 hb3 HW2 HQ2
      go_wp2_with fail
      go_roundw
      case rel => exact ⟨t + 1, by omega, by simp, HQ3⟩
      case measure => simp [intOf] <;> omega
    · have ht3 : t = 3 := by omega
      have HQ : Hid (NewMem W wr f (mpd L 0)) := by rw [ht3] at HQ; exact HQ
      have qt : ¬ (t : Int) < 3 := by omega
      clear ht ht3 hlt
      go_wp2_with fail
      go_loopw [10] (fun i wr => ∃ k : Nat, k ≤ n ∧ k ≤ 60 ∧ i = .int .i64 (k : Int) ∧ Hid (NewMem W wr f (mpd L k))) (fun i _ => n - (intOf i).toNat)
      case atStart => exact ⟨0, by omega, by decide, rfl, HQ⟩
      case round =>
        clear HQ
        obtain ⟨k, hk, hk60, rfl, HQ⟩ := hrel
        by_cases hlt : k < n ∧ k < 60
        · obtain ⟨h1, h2⟩ := hlt
          have q1 : (k : Int) < (n : Int) := by omega
          have q2 : (k : Int) < 60 := by omega
          obtain ⟨hao, hb0⟩ := HL.out.ao (by omega)
          subst hao
          obtain ⟨c0, c1, c2, c3, c4, c5⟩ := HL.out.cells HQ.out.below k h1
          have hok := HL.out.r k h1
          have HSD := hid (said_any wr (L k) hok)
          go_wp2_with fail
          refine HSD.out.mono ?_
          rintro e w2 ⟨rfl, hb2⟩
          have HQ2 := hid (HQ.out.on hb2)
          clear hb2 HSD HQ c0 c1 c2 c3 c4 c5
          go_wp2_with fail
          refine (second_any _ _).mono ?_
          rintro e w3 ⟨rfl, hb3⟩
          have HQ3 := hid (HQ2.out.on hb3)
          clear hb3 HQ2
          rw [Mg.sd_err]
          go_upto_region 15 with fail
          have hwi := wi_range (L k).i 0 3 (by decide)
          have hwj := wi_range (L k).j 0 1024 (by decide)
          have HI := hid (fun W => within_any W (L k).i 0 2 (by decide) (by decide) (by decide) hok.1.1 hok.1.2)
          have HJ := hid (fun W => within_any W (L k).j 0 1023 (by decide) (by decide) (by decide) hok.2.1.1 hok.2.1.2)
          simp only [Int.reduceSub, Int.reduceAdd] at HI HJ
          have HW := hid (fun w' (hm : Mem w' f (mpd L k)) => write_any w' f (mpd L k) hm true (wi (L k).i 0 3 + 1) (wi (L k).j 0 1024) (L k).sd.enc)
          rw [err_ok (mpd_ns L k).1 _ _ (by omega) (by omega) ⟨by omega, by omega⟩] at HW
          unfold fr ptr at HW
          have HD := hid (HQ3.out.on (Below.refl _ _).drew)
          have HC := hid (fun x (hb : Below W.heap.size W x) => HL.out.cells hb k h1)
          have HK : Hid (mpd L (k + 1) = (mpd L k).write true (wi (L k).i 0 3 + 1) (wi (L k).j 0 1024) (L k).sd.enc) := hid rfl
          generalize (L k).sd.enc = en at *
          generalize wi (L k).i 0 3 = wI at *
          generalize wi (L k).j 0 1024 = wJ at *
          generalize (L k).i = li at *
          generalize (L k).j = lj at *
          have hwr : IntKind.i64.wrap (wI + 1) = wI + 1 := by rw [IntKind.wrap_i64]; omega
          refine wp_region_held_drew (S := fun x => ∃ mm, NewMem W x f mm) (by kernel_rfl) ⟨_, HD.out⟩ (fun hHeld => ?_)
          refine wpAnyH_take (i := 0) (oi := { dst := some 61, op := Op.move (Operand.tmp 4), type := 57, pos := "outright.go:74", after := #[], guard := none }) (v := .pointer (some ⟨f.gm, 0, none⟩)) rfl (by kernel_rfl) (by kernel_rfl) (by kernel_rfl) (fun _ _ _ h => h) (Or.inl ⟨by rfl, by intro w hSw; go_simp⟩) (by assumption) ?_
          simp only [Act.put, List.setIfInBounds_toArray, List.set_cons_zero, List.set_cons_succ]
          refine wpAnyH_take (i := 1) (oi := { dst := some 62, op := Op.move (Operand.tmp 0), type := 56, pos := "outright.go:74", after := #[], guard := none }) (v := .slice (some ⟨b, off, none⟩) n cp) rfl (by kernel_rfl) (by kernel_rfl) (by kernel_rfl) (fun _ _ _ h => h) (Or.inl ⟨by rfl, by intro w hSw; go_simp⟩) (by assumption) ?_
          simp only [Act.put, List.setIfInBounds_toArray, List.set_cons_zero, List.set_cons_succ]
          refine wpAnyH_take (i := 2) (oi := { dst := some 63, op := Op.move (Operand.tmp 10), type := 3, pos := "outright.go:74", after := #[], guard := none }) (v := .int .i64 (k : Int)) rfl (by kernel_rfl) (by kernel_rfl) (by kernel_rfl) (fun _ _ _ h => h) (Or.inl ⟨by rfl, by intro w hSw; go_simp⟩) (by assumption) ?_
          simp only [Act.put, List.setIfInBounds_toArray, List.set_cons_zero, List.set_cons_succ]
          refine wpAnyH_take (i := 3) (oi := { dst := some 64, op := Op.indexAddr 56 (Operand.tmp 62) (Operand.tmp 63), type := 0, pos := "outright.go:74", after := #[{ on := 1, ground := Ground.data }, { on := 2, ground := Ground.data }], guard := none }) (v := .pointer (some ⟨b, off + k * 6, none⟩)) rfl (by kernel_rfl) (by kernel_rfl) (by kernel_rfl) (fun _ _ _ h => h) (Or.inl ⟨by rfl, by intro w hSw; go_simp⟩) (by assumption) ?_
          simp only [Act.put, List.setIfInBounds_toArray, List.set_cons_zero, List.set_cons_succ]
          refine wpAnyH_take (i := 4) (oi := { dst := some 65, op := Op.fieldAddr 90 (Operand.tmp 64) 0, type := 0, pos := "outright.go:74", after := #[{ on := 3, ground := Ground.data }], guard := none }) (v := .pointer (some ⟨b, off + k * 6, none⟩)) rfl (by kernel_rfl) (by kernel_rfl) (by kernel_rfl) (fun _ _ _ h => h) (Or.inl ⟨by rfl, by intro w hSw; go_simp⟩) (by assumption) ?_
          simp only [Act.put, List.setIfInBounds_toArray, List.set_cons_zero, List.set_cons_succ]
          refine wpAnyH_take (i := 5) (oi := { dst := some 66, op := Op.load 3 (Operand.tmp 65), type := 3, pos := "outright.go:74", after := #[{ on := 4, ground := Ground.data }], guard := none }) (v := .int .i64 li) rfl (by kernel_rfl) (by kernel_rfl) (by kernel_rfl) (fun _ _ _ h => h) (Or.inl ⟨by rfl, by intro w hSw; have cc := (HC.out w hSw.choose_spec.below).1; go_simp⟩) (by assumption) ?_
          simp only [Act.put, List.setIfInBounds_toArray, List.set_cons_zero, List.set_cons_succ]
          refine wpAnyH_take (i := 9) (oi := { dst := some 70, op := Op.move (Operand.tmp 0), type := 56, pos := "outright.go:74", after := #[], guard := none }) (v := .slice (some ⟨b, off, none⟩) n cp) rfl (by kernel_rfl) (by kernel_rfl) (by kernel_rfl) (fun _ _ _ h => h) (Or.inl ⟨by rfl, by intro w hSw; go_simp⟩) (by assumption) ?_
          simp only [Act.put, List.setIfInBounds_toArray, List.set_cons_zero, List.set_cons_succ]
          refine wpAnyH_take (i := 10) (oi := { dst := some 71, op := Op.move (Operand.tmp 10), type := 3, pos := "outright.go:74", after := #[], guard := none }) (v := .int .i64 (k : Int)) rfl (by kernel_rfl) (by kernel_rfl) (by kernel_rfl) (fun _ _ _ h => h) (Or.inl ⟨by rfl, by intro w hSw; go_simp⟩) (by assumption) ?_
          simp only [Act.put, List.setIfInBounds_toArray, List.set_cons_zero, List.set_cons_succ]
          refine wpAnyH_take (i := 11) (oi := { dst := some 72, op := Op.indexAddr 56 (Operand.tmp 70) (Operand.tmp 71), type := 0, pos := "outright.go:74", after := #[{ on := 9, ground := Ground.data }, { on := 10, ground := Ground.data }], guard := none }) (v := .pointer (some ⟨b, off + k * 6, none⟩)) rfl (by kernel_rfl) (by kernel_rfl) (by kernel_rfl) (fun _ _ _ h => h) (Or.inl ⟨by rfl, by intro w hSw; go_simp⟩) (by assumption) ?_
          simp only [Act.put, List.setIfInBounds_toArray, List.set_cons_zero, List.set_cons_succ]
          refine wpAnyH_take (i := 12) (oi := { dst := some 73, op := Op.fieldAddr 90 (Operand.tmp 72) 1, type := 0, pos := "outright.go:74", after := #[{ on := 11, ground := Ground.data }], guard := none }) (v := .pointer (some ⟨b, off + k * 6 + 1, none⟩)) rfl (by kernel_rfl) (by kernel_rfl) (by kernel_rfl) (fun _ _ _ h => h) (Or.inl ⟨by rfl, by intro w hSw; go_simp⟩) (by assumption) ?_
          simp only [Act.put, List.setIfInBounds_toArray, List.set_cons_zero, List.set_cons_succ]
          refine wpAnyH_take (i := 13) (oi := { dst := some 74, op := Op.load 3 (Operand.tmp 73), type := 3, pos := "outright.go:74", after := #[{ on := 12, ground := Ground.data }], guard := none }) (v := .int .i64 lj) rfl (by kernel_rfl) (by kernel_rfl) (by kernel_rfl) (fun _ _ _ h => h) (Or.inl ⟨by rfl, by intro w hSw; have cc := (HC.out w hSw.choose_spec.below).2.1; go_simp⟩) (by assumption) ?_
          simp only [Act.put, List.setIfInBounds_toArray, List.set_cons_zero, List.set_cons_succ]
          refine wpAnyH_take (i := 15) (oi := { dst := some 76, op := Op.move (Operand.tmp 11), type := 22, pos := "outright.go:74", after := #[], guard := none }) (v := .int .u32 en) rfl (by kernel_rfl) (by kernel_rfl) (by kernel_rfl) (fun _ _ _ h => h) (Or.inl ⟨by rfl, by intro w hSw; go_simp⟩) (by assumption) ?_
          simp only [Act.put, List.setIfInBounds_toArray, List.set_cons_zero, List.set_cons_succ]
          refine wpAnyH_ready (rs := [6]) (by kernel_rfl) (by simp) (AllReadyH.cons (o := { dst := some 67, op := Op.call { callee := Callee.value (Operand.func 25), args := #[Operand.tmp 66, Operand.const (Value.int IntKind.i64 0), Operand.const (Value.int IntKind.i64 2)], argTypes := #[3, 3, 3] }, type := 3, pos := "outright.go:74", after := #[{ on := 5, ground := Ground.data }], guard := none }) rfl (fun KQ hK => ?_) AllReadyH.nil)
          go_simp
          refine (HI.out _).mono ?_
          rintro e wx ⟨rfl, rfl⟩
          go_wp2_with fail
          refine hK.out _ _ ⟨_, HD.out⟩ (fun hHeld => ?_)
          clear hK KQ
          try simp only [Act.put, List.setIfInBounds_toArray, List.set_cons_zero, List.set_cons_succ]
          refine wpAnyH_take (i := 7) (oi := { dst := some 68, op := Op.binOp BinOp.add 3 (Operand.tmp 67) (Operand.const (Value.int IntKind.i64 1)) 3, type := 3, pos := "outright.go:74", after := #[{ on := 6, ground := Ground.data }], guard := none }) (v := .int .i64 (wI + 1)) rfl (by kernel_rfl) (by kernel_rfl) (by kernel_rfl) (fun _ _ _ h => h) (Or.inl ⟨by rfl, by intro w hSw; have e := hwr; go_simp⟩) (by assumption) ?_
          simp only [Act.put, List.setIfInBounds_toArray, List.set_cons_zero, List.set_cons_succ]
          refine wpAnyH_take (i := 8) (oi := { dst := some 69, op := Op.build 33 #[(0, Operand.const (Value.bool true)), (1, Operand.tmp 68)], type := 33, pos := "outright.go:74", after := #[{ on := 7, ground := Ground.data }], guard := none }) (v := .agg #[.bool true, .int .i64 (wI + 1)]) rfl (by kernel_rfl) (by kernel_rfl) (by kernel_rfl) (fun _ _ _ h => h) (Or.inl ⟨by rfl, by intro w hSw; go_simp⟩) (by assumption) ?_
          simp only [Act.put, List.setIfInBounds_toArray, List.set_cons_zero, List.set_cons_succ]
          refine wpAnyH_ready (rs := [14]) (by kernel_rfl) (by simp) (AllReadyH.cons (o := { dst := some 75, op := Op.call { callee := Callee.value (Operand.func 25), args := #[Operand.tmp 74, Operand.const (Value.int IntKind.i64 0), Operand.const (Value.int IntKind.i64 1023)], argTypes := #[3, 3, 3] }, type := 3, pos := "outright.go:74", after := #[{ on := 13, ground := Ground.data }, { on := 6, ground := Ground.chain }], guard := none }) rfl (fun KQ hK => ?_) AllReadyH.nil)
          go_simp
          refine (HJ.out _).mono ?_
          rintro e wx ⟨rfl, rfl⟩
          go_wp2_with fail
          refine hK.out _ _ ⟨_, HD.out⟩ (fun hHeld => ?_)
          clear hK KQ
          try simp only [Act.put, List.setIfInBounds_toArray, List.set_cons_zero, List.set_cons_succ]
          refine wpAnyH_ready (rs := [16]) (by kernel_rfl) (by simp) (AllReadyH.cons (o := { dst := some 77, op := Op.call { callee := Callee.value (Operand.func 35), args := #[Operand.tmp 61, Operand.tmp 69, Operand.tmp 75, Operand.tmp 76], argTypes := #[57, 33, 3, 22] }, type := 23, pos := "outright.go:74", after := #[{ on := 0, ground := Ground.data }, { on := 8, ground := Ground.data }, { on := 14, ground := Ground.data }, { on := 15, ground := Ground.data }, { on := 14, ground := Ground.chain }], guard := none }) rfl (fun KQ hK => ?_) AllReadyH.nil)
          go_simp
          refine (HW.out _ HD.out.mem).mono ?_
          rintro e w6 ⟨rfl, hm6, hb6⟩
          have HE : Hid (NewMem W w6 f (mpd L (k + 1))) := by rw [HK.out]; exact hid (HD.out.write hm6 hb6)
          clear hm6 hb6
          go_wp2_with fail
          refine hK.out _ _ ⟨_, HE.out⟩ (fun hHeld => ?_)
          clear hK KQ
          try simp only [Act.put, List.setIfInBounds_toArray, List.set_cons_zero, List.set_cons_succ]
          refine wpAnyH_ready (rs := [17]) (by kernel_rfl) (by simp) (AllReadyH.cons (o := { dst := some 13, op := Op.assign (Operand.tmp 77), type := 23, pos := "outright.go:74", after := #[{ on := 16, ground := Ground.data }, { on := 16, ground := Ground.chain }, { on := 0, ground := Ground.phase }, { on := 1, ground := Ground.phase }, { on := 2, ground := Ground.phase }, { on := 3, ground := Ground.phase }, { on := 4, ground := Ground.phase }, { on := 5, ground := Ground.phase }, { on := 6, ground := Ground.phase }, { on := 7, ground := Ground.phase }, { on := 8, ground := Ground.phase }, { on := 9, ground := Ground.phase }, { on := 10, ground := Ground.phase }, { on := 11, ground := Ground.phase }, { on := 12, ground := Ground.phase }, { on := 13, ground := Ground.phase }, { on := 14, ground := Ground.phase }, { on := 15, ground := Ground.phase }, { on := 16, ground := Ground.phase }], guard := none }) rfl (fun KQ hK => ?_) AllReadyH.nil)
          go_simp
          refine hK.out _ _ ⟨_, HE.out⟩ (fun hHeld => ?_)
          clear hK KQ
          try simp only [Act.put, List.setIfInBounds_toArray, List.set_cons_zero, List.set_cons_succ]
          refine wpAnyH_done (by kernel_rfl) ?_ _
          go_wp2_with fail
          go_roundw
          case rel => exact ⟨k + 1, by omega, by omega, by simp, HE⟩
          case measure => simp [intOf] <;> omega
        · have hmin : k = min n 60 := by omega
          have HM : Hid (NewMem W wr f (mpd L (min n 60))) := by rw [← hmin]; exact HQ
          clear HQ hmin
          by_cases h1 : k < n
          · have q0 : (k : Int) < (n : Int) := by omega
            have q1 : ¬ (k : Int) < 60 := by omega
            go_wp2_with fail
            go_returns
            exact ⟨f, rfl, HM.out⟩
          · have q0 : ¬ (k : Int) < (n : Int) := by omega
            go_wp2_with fail
            go_returns
            exact ⟨f, rfl, HM.out⟩
end Go.Proofs.Ytmmphmdmocfnpaa
