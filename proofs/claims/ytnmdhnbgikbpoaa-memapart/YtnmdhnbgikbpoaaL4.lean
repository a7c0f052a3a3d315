/- MemLast (4). -/
import Derived.Test.YtnmdhnbgikbpoaaL3
namespace Go.Proofs.Ytnmdhnbgikbpoaa
open Go.RowKit
def AtQ (W : World) (ao : Option Addr) (qs : List (Int × Int)) : Prop := qs = [] ∨ ∃ b off, ao = some ⟨b, off, none⟩ ∧ b < W.heap.size ∧ ∀ k (h : k < qs.length), W.rangeAt b (off + k * 2) [.int .i64 qs[k].1, .int .i64 qs[k].2]
theorem AtQ.below {W w : World} {ao : Option Addr} {qs : List (Int × Int)} (h : AtQ W ao qs) (hb : Below W.heap.size W w) : AtQ w ao qs := by
  rcases h with h | ⟨b, off, h1, h2, h3⟩
  · exact .inl h
  · refine .inr ⟨b, off, h1, by have := hb.size; omega, fun k hk j v hv => ?_⟩
    rw [hb.cell (p := ⟨b, off + k * 2 + j, none⟩) h2]
    exact h3 k hk j v hv
/-- A memory behind the first q acts. -/
structure ML (W wr : World) (f : Fp) (m : MS) (ac : List Ac) (q : Nat) : Prop where
  below : Below W.heap.size W wr
  mem : Mem wr f m
  lo : ∀ k ∈ f.all, W.heap.size ≤ k
  m4 : M4 m
  hp : m.P = playP ac q
section
variable {W wr : World} {f : Fp} {m : MS} {ac : List Ac} {q : Nat} (h : ML W wr f m ac q)
include h
theorem ML.on {w' : World} (hb : Below wr.heap.size wr w') : ML W w' f m ac q := ⟨below_on h.below hb, h.mem.on hb, h.lo, h.m4, h.hp⟩
theorem ML.but {w' : World} {m' : MS} {q' : Nat} (hb : ButL f.w wr w') (hm : Mem w' f m') (h4 : M4 m') (hp : m'.P = playP ac q') : ML W w' f m' ac q' :=
  ⟨h.below.trans (hb.below (fun k hk => h.lo k (Fp.w_all' hk)) h.below.size), hm, h.lo, h4, hp⟩
theorem ml_acted (hq : q < ac.length) : Calls Try.prog 20 #[.pointer (some ⟨f.gm, 0, none⟩), .agg ac[q].cs.toArray] wr fun x w' => x = .returned (.bool true) ∧ ML W w' f (m.act ac[q]) ac (q + 1) :=
  (acted_any wr f m h.mem h.m4 ac[q]).mono fun _ _ ⟨a, b, c⟩ => ⟨a, h.but c b (h.m4.act _) (by show actP m.P _ = _; rw [h.hp, playP_succ ac q hq])⟩
theorem ml_meter : Calls Try.prog 19 #[.pointer (some ⟨f.gm, 0, none⟩)] wr fun x w' => x = .returned (.int .i64 m.c) ∧ ML W w' f m ac q :=
  (meter_any wr f m h.mem).mono fun _ _ ⟨a, b⟩ => ⟨a, b ▸ h⟩
theorem ml_in (n : Int) : Calls Try.prog 10 #[.int .i64 n] wr fun x w' => x = .returned (.agg #[.bool (decide (n % 4 < 2)), .int .i64 (n % 2)]) ∧ ML W w' f m ac q :=
  (in_any2 wr n).mono fun _ _ ⟨a, b⟩ => ⟨a, h.on b⟩
theorem ML.word (hq : q ≤ ac.length) (n o : Int) : m.word (decide (n % 4 < 2)) (n % 2) (o % 1024) = wordN ac q (n % 4) (o % 1024) := by
  unfold MS.word
  rw [h.m4.at]
  simp only [if_pos (in_off o)]
  rw [← wordN_eq ac q hq (n % 4) (o % 1024) (by omega) (by omega) (by omega) (by omega), ← h.hp]
  rfl
theorem ml_read (hq : q ≤ ac.length) (n o : Int) : Calls Try.prog 12 #[.pointer (some ⟨f.gm, 0, none⟩), .agg #[.bool (decide (n % 4 < 2)), .int .i64 (n % 2)], .int .i64 (o % 1024)] wr fun x w' => x = .returned (.tuple #[.int .u32 (wordN ac q (n % 4) (o % 1024)), .int .i64 0]) ∧ ML W w' f (m.tick 1) ac q :=
  (read_any wr f m h.mem _ _ _).mono fun _ _ ⟨a, b, c⟩ => ⟨by
    rw [a, h.word hq n o]; unfold MS.err; rw [h.m4.at]; simp only [if_pos (in_off o)], h.but c (by
    unfold MS.read at b; rw [h.m4.at] at b; simpa only [if_pos (in_off o)] using b) ⟨h.m4.ns, h.m4.len, wrap_wrap _⟩ h.hp⟩
theorem ml_peek (hq : q ≤ ac.length) (n o : Int) : Calls Try.prog 18 #[.pointer (some ⟨f.gm, 0, none⟩), .agg #[.bool (decide (n % 4 < 2)), .int .i64 (n % 2)], .int .i64 (o % 1024)] wr fun x w' => x = .returned (.int .u32 (wordN ac q (n % 4) (o % 1024))) ∧ ML W w' f m ac q :=
  (peek_any wr f m h.mem _ _ _).mono fun _ _ ⟨a, b⟩ => ⟨by rw [a, h.word hq n o], h.on b⟩
theorem ml_word {ao : Option Addr} {c : Nat} (ha : AtA W ao ac) (hn : ac.length ≤ 140737488351232) (hq : q ≤ ac.length) (n o : Int) : Calls Try.prog 23 #[.slice ao ac.length c, .int .i64 (q : Int), .int .i64 (n % 4), .int .i64 (o % 1024)] wr fun x w' => x = .returned (.int .u32 (wordN ac q (n % 4) (o % 1024))) ∧ ML W w' f m ac q :=
  (word_any wr ao c ac (ha.below h.below) hn q hq (n % 4) (o % 1024) (by omega) (by omega)).mono fun _ _ ⟨a, b⟩ => ⟨a, h.on b⟩
end
theorem m4_new : M4 (MS.new 2 2) := ⟨rfl, by simp [MS.new], by show wrap64 0 = 0; exact wrap_in 0 (by omega)⟩
set_option maxRecDepth 40000 in
set_option maxHeartbeats 8000000 in
theorem last_any (W : World) (ao : Option Addr) (c : Nat) (ac : List Ac) (ha : AtA W ao ac) (hn : ac.length ≤ 140737488351232) (bo : Option Addr) (d : Nat) (qs : List (Int × Int)) (hb : AtQ W bo qs) (hm : qs.length ≤ 140737488351232) :
    Calls Try.prog 4 #[.slice ao ac.length c, .slice bo qs.length d] W fun x w' => x = .returned (.bool true) ∧ Below W.heap.size W w' := by
  have n1 : (ac.length : Int) ≤ 140737488351232 := by omega
  have n2 : (qs.length : Int) ≤ 140737488351232 := by omega
  have HN2 : Hid (∀ x, Calls Try.prog 7 #[.int .i64 2, .int .i64 2] x fun y w' => ∃ f, y = .returned (.tuple #[ptr f.gm, .int .i64 0]) ∧ NewMem x w' f (MS.new 2 2)) := hid (fun x => new_any x 2 2 (by decide) (by decide) (by decide) (by decide))
  have HA := hid ha
  have HQ := hid hb
  have HN := hid hn
  clear ha hb hm hn
  go_enter Try.func4, Try.ntmps4
  go_wp2_with fail
  refine (HN2.out _).mono ?_
  rintro x w1 ⟨f, rfl, hm⟩
  have HM : Hid (ML W w1 f (MS.new 2 2) ac 0) := hid ⟨hm.below, hm.mem, hm.new, m4_new, rfl⟩
  clear hm HN2
  simp only [ptr]
  go_wp2_with fail
  refine (ml_meter HM.out).mono ?_
  clear HM
  rintro x w2 ⟨rfl, hm⟩
  have HM := hid hm
  clear hm
  have e0 : (MS.new 2 2).c = 0 := rfl
  rw [e0]
  go_wp2_with fail
  go_loopw [7, 8, 9, 10, 11, 12] (fun t i _ _ _ _ wr => ∃ (q : Nat) (m : MS), q ≤ ac.length ∧ t = .int .i64 m.c ∧ i = .int .i64 (q : Int) ∧ Hid (ML W wr f m ac q)) (fun _ i _ _ _ _ _ => ac.length - (intOf i).toNat)
  case atStart => exact ⟨0, MS.new 2 2, Nat.zero_le _, rfl, rfl, HM⟩
  case round =>
    obtain ⟨q, m, hq, rfl, rfl, HL⟩ := hrel
    clear HM
    by_cases hlt : q < ac.length
    · have c1 : (q : Int) < (ac.length : Int) := by omega
      have HA2 := HA
      rcases HA.out with h | ⟨b, off, rfl, hb, hr⟩
      · rw [h] at hlt; simp at hlt
      have HAC := hid (ml_acted HL.out hlt)
      have HZ : Hid (∀ x, Below W.heap.size W x → x.rangeAt b (off + q * 5) ac[q].cs) := hid (fun x hx j v hv => by
        rw [hx.cell (p := ⟨b, off + q * 5 + j, none⟩) hb]
        exact hr q hlt j v hv)
      have HY : Hid (∀ x, Below W.heap.size W x → x.cell? ⟨b, off + q * 5, none⟩ = some (.int .i64 ac[q].k)) := hid (fun x hx => by
        have := HZ.out x hx 0 _ rfl
        simpa using this)
      have HR := hid (HZ.out wr HL.out.below)
      have HLT := hid hlt
      clear hr hb HZ
      have HCS : Hid (ac[q].cs.length = 5) := hid rfl
      generalize hac : ac[q] = a at *
      clear hac
      generalize hcs : a.cs = acs at *
      clear hcs
      go_wp2_with (first | (refine wpList_load_mid rfl 50 _ rfl b (off + q * 5) rfl acs _ HR.out under50' rfl (by rw [size50, HCS.out]) ?_))
      refine HAC.out.mono ?_
      rintro x w3 ⟨rfl, hm⟩
      have HM := hid hm
      clear hm HAC HL HR
      have HC : Hid ((m.act a).c = wrap64 (m.c + costN a.k)) := hid rfl
      have y0 := HY.out w3 HM.out.below
      generalize m.act a = m2 at *
      clear HY HCS
      go_wp2_with fail
      refine (cost_any _ _).mono ?_
      rintro x w4 ⟨rfl, rfl⟩
      clear y0
      generalize costN a.k = ck at *
      go_wp2_with fail
      refine (ml_meter HM.out).mono ?_
      clear HM
      rintro x w4 ⟨rfl, hm⟩
      have HM := hid hm
      clear hm
      rw [HC.out]
      generalize wrap64 (m.c + ck) = tt at *
      by_cases hq2 : q < qs.length
      · have c2 : (q : Int) < (qs.length : Int) := by omega
        rcases HQ.out with h | ⟨b2, off2, rfl, hb2, hr2⟩
        · rw [h] at hq2; simp at hq2
        have HZ2 : Hid (∀ x, Below W.heap.size W x → x.cell? ⟨b2, off2 + q * 2, none⟩ = some (.int .i64 qs[q].1) ∧ x.cell? ⟨b2, off2 + q * 2 + 1, none⟩ = some (.int .i64 qs[q].2)) := hid (fun x hx => by
          rw [hx.cell (p := ⟨b2, off2 + q * 2, none⟩) hb2, hx.cell (p := ⟨b2, off2 + q * 2 + 1, none⟩) hb2]
          exact ⟨by have := hr2 q hq2 0 _ rfl; simpa using this, hr2 q hq2 1 _ rfl⟩)
        clear hr2
        generalize qs[q].1 = F at *
        generalize qs[q].2 = O at *
        obtain ⟨y1, y2⟩ := HZ2.out w4 HM.out.below
        go_wp2_with fail
        refine (off_any _ _).mono ?_
        rintro x w5 ⟨rfl, rfl⟩
        clear y1 y2 HZ2
        go_wp2_with fail
        refine (ml_in HM.out F).mono ?_
        clear HM
        rintro x w5 ⟨rfl, hm⟩
        have HM := hid hm
        clear hm
        go_wp2_with fail
        refine (ml_read HM.out HLT.out F O).mono ?_
        clear HM
        rintro x w6 ⟨rfl, hm⟩
        have HM := hid hm
        have HC2 : Hid ((m2.tick 1).c = wrap64 (tt + 1)) := hid (by rw [← HC.out]; rfl)
        clear hm HC
        generalize m2.tick 1 = m3 at *
        go_wp2_with fail
        refine (page4_any _ _).mono ?_
        rintro x w7 ⟨rfl, rfl⟩
        go_wp2_with fail
        have HW := ml_word HM.out (c := c) HA2.out HN.out HLT.out F O
        rw [show ((q + 1 : Nat) : Int) = (q : Int) + 1 by omega] at HW
        refine HW.mono ?_
        clear HM HW
        rintro x w7 ⟨rfl, hm⟩
        have HM := hid hm
        clear hm
        go_wp2_with fail
        refine (ml_in HM.out F).mono ?_
        clear HM
        rintro x w8 ⟨rfl, hm⟩
        have HM := hid hm
        clear hm
        go_wp2_with fail
        refine (ml_peek HM.out HLT.out F O).mono ?_
        clear HM
        rintro x w9 ⟨rfl, hm⟩
        have HM := hid hm
        clear hm
        go_wp2_with fail
        go_roundw
        case measure => simp [intOf] <;> omega
        case rel => exact ⟨q + 1, m3, by omega, by rw [HC2.out], by go_num, HM⟩
      · have c2 : ¬ (q : Int) < (qs.length : Int) := by omega
        go_wp2_with fail
        go_roundw
        case measure => simp [intOf] <;> omega
        case rel => exact ⟨q + 1, m2, by omega, by rw [HC.out], by go_num, HM⟩
    · obtain rfl : q = ac.length := by omega
      go_wp2_with fail
      go_loopw [13, 14] (fun i _ wr => ∃ (j : Nat), j ≤ qs.length ∧ j ≤ 100 ∧ i = .int .i64 (j : Int) ∧ Hid (ML W wr f m ac ac.length)) (fun i _ _ => 100 - (intOf i).toNat)
      case atStart => exact ⟨0, Nat.zero_le _, Nat.zero_le _, rfl, HL⟩
      case round =>
        obtain ⟨j, hj, hj2, rfl, HM⟩ := hrel
        clear HL
        have jj : (j : Int) ≤ 100 := by omega
        by_cases hs : j < qs.length ∧ j < 100
        · obtain ⟨hs1, hs2⟩ := hs
          have c2 : (j : Int) < (qs.length : Int) := by omega
          have c3 : (j : Int) < 100 := by omega
          rcases HQ.out with h | ⟨b2, off2, rfl, hb2, hr2⟩
          · rw [h] at hs1; simp at hs1
          have HZ2 : Hid (∀ x, Below W.heap.size W x → x.cell? ⟨b2, off2 + j * 2, none⟩ = some (.int .i64 qs[j].1) ∧ x.cell? ⟨b2, off2 + j * 2 + 1, none⟩ = some (.int .i64 qs[j].2)) := hid (fun x hx => by
            rw [hx.cell (p := ⟨b2, off2 + j * 2, none⟩) hb2, hx.cell (p := ⟨b2, off2 + j * 2 + 1, none⟩) hb2]
            exact ⟨by have := hr2 j hs1 0 _ rfl; simpa using this, hr2 j hs1 1 _ rfl⟩)
          clear hr2
          generalize qs[j].1 = F at *
          generalize qs[j].2 = O at *
          obtain ⟨y1, y2⟩ := HZ2.out wr HM.out.below
          go_wp2_with fail
          refine (off_any _ _).mono ?_
          rintro x w5 ⟨rfl, rfl⟩
          clear y1 y2
          go_wp2_with fail
          refine wp_region_held_drew (S := fun x => ML W x f m ac ac.length) (by kernel_rfl) (HM.out.on (Below.refl _ _).drew) (fun hHeld => ?_)
          refine wpAnyH_take (i := 0) (oi := { dst := some 118, op := Op.move (Operand.tmp 5), type := 25, pos := "outright.go:133", after := #[], guard := none }) (v := .pointer (some ⟨f.gm, 0, none⟩)) rfl (by kernel_rfl) (by kernel_rfl) (by kernel_rfl) (fun _ _ _ h => h) (Or.inl ⟨by rfl, by intro w hSw; go_simp⟩) (by assumption) ?_
          simp only [Act.put, List.setIfInBounds_toArray, List.set_cons_zero, List.set_cons_succ]
          refine wpAnyH_take (i := 1) (oi := { dst := some 119, op := Op.move (Operand.tmp 1), type := 47, pos := "outright.go:133", after := #[], guard := none }) (v := .slice (some ⟨b2, off2, none⟩) qs.length d) rfl (by kernel_rfl) (by kernel_rfl) (by kernel_rfl) (fun _ _ _ h => h) (Or.inl ⟨by rfl, by intro w hSw; go_simp⟩) (by assumption) ?_
          simp only [Act.put, List.setIfInBounds_toArray, List.set_cons_zero, List.set_cons_succ]
          refine wpAnyH_take (i := 2) (oi := { dst := some 120, op := Op.move (Operand.tmp 13), type := 3, pos := "outright.go:133", after := #[], guard := none }) (v := .int .i64 (j : Int)) rfl (by kernel_rfl) (by kernel_rfl) (by kernel_rfl) (fun _ _ _ h => h) (Or.inl ⟨by rfl, by intro w hSw; go_simp⟩) (by assumption) ?_
          simp only [Act.put, List.setIfInBounds_toArray, List.set_cons_zero, List.set_cons_succ]
          refine wpAnyH_take (i := 3) (oi := { dst := some 121, op := Op.indexAddr 47 (Operand.tmp 119) (Operand.tmp 120), type := 0, pos := "outright.go:133", after := #[{ on := 1, ground := Ground.data }, { on := 2, ground := Ground.data }], guard := none }) (v := .pointer (some ⟨b2, off2 + j * 2, none⟩)) rfl (by kernel_rfl) (by kernel_rfl) (by kernel_rfl) (fun _ _ _ h => h) (Or.inl ⟨by rfl, by intro w hSw; go_simp⟩) (by assumption) ?_
          simp only [Act.put, List.setIfInBounds_toArray, List.set_cons_zero, List.set_cons_succ]
          refine wpAnyH_take (i := 4) (oi := { dst := some 122, op := Op.fieldAddr 53 (Operand.tmp 121) 0, type := 0, pos := "outright.go:133", after := #[{ on := 3, ground := Ground.data }], guard := none }) (v := .pointer (some ⟨b2, off2 + j * 2, none⟩)) rfl (by kernel_rfl) (by kernel_rfl) (by kernel_rfl) (fun _ _ _ h => h) (Or.inl ⟨by rfl, by intro w hSw; go_simp⟩) (by assumption) ?_
          simp only [Act.put, List.setIfInBounds_toArray, List.set_cons_zero, List.set_cons_succ]
          refine wpAnyH_take (i := 5) (oi := { dst := some 123, op := Op.load 3 (Operand.tmp 122), type := 3, pos := "outright.go:133", after := #[{ on := 4, ground := Ground.data }], guard := none }) (v := .int .i64 F) rfl (by kernel_rfl) (by kernel_rfl) (by kernel_rfl) (fun _ _ _ h => h) (Or.inl ⟨by rfl, by intro w hSw; have hcc := (HZ2.out w hSw.below).1; go_simp⟩) (by assumption) ?_
          simp only [Act.put, List.setIfInBounds_toArray, List.set_cons_zero, List.set_cons_succ]
          refine wpAnyH_take (i := 7) (oi := { dst := some 125, op := Op.move (Operand.tmp 14), type := 3, pos := "outright.go:133", after := #[], guard := none }) (v := .int .i64 (O % 1024)) rfl (by kernel_rfl) (by kernel_rfl) (by kernel_rfl) (fun _ _ _ h => h) (Or.inl ⟨by rfl, by intro w hSw; go_simp⟩) (by assumption) ?_
          simp only [Act.put, List.setIfInBounds_toArray, List.set_cons_zero, List.set_cons_succ]
          refine wpAnyH_take (i := 9) (oi := { dst := some 127, op := Op.move (Operand.tmp 0), type := 46, pos := "outright.go:133", after := #[], guard := none }) (v := .slice ao ac.length c) rfl (by kernel_rfl) (by kernel_rfl) (by kernel_rfl) (fun _ _ _ h => h) (Or.inl ⟨by rfl, by intro w hSw; go_simp⟩) (by assumption) ?_
          simp only [Act.put, List.setIfInBounds_toArray, List.set_cons_zero, List.set_cons_succ]
          refine wpAnyH_take (i := 10) (oi := { dst := some 128, op := Op.move (Operand.tmp 0), type := 46, pos := "outright.go:133", after := #[], guard := none }) (v := .slice ao ac.length c) rfl (by kernel_rfl) (by kernel_rfl) (by kernel_rfl) (fun _ _ _ h => h) (Or.inl ⟨by rfl, by intro w hSw; go_simp⟩) (by assumption) ?_
          simp only [Act.put, List.setIfInBounds_toArray, List.set_cons_zero, List.set_cons_succ]
          refine wpAnyH_take (i := 11) (oi := { dst := some 129, op := Op.call { callee := Callee.builtin Builtin.len, args := #[Operand.tmp 128], argTypes := #[46] }, type := 3, pos := "outright.go:133", after := #[{ on := 10, ground := Ground.data }], guard := none }) (v := .int .i64 (ac.length : Int)) rfl (by kernel_rfl) (by kernel_rfl) (by kernel_rfl) (fun _ _ _ h => h) (Or.inl ⟨by rfl, by intro w hSw; go_simp⟩) (by assumption) ?_
          simp only [Act.put, List.setIfInBounds_toArray, List.set_cons_zero, List.set_cons_succ]
          refine wpAnyH_take (i := 12) (oi := { dst := some 130, op := Op.move (Operand.tmp 1), type := 47, pos := "outright.go:133", after := #[], guard := none }) (v := .slice (some ⟨b2, off2, none⟩) qs.length d) rfl (by kernel_rfl) (by kernel_rfl) (by kernel_rfl) (fun _ _ _ h => h) (Or.inl ⟨by rfl, by intro w hSw; go_simp⟩) (by assumption) ?_
          simp only [Act.put, List.setIfInBounds_toArray, List.set_cons_zero, List.set_cons_succ]
          refine wpAnyH_take (i := 13) (oi := { dst := some 131, op := Op.move (Operand.tmp 13), type := 3, pos := "outright.go:133", after := #[], guard := none }) (v := .int .i64 (j : Int)) rfl (by kernel_rfl) (by kernel_rfl) (by kernel_rfl) (fun _ _ _ h => h) (Or.inl ⟨by rfl, by intro w hSw; go_simp⟩) (by assumption) ?_
          simp only [Act.put, List.setIfInBounds_toArray, List.set_cons_zero, List.set_cons_succ]
          refine wpAnyH_take (i := 14) (oi := { dst := some 132, op := Op.indexAddr 47 (Operand.tmp 130) (Operand.tmp 131), type := 0, pos := "outright.go:133", after := #[{ on := 12, ground := Ground.data }, { on := 13, ground := Ground.data }], guard := none }) (v := .pointer (some ⟨b2, off2 + j * 2, none⟩)) rfl (by kernel_rfl) (by kernel_rfl) (by kernel_rfl) (fun _ _ _ h => h) (Or.inl ⟨by rfl, by intro w hSw; go_simp⟩) (by assumption) ?_
          simp only [Act.put, List.setIfInBounds_toArray, List.set_cons_zero, List.set_cons_succ]
          refine wpAnyH_take (i := 15) (oi := { dst := some 133, op := Op.fieldAddr 53 (Operand.tmp 132) 0, type := 0, pos := "outright.go:133", after := #[{ on := 14, ground := Ground.data }], guard := none }) (v := .pointer (some ⟨b2, off2 + j * 2, none⟩)) rfl (by kernel_rfl) (by kernel_rfl) (by kernel_rfl) (fun _ _ _ h => h) (Or.inl ⟨by rfl, by intro w hSw; go_simp⟩) (by assumption) ?_
          simp only [Act.put, List.setIfInBounds_toArray, List.set_cons_zero, List.set_cons_succ]
          refine wpAnyH_take (i := 16) (oi := { dst := some 134, op := Op.load 3 (Operand.tmp 133), type := 3, pos := "outright.go:133", after := #[{ on := 15, ground := Ground.data }], guard := none }) (v := .int .i64 F) rfl (by kernel_rfl) (by kernel_rfl) (by kernel_rfl) (fun _ _ _ h => h) (Or.inl ⟨by rfl, by intro w hSw; have hcc := (HZ2.out w hSw.below).1; go_simp⟩) (by assumption) ?_
          simp only [Act.put, List.setIfInBounds_toArray, List.set_cons_zero, List.set_cons_succ]
          refine wpAnyH_take (i := 18) (oi := { dst := some 136, op := Op.move (Operand.tmp 14), type := 3, pos := "outright.go:133", after := #[], guard := none }) (v := .int .i64 (O % 1024)) rfl (by kernel_rfl) (by kernel_rfl) (by kernel_rfl) (fun _ _ _ h => h) (Or.inl ⟨by rfl, by intro w hSw; go_simp⟩) (by assumption) ?_
          simp only [Act.put, List.setIfInBounds_toArray, List.set_cons_zero, List.set_cons_succ]
          refine wpAnyH_ready (rs := [6]) (by kernel_rfl) (by simp) (AllReadyH.cons (o := { dst := some 124, op := Op.call { callee := Callee.value (Operand.func 10), args := #[Operand.tmp 123], argTypes := #[3] }, type := 23, pos := "outright.go:133", after := #[{ on := 5, ground := Ground.data }], guard := none }) rfl (fun KQ hK => ?_) AllReadyH.nil)
          go_simp
          refine (ml_in (HM.out.on (Below.refl _ _).drew) F).mono ?_
          rintro x wq1 ⟨rfl, hq1⟩
          go_wp2_with fail
          refine hK.out _ _ hq1 (fun hHeld => ?_)
          clear hK KQ
          try simp only [Act.put, List.setIfInBounds_toArray, List.set_cons_zero, List.set_cons_succ]
          refine wpAnyH_ready (rs := [8]) (by kernel_rfl) (by simp) (AllReadyH.cons (o := { dst := some 126, op := Op.call { callee := Callee.value (Operand.func 18), args := #[Operand.tmp 118, Operand.tmp 124, Operand.tmp 125], argTypes := #[25, 23, 3] }, type := 32, pos := "outright.go:133", after := #[{ on := 0, ground := Ground.data }, { on := 6, ground := Ground.data }, { on := 7, ground := Ground.data }, { on := 6, ground := Ground.chain }], guard := none }) rfl (fun KQ hK => ?_) AllReadyH.nil)
          go_simp
          refine (ml_peek hq1 (Nat.le_refl _) F O).mono ?_
          rintro x wq2 ⟨rfl, hq2⟩
          go_wp2_with fail
          refine hK.out _ _ hq2 (fun hHeld => ?_)
          clear hK KQ
          try simp only [Act.put, List.setIfInBounds_toArray, List.set_cons_zero, List.set_cons_succ]
          refine wpAnyH_ready (rs := [17]) (by kernel_rfl) (by simp) (AllReadyH.cons (o := { dst := some 135, op := Op.call { callee := Callee.value (Operand.func 24), args := #[Operand.tmp 134], argTypes := #[3] }, type := 3, pos := "outright.go:133", after := #[{ on := 16, ground := Ground.data }, { on := 8, ground := Ground.chain }], guard := none }) rfl (fun KQ hK => ?_) AllReadyH.nil)
          go_simp
          refine (page4_any _ _).mono ?_
          rintro x wq3 ⟨rfl, rfl⟩
          go_wp2_with fail
          refine hK.out _ _ hq2 (fun hHeld => ?_)
          clear hK KQ
          try simp only [Act.put, List.setIfInBounds_toArray, List.set_cons_zero, List.set_cons_succ]
          refine wpAnyH_ready (rs := [19]) (by kernel_rfl) (by simp) (AllReadyH.cons (o := { dst := some 137, op := Op.call { callee := Callee.value (Operand.func 23), args := #[Operand.tmp 127, Operand.tmp 129, Operand.tmp 135, Operand.tmp 136], argTypes := #[46, 3, 3, 3] }, type := 32, pos := "outright.go:133", after := #[{ on := 9, ground := Ground.data }, { on := 11, ground := Ground.data }, { on := 17, ground := Ground.data }, { on := 18, ground := Ground.data }, { on := 17, ground := Ground.chain }], guard := none }) rfl (fun KQ hK => ?_) AllReadyH.nil)
          go_simp
          refine (ml_word hq2 (c := c) HA.out HN.out (Nat.le_refl _) F O).mono ?_
          rintro x wq4 ⟨rfl, hq4⟩
          go_wp2_with fail
          refine hK.out _ _ hq4 (fun hHeld => ?_)
          clear hK KQ
          try simp only [Act.put, List.setIfInBounds_toArray, List.set_cons_zero, List.set_cons_succ]
          refine wpAnyH_take (i := 20) (oi := { dst := some 138, op := Op.binOp BinOp.neq 32 (Operand.tmp 126) (Operand.tmp 137) 32, type := 4, pos := "outright.go:133", after := #[{ on := 8, ground := Ground.data }, { on := 19, ground := Ground.data }], guard := none }) (v := .bool false) rfl (by kernel_rfl) (by kernel_rfl) (by kernel_rfl) (fun _ _ _ h => h) (Or.inl ⟨by rfl, by intro w hSw; go_simp⟩) (by assumption) ?_
          simp only [Act.put, List.setIfInBounds_toArray, List.set_cons_zero, List.set_cons_succ]
          refine wpAnyH_done (by kernel_rfl) ?_ _
          clear hHeld
          clear HM
          have HM := hid hq4
          clear HZ2 hq1 hq2 hq4
          go_wp2_with fail
          go_roundw
          case measure => simp [intOf] <;> omega
          case rel => exact ⟨j + 1, by omega, by omega, by go_num, HM⟩
        · have hs3 : ¬ j < qs.length ∨ (j < qs.length ∧ ¬ j < 100) := by omega
          rcases hs3 with hs3 | ⟨hs3, hs4⟩
          · have c2 : ¬ (j : Int) < (qs.length : Int) := by omega
            go_wp2_with fail
            refine (ml_meter HM.out).mono ?_
            clear HM
            rintro x w4 ⟨rfl, hm⟩
            have HM := hid hm
            clear hm
            go_wp2_with fail
            go_ret
            exact ⟨rfl, HM.out.below⟩
          · have c2 : (j : Int) < (qs.length : Int) := by omega
            have c3 : ¬ (j : Int) < 100 := by omega
            go_wp2_with fail
            refine (ml_meter HM.out).mono ?_
            clear HM
            rintro x w4 ⟨rfl, hm⟩
            have HM := hid hm
            clear hm
            go_wp2_with fail
            go_ret
            exact ⟨rfl, HM.out.below⟩
end Go.Proofs.Ytnmdhnbgikbpoaa
