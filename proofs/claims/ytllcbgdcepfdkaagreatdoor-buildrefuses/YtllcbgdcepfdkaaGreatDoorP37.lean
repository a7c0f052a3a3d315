import Derived.Test.YtllcbgdcepfdkaaGreatDoorP36
import Derived.Test.YtllcbgdcepfdkaaGreatDoorP28
import Derived.Test.YtllcbgdcepfdkaaGreatDoorP24
namespace Go.Proofs.YtllcbgdcepfdkaaGreatDoor
open Go.RowKit
set_option maxRecDepth 100000
set_option maxHeartbeats 8000000
/-- The first j words of a digest are laid. -/
def DS.dig (d : DS) (s : Int) (L : List Int) : Nat → DS
  | 0 => d
  | j + 1 => (d.dig s L j).wr s (11 + (j : Int)) (L.getD j 0)
theorem layDigest_any (W : World) (p : Dp) (d : DS) (h : DB W p d) (s : Int) (g : Nat) (L : List Int) (hL : L.length = 26) (hc : Cel W g 59 (u32s L)) (hg : g ∉ p.f.w) :
    Calls Tryz.prog 155 #[stV p s, .slice (some ⟨g, 0, none⟩) 26 26] W fun e W' => e = .returned (.tuple #[]) ∧ DB W' p (d.dig s L 26) ∧ ButL p.f.w W W' := by
  have D0 := hid ((DG.startw h).new 148 (stC p s))
  have HC0 := hid (And.intro (hc.on (below_one W (.cells (stC p s).toArray 148))) hg)
  have HMm := hid (fun w d' (hw : DB w p d') => memory_any w p d' hw)
  have HFr := hid (fun w => sframe_any w s)
  have HWr := hid (fun w d' (hw : DB w p d') (off v : Int) => (write_any w p.f d'.m hw.mem true s off v))
  have HL := hid hL
  clear h hc hg hL
  simp only [stV, stC, ptr, fr] at *
  go_enter Tryz.func155, Tryz.ntmps155
  go_upto_region 1 with fail
  generalize World.alloc _ _ = X at *
  generalize W.heap.size = g2 at *
  go_upto_region 2 with fail
  go_loopw [8] (fun i wr => ∃ j : Nat, j ≤ 26 ∧ i = .int .i64 (j : Int) ∧ Hid (DG W wr p (d.dig s L j) p.f.w [(g2, 148, [.pointer (some ⟨p.g, 0, none⟩), .int .i64 s])] ∧ Cel wr g 59 (u32s L) ∧ g ∉ p.f.w)) (fun i _ => 26 - (intOf i).toNat)
  case atStart => exact ⟨0, Nat.zero_le _, rfl, hid ⟨D0.out, HC0.out⟩⟩
  case round =>
    obtain ⟨j, hj, rfl, HQ⟩ := hrel
    clear D0 HC0
    by_cases hlt : j < 26
    · have q1 : (j : Int) < 26 := by omega
      have kw : IntKind.wrap .i64 (11 + (j : Int)) = 11 + (j : Int) := by rw [IntKind.wrap_i64]; omega
      have kw2 : IntKind.wrap .i64 ((j : Int) + 1) = (j : Int) + 1 := by rw [IntKind.wrap_i64]; omega
      have HJ := hid hlt
      have HD1 : Hid (d.dig s L (j + 1) = (d.dig s L j).wr s (11 + (j : Int)) (L.getD j 0)) := hid rfl
      have lc : wr.cell? ⟨g, j, none⟩ = some (.int .u32 (L.getD j 0)) := by
        have h1 := HL.out
        rw [HQ.out.2.1.cell, u32s, List.getElem?_map, List.getD_eq_getElem?_getD, List.getElem?_eq_getElem (by omega)]
        rfl
      clear hlt hj
      generalize hdn : d.dig s L (j + 1) = dn at *
      have HDN := hid hdn
      clear hdn
      generalize d.dig s L j = dj at *
      generalize L.getD j 0 = v at *
      go_upto_region 4 with fail
      have E1 : Hid (DG W wr.drew p dj p.f.w [(g2, 148, [.pointer (some ⟨p.g, 0, none⟩), .int .i64 s])] ∧ Cel wr.drew g 59 (u32s L) ∧ g ∉ p.f.w) := hid ⟨HQ.out.1.on (Below.refl _ _).drew, HQ.out.2.1.on (Below.refl _ _).drew, HQ.out.2.2⟩
      clear HQ lc
      refine wp_region_held_drew (S := fun w => Cel w g2 148 [.pointer (some ⟨p.g, 0, none⟩), .int .i64 s]) (by kernel_rfl) (E1.out.1.get 0 rfl) (fun hHeld => ?_)
      generalize World.drew _ = w3 at *
      refine wpAnyH_take (i := 0) (oi := { dst := some 13, op := Op.fieldAddr 148 (Operand.tmp 2) 0, type := 0, pos := "digest.go:22", after := #[], guard := none }) (v := .pointer (some ⟨g2, 0, none⟩)) rfl (by kernel_rfl) (by kernel_rfl) (by kernel_rfl) (fun _ _ _ h => h) (Or.inl ⟨by rfl, by intro w hSw; go_simp⟩) (by assumption) ?_
      simp only [Act.put, List.setIfInBounds_toArray, List.set_cons_zero, List.set_cons_succ]
      refine wpAnyH_take (i := 1) (oi := { dst := some 14, op := Op.load 25 (Operand.tmp 13), type := 25, pos := "digest.go:22", after := #[{ on := 0, ground := Ground.data }], guard := none }) (v := .pointer (some ⟨p.g, 0, none⟩)) rfl (by kernel_rfl) (by kernel_rfl) (by kernel_rfl) (fun _ _ _ h => h) (Or.inl ⟨by rfl, by intro w hSw; have hc := hSw.cell 0; simp only [List.getElem?_cons_zero] at hc; go_simp⟩) (by assumption) ?_
      simp only [Act.put, List.setIfInBounds_toArray, List.set_cons_zero, List.set_cons_succ]
      refine wpAnyH_take (i := 3) (oi := { dst := some 16, op := Op.fieldAddr 148 (Operand.tmp 2) 1, type := 0, pos := "digest.go:22", after := #[], guard := none }) (v := .pointer (some ⟨g2, 1, none⟩)) rfl (by kernel_rfl) (by kernel_rfl) (by kernel_rfl) (fun _ _ _ h => h) (Or.inl ⟨by rfl, by intro w hSw; go_simp⟩) (by assumption) ?_
      simp only [Act.put, List.setIfInBounds_toArray, List.set_cons_zero, List.set_cons_succ]
      refine wpAnyH_take (i := 4) (oi := { dst := some 17, op := Op.load 3 (Operand.tmp 16), type := 3, pos := "digest.go:22", after := #[{ on := 3, ground := Ground.data }], guard := none }) (v := .int .i64 s) rfl (by kernel_rfl) (by kernel_rfl) (by kernel_rfl) (fun _ _ _ h => h) (Or.inl ⟨by rfl, by intro w hSw; have hc := hSw.cell 1; simp only [List.getElem?_cons_succ, List.getElem?_cons_zero] at hc; go_simp⟩) (by assumption) ?_
      simp only [Act.put, List.setIfInBounds_toArray, List.set_cons_zero, List.set_cons_succ]
      refine wpAnyH_take (i := 6) (oi := { dst := some 19, op := Op.move (Operand.tmp 4), type := 3, pos := "digest.go:22", after := #[], guard := none }) (v := .int .i64 (j : Int)) rfl (by kernel_rfl) (by kernel_rfl) (by kernel_rfl) (fun _ _ _ h => h) (Or.inl ⟨by rfl, by intro w hSw; go_simp⟩) (by assumption) ?_
      simp only [Act.put, List.setIfInBounds_toArray, List.set_cons_zero, List.set_cons_succ]
      refine wpAnyH_take (i := 7) (oi := { dst := some 20, op := Op.binOp BinOp.add 3 (Operand.const (Value.int IntKind.i64 11)) (Operand.tmp 19) 3, type := 3, pos := "digest.go:22", after := #[{ on := 6, ground := Ground.data }], guard := none }) (v := .int .i64 (11 + (j : Int))) rfl (by kernel_rfl) (by kernel_rfl) (by kernel_rfl) (fun _ _ _ h => h) (Or.inl ⟨by rfl, by intro w hSw; go_simp⟩) (by assumption) ?_
      simp only [Act.put, List.setIfInBounds_toArray, List.set_cons_zero, List.set_cons_succ]
      refine wpAnyH_take (i := 8) (oi := { dst := some 21, op := Op.move (Operand.tmp 5), type := 29, pos := "digest.go:22", after := #[], guard := none }) (v := .int .u32 v) rfl (by kernel_rfl) (by kernel_rfl) (by kernel_rfl) (fun _ _ _ h => h) (Or.inl ⟨by rfl, by intro w hSw; go_simp⟩) (by assumption) ?_
      simp only [Act.put, List.setIfInBounds_toArray, List.set_cons_zero, List.set_cons_succ]
      refine wpAnyH_ready (rs := [2]) (by kernel_rfl) (by simp) (AllReadyH.cons (o := { dst := some 15, op := Op.call { callee := Callee.value (Operand.func 25), args := #[Operand.tmp 14], argTypes := #[25] }, type := 67, pos := "digest.go:22", after := #[{ on := 1, ground := Ground.data }], guard := none }) rfl (fun KQ hK => ?_) AllReadyH.nil)
      go_simp
      refine (HMm.out _ _ E1.out.1.db).mono ?_
      rintro e w4 ⟨rfl, rfl⟩
      go_wp2_with fail
      refine hK.out _ _ (E1.out.1.get 0 rfl) (fun hHeld => ?_)
      clear hK KQ
      try simp only [Act.put, List.setIfInBounds_toArray, List.set_cons_zero, List.set_cons_succ]
      refine wpAnyH_ready (rs := [5]) (by kernel_rfl) (by simp) (AllReadyH.cons (o := { dst := some 18, op := Op.call { callee := Callee.value (Operand.func 158), args := #[Operand.tmp 17], argTypes := #[3] }, type := 82, pos := "digest.go:22", after := #[{ on := 4, ground := Ground.data }, { on := 2, ground := Ground.chain }], guard := none }) rfl (fun KQ hK => ?_) AllReadyH.nil)
      go_simp
      refine (HFr.out _).mono ?_
      rintro e w4 ⟨rfl, hb⟩
      have E2 : Hid (DG W w4 p dj p.f.w [(g2, 148, [.pointer (some ⟨p.g, 0, none⟩), .int .i64 s])] ∧ Cel w4 g 59 (u32s L) ∧ g ∉ p.f.w) := hid ⟨E1.out.1.on hb, E1.out.2.1.on hb, E1.out.2.2⟩
      clear hb E1
      go_wp2_with fail
      refine hK.out _ _ (E2.out.1.get 0 rfl) (fun hHeld => ?_)
      clear hK KQ
      try simp only [Act.put, List.setIfInBounds_toArray, List.set_cons_zero, List.set_cons_succ]
      refine wpAnyH_ready (rs := [9]) (by kernel_rfl) (by simp) (AllReadyH.cons (o := { dst := some 22, op := Op.call { callee := Callee.value (Operand.func 32), args := #[Operand.tmp 15, Operand.tmp 18, Operand.tmp 20, Operand.tmp 21], argTypes := #[67, 82, 3, 29] }, type := 39, pos := "digest.go:22", after := #[{ on := 2, ground := Ground.data }, { on := 5, ground := Ground.data }, { on := 7, ground := Ground.data }, { on := 8, ground := Ground.data }, { on := 5, ground := Ground.chain }], guard := none }) rfl (fun KQ hK => ?_) AllReadyH.nil)
      go_simp
      refine (HWr.out _ _ E2.out.1.db _ _).mono ?_
      rintro e w5 ⟨rfl, hm, hb⟩
      have E3 : Hid (DG W w5 p dn p.f.w [(g2, 148, [.pointer (some ⟨p.g, 0, none⟩), .int .i64 s])] ∧ Cel w5 g 59 (u32s L) ∧ g ∉ p.f.w) := hid ⟨by rw [HD1.out]; exact E2.out.1.mem hm hb (MS.write_ns ..), E2.out.2.1.but hb E2.out.2.2, E2.out.2.2⟩
      clear hm hb E2
      go_wp2_with fail
      refine hK.out _ _ (E3.out.1.get 0 rfl) (fun hHeld => ?_)
      clear hK KQ
      try simp only [Act.put, List.setIfInBounds_toArray, List.set_cons_zero, List.set_cons_succ]
      refine wpAnyH_done (by kernel_rfl) ?_ _
      go_wp2_with fail
      go_roundw
      case measure => have := HJ.out; simp [intOf] <;> omega
      case rel => exact ⟨j + 1, HJ.out, by simp, hid (by rw [HDN.out]; exact E3.out)⟩
    · obtain rfl : j = 26 := by omega
      clear hlt hj
      go_wp2_with fail
      go_returns
      exact ⟨rfl, HQ.out.1.db, HQ.out.1.but⟩
end Go.Proofs.YtllcbgdcepfdkaaGreatDoor
namespace Go.Proofs.YtllcbgdcepfdkaaGreatDoor
open Go.RowKit
set_option maxRecDepth 100000
set_option maxHeartbeats 8000000
theorem DG.startp {W : World} {p : Dp} {d : DS} (h : DB W p d) : DG W W p d p.w [] := .start h _ h.wlt
theorem stake_any (W : World) (p : Dp) (d : DS) (h : DB W p d) (s q t : Int) :
    Calls Tryz.prog 157 #[stV p s, .int .i64 q, .int .i64 t] W fun e W' => e = inE (decide (d.takeE q t s = 0)) 2 ∧ DB W' p (d.take q t s) ∧ ButL p.w W W' := by
  have D0 := hid ((DG.startp h).new 148 (stC p s))
  have HT := hid (fun w (hw : DB w p d) => take_any w p d hw q t s)
  clear h
  generalize d.takeE q t s = te at *
  generalize d.take q t s = dt at *
  simp only [stV, stC, ptr] at *
  by_cases e1 : te = 0
  · rw [decide_eq_true e1]
    go_enter Tryz.func157, Tryz.ntmps157
    go_upto_region 1 with fail
    generalize World.alloc _ _ = X at *
    generalize W.heap.size = g2 at *
    have c0 := (D0.out.get 0 rfl).cell 0
    have c1 := (D0.out.get 0 rfl).cell 1
    simp only [List.getElem?_cons_zero, List.getElem?_cons_succ] at c0 c1
    go_wp2_with (first | (go_at_call 49; refine (HT.out _ D0.out.db).mono ?_; rintro e w2 ⟨rfl, hd, hb⟩; have D1 := hid (D0.out.step hd hb (fun _ hk => hk)); clear hd hb c0 c1) | (go_at_call 152; refine (insist_yes _ 2).mono ?_; rintro e w4 ⟨rfl, rfl⟩))
    go_returns
    exact ⟨rfl, D1.out.db, D1.out.but⟩
  · rw [decide_eq_false e1]
    have e2 : (te == 0) = false := by simpa using e1
    go_enter Tryz.func157, Tryz.ntmps157
    go_upto_region 1 with fail
    generalize World.alloc _ _ = X at *
    generalize W.heap.size = g2 at *
    have c0 := (D0.out.get 0 rfl).cell 0
    have c1 := (D0.out.get 0 rfl).cell 1
    simp only [List.getElem?_cons_zero, List.getElem?_cons_succ] at c0 c1
    go_wp2_with (first | (go_at_call 49; refine (HT.out _ D0.out.db).mono ?_; rintro e w2 ⟨rfl, hd, hb⟩; have D1 := hid (D0.out.step hd hb (fun _ hk => hk)); clear hd hb c0 c1) | (go_at_call 152; refine (insist_no _ 2).mono ?_; rintro e w4 ⟨rfl, rfl⟩))
    exact ⟨rfl, rfl, D1.out.db, D1.out.but⟩
theorem DS.Sim.rd (d : DS) (pg off : Int) : DS.Sim d (d.rd pg off) := DS.Sim.read d true pg off
theorem DS.Sim.folD (d : DS) (s : Int) : DS.Sim d (d.folD s) := by
  unfold DS.folD
  split
  · exact .rd _ _ _
  · exact .refl _
theorem DS.Sim.fndD (d : DS) (s va : Int) : DS.Sim d (d.fndD s va) := by
  unfold DS.fndD
  split
  · exact .folD _ _
  · split
    · exact .folD _ _
    · exact (DS.Sim.folD _ _).trans (.rd _ _ _)
theorem DS.Sim.look (d : DS) (s va : Int) : DS.Sim d (d.look s va) := by
  unfold DS.look
  split
  · exact (DS.Sim.fndD _ _ _).trans (.rd _ _ _)
  · exact .fndD _ _ _
/-- The code of a place that should be there and empty. -/
def slC (e : Int) : Int := if e = 140 then 7 else if e = 0 then 0 else 21
theorem isEmpty_any (W : World) (p : Dp) (d : DS) (h : DB W p d) (hU : d.m.U) (s va : Int) (v0 : 0 ≤ va) (v1 : va < 4294967296) :
    Calls Tryz.prog 164 #[stV p s, .int .u32 va] W fun e W' => e = (if slC (d.slotE s va) = 0 then .returned (.tuple #[]) else .panicked (pn (slC (d.slotE s va)))) ∧ DB W' p (d.look s va) ∧ ButL p.f.w W W' := by
  have D0 := hid ((DG.startw h).new 148 (stC p s))
  have HT := hid (fun w (hw : DB w p d) => slot_any w p d hw hU s va v0 v1)
  clear h hU v0 v1
  generalize d.slotE s va = te at *
  generalize d.look s va = dt at *
  simp only [stV, stC, ptr] at *
  have hC : slC te = if te = 140 then 7 else if te = 0 then 0 else 21 := rfl
  by_cases e1 : te = 140
  · rw [hC, if_pos e1, if_neg (by decide)]
    subst e1
    clear hC
    go_enter Tryz.func164, Tryz.ntmps164
    go_upto_region 1 with fail
    generalize World.alloc _ _ = X at *
    generalize W.heap.size = g2 at *
    have c0 := (D0.out.get 0 rfl).cell 0
    have c1 := (D0.out.get 0 rfl).cell 1
    simp only [List.getElem?_cons_zero, List.getElem?_cons_succ] at c0 c1
    go_wp2_with (first | (go_at_call 213; refine (HT.out _ D0.out.db).mono ?_; rintro e w2 ⟨rfl, hd, hb⟩; have D1 := hid (D0.out.step hd hb (fun _ hk => hk)); clear hd hb c0 c1) | (go_at_call 152; refine (insist_no _ 7).mono ?_; rintro e w4 ⟨rfl, rfl⟩))
    exact ⟨rfl, rfl, D1.out.db, D1.out.but⟩
  · have e2 : (te != 140) = true := by simpa using e1
    by_cases e0 : te = 0
    · rw [hC, if_neg e1, if_pos e0, if_pos rfl]
      subst e0
      clear hC e2
      go_enter Tryz.func164, Tryz.ntmps164
      go_upto_region 1 with fail
      generalize World.alloc _ _ = X at *
      generalize W.heap.size = g2 at *
      have c0 := (D0.out.get 0 rfl).cell 0
      have c1 := (D0.out.get 0 rfl).cell 1
      simp only [List.getElem?_cons_zero, List.getElem?_cons_succ] at c0 c1
      go_wp2_with (first | (go_at_call 213; refine (HT.out _ D0.out.db).mono ?_; rintro e w2 ⟨rfl, hd, hb⟩; have D1 := hid (D0.out.step hd hb (fun _ hk => hk)); clear hd hb c0 c1) | (go_at_call 152; refine (insist_yes _ _).mono ?_; rintro e w4 ⟨rfl, rfl⟩))
      go_returns
      exact ⟨rfl, D1.out.db, D1.out.but⟩
    · have e3 : (te == 0) = false := by simpa using e0
      rw [hC, if_neg e1, if_neg e0, if_neg (by decide)]
      clear hC
      go_enter Tryz.func164, Tryz.ntmps164
      go_upto_region 1 with fail
      generalize World.alloc _ _ = X at *
      generalize W.heap.size = g2 at *
      have c0 := (D0.out.get 0 rfl).cell 0
      have c1 := (D0.out.get 0 rfl).cell 1
      simp only [List.getElem?_cons_zero, List.getElem?_cons_succ] at c0 c1
      go_wp2_with (first | (go_at_call 213; refine (HT.out _ D0.out.db).mono ?_; rintro e w2 ⟨rfl, hd, hb⟩; have D1 := hid (D0.out.step hd hb (fun _ hk => hk)); clear hd hb c0 c1) | (go_at_call 152; first | (refine (insist_yes _ 7).mono ?_; rintro e w4 ⟨rfl, rfl⟩) | (refine (insist_no _ 21).mono ?_; rintro e w4 ⟨rfl, rfl⟩)))
      exact ⟨rfl, rfl, D1.out.db, D1.out.but⟩
end Go.Proofs.YtllcbgdcepfdkaaGreatDoor
namespace Go.Proofs.YtllcbgdcepfdkaaGreatDoor
open Go.RowKit
structure Gm where
  va : Int
  wr : Bool
  ex : Bool
def Gm.v (m : Gm) : Value := .agg #[.int .u32 m.va, .bool m.wr, .bool m.ex]
def Gm.cs (m : Gm) : List Value := [.int .u32 m.va, .bool m.wr, .bool m.ex]
def Gm.z : Gm := ⟨0, false, false⟩
def Gm.Ok (m : Gm) : Prop := m.va % 4096 = 0 ∧ m.va < 1073741824
instance (m : Gm) : Decidable m.Ok := by unfold Gm.Ok; exact inferInstance
def Gm.w (m : Gm) : Int := if m.Ok then m.va + 1 + b2 m.wr 2 + b2 m.ex 4 else 0
def Gm.e (m : Gm) : Int := if m.Ok then 0 else 91
theorem or_low (q x y : Int) (h0 : 0 ≤ q) (h1 : q < 1048576) (x0 : 0 ≤ x) (x1 : x < 4096) (y0 : 0 ≤ y) (y1 : y < 4096) : bits .or .u32 (q * 4096 + x) y = q * 4096 + ((x.toNat ||| y.toNat : Nat) : Int) := by
  rw [u32_or _ _ (by omega) (by omega) y0 (by omega)]
  obtain ⟨q, rfl⟩ := Int.eq_ofNat_of_zero_le h0
  obtain ⟨x, rfl⟩ := Int.eq_ofNat_of_zero_le x0
  obtain ⟨y, rfl⟩ := Int.eq_ofNat_of_zero_le y0
  have t1 : ((q : Int) * 4096 + (x : Int)).toNat = 2 ^ 12 * q + x := by omega
  have hx : x < 2 ^ 12 := by omega
  have hy : y < 2 ^ 12 := by omega
  rw [t1, Int.toNat_natCast, Int.toNat_natCast, Nat.two_pow_add_eq_or_of_lt hx q, Nat.or_assoc, ← Nat.two_pow_add_eq_or_of_lt (Nat.or_lt_two_pow hx hy) q]
  generalize x ||| y = z
  omega
theorem or_low1 (v : Int) (h0 : 0 ≤ v) (h1 : v < 1073741824) (h2 : v % 4096 = 0) : bits .or .u32 v 1 = v + 1 := by
  have := or_low (v / 4096) 0 1 (by omega) (by omega) (by decide) (by decide) (by decide) (by decide)
  rw [show v / 4096 * 4096 + 0 = v by omega] at this
  rw [this]
  simp only [show (Int.toNat 0 ||| Int.toNat 1 : Nat) = 1 by decide]
  omega
theorem or_low2 (v : Int) (h0 : 0 ≤ v) (h1 : v < 1073741824) (h2 : v % 4096 = 0) : bits .or .u32 (v + 1) 2 = v + 1 + 2 := by
  have := or_low (v / 4096) 1 2 (by omega) (by omega) (by decide) (by decide) (by decide) (by decide)
  rw [show v / 4096 * 4096 + 1 = v + 1 by omega] at this
  rw [this]
  simp only [show (Int.toNat 1 ||| Int.toNat 2 : Nat) = 3 by decide]
  omega
theorem or_low4 (v : Int) (h0 : 0 ≤ v) (h1 : v < 1073741824) (h2 : v % 4096 = 0) : bits .or .u32 (v + 1) 4 = v + 1 + 4 := by
  have := or_low (v / 4096) 1 4 (by omega) (by omega) (by decide) (by decide) (by decide) (by decide)
  rw [show v / 4096 * 4096 + 1 = v + 1 by omega] at this
  rw [this]
  simp only [show (Int.toNat 1 ||| Int.toNat 4 : Nat) = 5 by decide]
  omega
theorem or_low6 (v : Int) (h0 : 0 ≤ v) (h1 : v < 1073741824) (h2 : v % 4096 = 0) : bits .or .u32 (v + 1 + 2) 4 = v + 1 + 2 + 4 := by
  have := or_low (v / 4096) 3 4 (by omega) (by omega) (by decide) (by decide) (by decide) (by decide)
  rw [show v / 4096 * 4096 + 3 = v + 1 + 2 by omega] at this
  rw [this]
  simp only [show (Int.toNat 3 ||| Int.toNat 4 : Nat) = 7 by decide]
  omega
theorem word_any (W : World) (m : Gm) (h0 : 0 ≤ m.va) (h1 : m.va < 4294967296) :
    Calls Tryz.prog 103 #[m.v] W fun x W' => x = .returned (.tuple #[.int .u32 m.w, .int .i64 m.e]) ∧ Below W.heap.size W W' := by
  have HC := hid (Cel.new W 100 m.cs)
  have HB := hid (below_one W (.cells m.cs.toArray 100))
  obtain ⟨va, wr, ex⟩ := m
  unfold Gm.w Gm.e Gm.v
  unfold Gm.cs at HC HB
  simp only at *
  have c0 := HC.out.cell 0
  have c1 := HC.out.cell 1
  have c2 := HC.out.cell 2
  simp only [List.getElem?_cons_zero, List.getElem?_cons_succ] at c0 c1 c2
  by_cases hm : va % 4096 = 0
  · by_cases hl : va < 1073741824
    · have e1 := or_low1 va h0 hl hm
      have e2 := or_low2 va h0 hl hm
      have e4 := or_low4 va h0 hl hm
      have e6 := or_low6 va h0 hl hm
      rw [if_pos ⟨hm, hl⟩, if_pos ⟨hm, hl⟩]
      cases wr <;> cases ex
      all_goals
        simp only [b2, if_true, Int.add_zero, Bool.false_eq_true, if_false]
        go_enter Tryz.func103, Tryz.ntmps103
        go_upto_region 1 with fail
        generalize hX : W.alloc _ = X at *
        clear hX
        go_wp2_with fail
        go_returns
        exact ⟨rfl, HB.out⟩
    · rw [if_neg (fun h => hl h.2), if_neg (fun h => hl h.2)]
      go_enter Tryz.func103, Tryz.ntmps103
      go_upto_region 1 with fail
      generalize hX : W.alloc _ = X at *
      clear hX
      go_wp2_with fail
      go_returns
      exact ⟨rfl, HB.out⟩
  · rw [if_neg (fun h => hm h.1), if_neg (fun h => hm h.1)]
    go_enter Tryz.func103, Tryz.ntmps103
    go_upto_region 1 with fail
    generalize hX : W.alloc _ = X at *
    clear hX
    go_wp2_with fail
    go_returns
    exact ⟨rfl, HB.out⟩
def Gw (w : Int) : Prop := w % 2 = 1 ∧ w % 4096 < 8 ∧ w < 1073741824
instance (w : Int) : Decidable (Gw w) := by unfold Gw; exact inferInstance
def gP (w : Int) : Gm := if Gw w then ⟨w - w % 4096, decide (w / 2 % 2 = 1), decide (w / 4 % 2 = 1)⟩ else Gm.z
def gPE (w : Int) : Int := if Gw w then 0 else 142
def gG (w : Int) : Gm := ⟨w - w % 4096, decide (w / 2 % 2 = 1), decide (w / 4 % 2 = 1)⟩
theorem gG_iff (w : Int) (h0 : 0 ≤ w) (h1 : w < 4294967296) : ((gG w).e = 0 ∧ (gG w).w = w) ↔ Gw w := by
  by_cases hk : (gG w).Ok
  · have hk' := hk
    obtain ⟨ha, hb⟩ := hk'
    simp only [gG] at ha hb
    rw [Gm.e, Gm.w, if_pos hk, if_pos hk]
    unfold Gw b2 gG
    by_cases h2 : w / 2 % 2 = 1 <;> by_cases h4 : w / 4 % 2 = 1 <;> simp [h2, h4] <;> omega
  · rw [Gm.e, if_neg hk]
    refine ⟨fun h => absurd h.1 (by decide), fun h => absurd ?_ hk⟩
    obtain ⟨ha, hb, hc⟩ := h
    exact ⟨by simp only [gG]; omega, by simp only [gG]; omega⟩
theorem and_two (w : Int) (h0 : 0 ≤ w) (h1 : w < 4294967296) : bits .and .u32 w 2 = w / 2 % 2 * 2 := by have := and_bit w 1 h0 h1 (by decide); simpa using this
theorem and_four (w : Int) (h0 : 0 ≤ w) (h1 : w < 4294967296) : bits .and .u32 w 4 = w / 4 % 2 * 4 := by have := and_bit w 2 h0 h1 (by decide); simpa using this
theorem b_ne (x : Int) (k : Int) (hk : 0 < k) : (x % 2 * k != 0) = decide (x % 2 = 1) := by
  rcases (show x % 2 = 0 ∨ x % 2 = 1 by omega) with h | h
  · simp [h]
  · simp only [h, Int.one_mul, decide_true]; simp; omega
end Go.Proofs.YtllcbgdcepfdkaaGreatDoor
namespace Go.Proofs.YtllcbgdcepfdkaaGreatDoor
open Go.RowKit
set_option maxRecDepth 100000
set_option maxHeartbeats 4000000
theorem under26 : Tryz.prog.underlying 100 = some (.struct (Tryz.prog.fieldsOf 100)) := by kernel_rfl
theorem size26 : (Tryz.prog.info? 100).map (·.size) = some 3 := by kernel_rfl
theorem built_z26 : Tryz.prog.built 100 [] = some #[.int .u32 0, .bool false, .bool false] := by kernel_rfl
theorem wpList_build_z26 {ops : Array Oper} {rest : List Oper} {o : Oper} {a : Act} {w : World} {Q : Exit → Act → World → Prop} (hgd : o.guard = none) (ho : o.op = .build 100 #[])
    (h : wpList Tryz.prog ops Q rest (a.put o.dst (.agg #[.int .u32 0, .bool false, .bool false])) w) : wpList Tryz.prog ops Q (o :: rest) a w :=
  wpList_build_f hgd 100 _ ho #[] (by simp) _ built_z26 h
theorem Bag.new {W w : World} {L : List (Nat × TypeId × List Value)} (h : Bag W w L) (u : TypeId) (es : List Value) : Bag W (w.alloc (.cells es.toArray u)) ((w.heap.size, u, es) :: L) := h.add (ds := es) (Cel.new w u es) (.refl _ _)
theorem gP_pos {w : Int} (h : Gw w) : gP w = gG w := by rw [gP, if_pos h]; rfl
theorem gP_neg {w : Int} (h : ¬ Gw w) : gP w = Gm.z := by rw [gP, if_neg h]
theorem parse_any (W : World) (w : Int) (h0 : 0 ≤ w) (h1 : w < 4294967296) :
    Calls Tryz.prog 48 #[.int .u32 w] W fun x W' => x = .returned (.tuple #[(gP w).v, .int .i64 (gPE w)]) ∧ Below W.heap.size W W' := by
  have B0 := hid (bag_one W 100 Gm.z.cs)
  have e2 := and_two w h0 h1
  have e4 := and_four w h0 h1
  have n2 := b_ne (w / 2) 2 (by decide)
  have n4 := b_ne (w / 4) 4 (by decide)
  have HW := hid (fun W => word_any W (gG w) (by simp only [gG]; omega) (by simp only [gG]; omega))
  have hi := gG_iff w h0 h1
  have ev : w - w % 4096 = (gG w).va := rfl
  rw [show decide (w / 2 % 2 = 1) = (gG w).wr from rfl] at n2
  rw [show decide (w / 4 % 2 = 1) = (gG w).ex from rfl] at n4
  have HP := hid (@gP_pos w)
  generalize gG w = m at *
  generalize m.e = A at *
  generalize m.w = V at *
  unfold Gm.v at HW
  simp only [Gm.cs, Gm.z] at B0
  go_enter Tryz.func48, Tryz.ntmps48
  go_upto_region 1 with fail
  generalize W.alloc _ = X at *
  generalize hg : W.heap.size = g2 at B0 ⊢
  have HG := hid hg
  clear hg
  go_upto_region 2 with fail
  try simp only [n2, n4]
  have B1 := hid (B0.out.new 100 m.cs)
  simp only [Gm.cs] at B1
  clear B0 e2 e4 n2 n4 ev h0 h1
  generalize X.alloc _ = X1 at *
  generalize X.heap.size = g4 at *
  go_upto_region 3 with (first | (go_at_call 103; refine (HW.out _).mono ?_; rintro x w2 ⟨rfl, hb⟩; have B2 := hid (B1.out.on hb); clear hb) | (refine wpList_load_mid rfl 100 _ rfl g4 0 rfl _ _ ((B1.out.get 0 rfl).range) under26 rfl (by rw [size26]; rfl) ?_))
  clear B1 HW
  by_cases hA0 : A = 0
  · by_cases hV0 : V = w
    · have hw := hi.1 ⟨hA0, hV0⟩
      go_wp2_with (first | (refine wpList_load_mid rfl 100 _ rfl g4 0 rfl _ _ ((B2.out.get 0 rfl).range) under26 rfl (by rw [size26]; rfl) ?_) | (refine wpList_store_st rfl 100 _ _ rfl g2 m.cs rfl rfl (B2.out.get 1 rfl) size26 rfl rfl ?_; intro w4 hc hb hs; have HE := hid (And.intro hc (B2.out.below.trans (hb.below (by have := HG.out; simp; omega) B2.out.below.size))); clear hc hb hs))
      exact ret_st2 rfl rfl g2 _ rfl HE.out.1 under26 rfl size26 ⟨by rw [HP.out hw, gPE, if_pos hw]; rfl, HE.out.2⟩
    · have hw : ¬ Gw w := fun h => hV0 (hi.2 h).2
      go_wp2_with (first | (refine wpList_build_z26 rfl rfl ?_) | (refine wpList_store_st rfl 100 _ _ rfl g2 Gm.z.cs rfl rfl (B2.out.get 1 rfl) size26 rfl rfl ?_; intro w4 hc hb hs; have HE := hid (And.intro hc (B2.out.below.trans (hb.below (by have := HG.out; simp; omega) B2.out.below.size))); clear hc hb hs))
      exact ret_st2 rfl rfl g2 _ rfl HE.out.1 under26 rfl size26 ⟨by rw [gP_neg hw, gPE, if_neg hw]; rfl, HE.out.2⟩
  · have hw : ¬ Gw w := fun h => hA0 (hi.2 h).1
    go_wp2_with (first | (refine wpList_build_z26 rfl rfl ?_) | (refine wpList_store_st rfl 100 _ _ rfl g2 Gm.z.cs rfl rfl (B2.out.get 1 rfl) size26 rfl rfl ?_; intro w4 hc hb hs; have HE := hid (And.intro hc (B2.out.below.trans (hb.below (by have := HG.out; simp; omega) B2.out.below.size))); clear hc hb hs))
    exact ret_st2 rfl rfl g2 _ rfl HE.out.1 under26 rfl size26 ⟨by rw [gP_neg hw, gPE, if_neg hw]; rfl, HE.out.2⟩
end Go.Proofs.YtllcbgdcepfdkaaGreatDoor
