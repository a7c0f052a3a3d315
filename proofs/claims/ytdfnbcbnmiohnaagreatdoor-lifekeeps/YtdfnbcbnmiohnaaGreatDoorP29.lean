import Derived.Test.YtdfnbcbnmiohnaaGreatDoorP28
import Derived.Laws.AppendOwnNone
namespace Go.Proofs.YtdfnbcbnmiohnaaGreatDoor
open Go.RowKit
set_option maxRecDepth 100000
set_option maxHeartbeats 4000000
theorem u32s_at {w : World} {g : Nat} {t : TypeId} {L : List Int} (h : Cel w g t (u32s L)) (j : Nat) (hj : j < L.length) : w.cell? ⟨g, j, none⟩ = some (.int .u32 (L.getD j 0)) := by
  rw [h.cell, u32s, List.getElem?_map, List.getD_eq_getElem?_getD, List.getElem?_eq_getElem hj]
  rfl
theorem lay_l (W : World) (p : Dp) (d : DS) (h : DB W p d) (s : Int) (s0 : 0 ≤ s) (s1 : s < 4294967296) (L : List Int) (hL : L.length = 26) :
    Calls Tryz.prog 16 #[ptr p.g, .int .u32 s, .agg (u32s L).toArray] W fun e W' => e = .returned (.tuple #[]) ∧ DB W' p (d.dig s L 26) ∧ ButL p.f.w W W' := by
  have D0 := hid ((DG.startw h).new 44 (u32s L))
  have HMm := hid (fun w d' (hw : DB w p d') => memory_any w p d' hw)
  have HFr := hid (fun w => lframe_any w s s0 s1)
  have HWr := hid (fun w d' (hw : DB w p d') (off v : Int) => (write_any w p.f d'.m hw.mem true s off v))
  have HL := hid hL
  clear h hL s0 s1
  simp only [ptr, fr] at *
  go_enter Tryz.func16, Tryz.ntmps16
  go_upto_region 1 with fail
  generalize World.alloc _ _ = X at *
  generalize W.heap.size = g5 at *
  go_upto_region 2 with fail
  go_loopw [6] (fun i wr => ∃ j : Nat, j ≤ 26 ∧ i = .int .i64 (j : Int) ∧ Hid (DG W wr p (d.dig s L j) p.f.w [(g5, 44, u32s L)])) (fun i _ => 26 - (intOf i).toNat)
  case atStart => exact ⟨0, Nat.zero_le _, rfl, hid D0.out⟩
  case round =>
    obtain ⟨j, hj, rfl, HQ⟩ := hrel
    clear D0
    by_cases hlt : j < 26
    · have q1 : (j : Int) < 26 := by omega
      have kw : IntKind.wrap .i64 (11 + (j : Int)) = 11 + (j : Int) := by rw [IntKind.wrap_i64]; omega
      have kw2 : IntKind.wrap .i64 ((j : Int) + 1) = (j : Int) + 1 := by rw [IntKind.wrap_i64]; omega
      have HJ := hid hlt
      have HD1 : Hid (d.dig s L (j + 1) = (d.dig s L j).wr s (11 + (j : Int)) (L.getD j 0)) := hid rfl
      have HCJ := hid (fun w (hc : Cel w g5 44 (u32s L)) => u32s_at hc j (by have := HL.out; omega))
      clear hlt hj
      generalize hdn : d.dig s L (j + 1) = dn at *
      have HDN := hid hdn
      clear hdn
      generalize d.dig s L j = dj at *
      generalize L.getD j 0 = v at *
      go_upto_region 4 with fail
      have E1 := hid (HQ.out.on (Below.refl _ _).drew)
      clear HQ
      refine wp_region_held_drew (S := fun w => Cel w g5 44 (u32s L)) (by kernel_rfl) (E1.out.get 0 rfl) (fun hHeld => ?_)
      generalize World.drew _ = w3 at *
      refine wpAnyH_take (i := 0) (oi := { dst := some 11, op := Op.move (Operand.tmp 0), type := 23, pos := "law.go:71", after := #[], guard := none }) (v := .pointer (some ⟨p.g, 0, none⟩)) rfl (by kernel_rfl) (by kernel_rfl) (by kernel_rfl) (fun _ _ _ h => h) (Or.inl ⟨by rfl, by intro w hSw; go_simp⟩) (by assumption) ?_
      simp only [Act.put, List.setIfInBounds_toArray, List.set_cons_zero, List.set_cons_succ]
      refine wpAnyH_take (i := 2) (oi := { dst := some 13, op := Op.move (Operand.tmp 1), type := 43, pos := "law.go:71", after := #[], guard := none }) (v := .int .u32 s) rfl (by kernel_rfl) (by kernel_rfl) (by kernel_rfl) (fun _ _ _ h => h) (Or.inl ⟨by rfl, by intro w hSw; go_simp⟩) (by assumption) ?_
      simp only [Act.put, List.setIfInBounds_toArray, List.set_cons_zero, List.set_cons_succ]
      refine wpAnyH_take (i := 4) (oi := { dst := some 15, op := Op.move (Operand.tmp 6), type := 3, pos := "law.go:71", after := #[], guard := none }) (v := .int .i64 (j : Int)) rfl (by kernel_rfl) (by kernel_rfl) (by kernel_rfl) (fun _ _ _ h => h) (Or.inl ⟨by rfl, by intro w hSw; go_simp⟩) (by assumption) ?_
      simp only [Act.put, List.setIfInBounds_toArray, List.set_cons_zero, List.set_cons_succ]
      refine wpAnyH_take (i := 5) (oi := { dst := some 16, op := Op.binOp BinOp.add 3 (Operand.const (Value.int IntKind.i64 11)) (Operand.tmp 15) 3, type := 3, pos := "law.go:71", after := #[{ on := 4, ground := Ground.data }], guard := none }) (v := .int .i64 (11 + (j : Int))) rfl (by kernel_rfl) (by kernel_rfl) (by kernel_rfl) (fun _ _ _ h => h) (Or.inl ⟨by rfl, by intro w hSw; go_simp⟩) (by assumption) ?_
      simp only [Act.put, List.setIfInBounds_toArray, List.set_cons_zero, List.set_cons_succ]
      refine wpAnyH_take (i := 6) (oi := { dst := some 17, op := Op.move (Operand.tmp 6), type := 3, pos := "law.go:71", after := #[], guard := none }) (v := .int .i64 (j : Int)) rfl (by kernel_rfl) (by kernel_rfl) (by kernel_rfl) (fun _ _ _ h => h) (Or.inl ⟨by rfl, by intro w hSw; go_simp⟩) (by assumption) ?_
      simp only [Act.put, List.setIfInBounds_toArray, List.set_cons_zero, List.set_cons_succ]
      refine wpAnyH_take (i := 7) (oi := { dst := some 18, op := Op.indexAddr 44 (Operand.tmp 5) (Operand.tmp 17), type := 0, pos := "law.go:71", after := #[{ on := 6, ground := Ground.data }], guard := none }) (v := .pointer (some ⟨g5, j, none⟩)) rfl (by kernel_rfl) (by kernel_rfl) (by kernel_rfl) (fun _ _ _ h => h) (Or.inl ⟨by rfl, by intro w hSw; go_simp⟩) (by assumption) ?_
      simp only [Act.put, List.setIfInBounds_toArray, List.set_cons_zero, List.set_cons_succ]
      refine wpAnyH_take (i := 8) (oi := { dst := some 19, op := Op.load 43 (Operand.tmp 18), type := 43, pos := "law.go:71", after := #[{ on := 7, ground := Ground.data }], guard := none }) (v := .int .u32 v) rfl (by kernel_rfl) (by kernel_rfl) (by kernel_rfl) (fun _ _ _ h => h) (Or.inl ⟨by rfl, by intro w hSw; have hc := HCJ.out w hSw; go_simp⟩) (by assumption) ?_
      simp only [Act.put, List.setIfInBounds_toArray, List.set_cons_zero, List.set_cons_succ]
      refine wpAnyH_ready (rs := [1]) (by kernel_rfl) (by simp) (AllReadyH.cons (o := { dst := some 12, op := Op.call { callee := Callee.value (Operand.func 28), args := #[Operand.tmp 11], argTypes := #[23] }, type := 36, pos := "law.go:71", after := #[{ on := 0, ground := Ground.data }], guard := none }) rfl (fun KQ hK => ?_) AllReadyH.nil)
      go_simp
      refine (HMm.out _ _ E1.out.db).mono ?_
      rintro e w4 ⟨rfl, rfl⟩
      go_wp2_with fail
      refine hK.out _ _ (E1.out.get 0 rfl) (fun hHeld => ?_)
      clear hK KQ
      try simp only [Act.put, List.setIfInBounds_toArray, List.set_cons_zero, List.set_cons_succ]
      refine wpAnyH_ready (rs := [3]) (by kernel_rfl) (by simp) (AllReadyH.cons (o := { dst := some 14, op := Op.call { callee := Callee.value (Operand.func 26), args := #[Operand.tmp 13], argTypes := #[43] }, type := 64, pos := "law.go:71", after := #[{ on := 2, ground := Ground.data }, { on := 1, ground := Ground.chain }], guard := none }) rfl (fun KQ hK => ?_) AllReadyH.nil)
      go_simp
      refine (HFr.out _).mono ?_
      rintro e w4 ⟨rfl, hb⟩
      have E2 := hid (E1.out.on hb)
      clear hb E1
      go_wp2_with fail
      refine hK.out _ _ (E2.out.get 0 rfl) (fun hHeld => ?_)
      clear hK KQ
      try simp only [Act.put, List.setIfInBounds_toArray, List.set_cons_zero, List.set_cons_succ]
      refine wpAnyH_ready (rs := [9]) (by kernel_rfl) (by simp) (AllReadyH.cons (o := { dst := some 20, op := Op.call { callee := Callee.value (Operand.func 53), args := #[Operand.tmp 12, Operand.tmp 14, Operand.tmp 16, Operand.tmp 19], argTypes := #[36, 64, 3, 43] }, type := 37, pos := "law.go:71", after := #[{ on := 1, ground := Ground.data }, { on := 3, ground := Ground.data }, { on := 5, ground := Ground.data }, { on := 8, ground := Ground.data }, { on := 3, ground := Ground.chain }], guard := none }) rfl (fun KQ hK => ?_) AllReadyH.nil)
      go_simp
      refine (HWr.out _ _ E2.out.db _ _).mono ?_
      rintro e w5 ⟨rfl, hm, hb⟩
      have E3 : Hid (DG W w5 p dn p.f.w [(g5, 44, u32s L)]) := hid (by rw [HD1.out]; exact E2.out.mem hm hb (MS.write_ns ..))
      clear hm hb E2
      go_wp2_with fail
      refine hK.out _ _ (E3.out.get 0 rfl) (fun hHeld => ?_)
      clear hK KQ
      try simp only [Act.put, List.setIfInBounds_toArray, List.set_cons_zero, List.set_cons_succ]
      refine wpAnyH_done (by kernel_rfl) ?_ _
      go_wp2_with fail
      go_roundw
      case measure => have := HJ.out; simp [intOf] <;> omega
      case rel => exact ⟨j + 1, HJ.out, by simp, hid (by rw [HDN.out]; exact E3.out)⟩
    · obtain rfl : j = 26 := by omega
      clear hlt hj
      go_wp2_with fail
      go_returns
      exact ⟨rfl, HQ.out.db, HQ.out.but⟩
/-- A number from lo to hi. -/
def wi (x lo n : Int) : Int := lo + x % n
theorem within_any (W : World) (x lo hi : Int) (l0 : 0 ≤ lo) (hl : lo ≤ hi) (h1 : hi < 1000) :
    Calls Tryz.prog 11 #[.int .i64 x, .int .i64 lo, .int .i64 hi] W fun e W' => e = .returned (.int .i64 (wi x lo (hi - lo + 1))) ∧ W = W' := by
  unfold wi
  have n1 : 1 ≤ hi - lo + 1 := by omega
  have kw : IntKind.wrap .i64 (hi - lo) = hi - lo := by rw [IntKind.wrap_i64]; omega
  have kw1 : IntKind.wrap .i64 (hi - lo + 1) = hi - lo + 1 := by rw [IntKind.wrap_i64]; omega
  have hx1 : x % (hi - lo + 1) = if x.tmod (hi - lo + 1) < 0 then x.tmod (hi - lo + 1) + (hi - lo + 1) else x.tmod (hi - lo + 1) := by
    rw [Int.tmod_eq_emod]
    have e1 := Int.emod_nonneg x (show hi - lo + 1 ≠ 0 by omega)
    have e2 := Int.emod_lt_of_pos x (show 0 < hi - lo + 1 by omega)
    have e3 : ((hi - lo + 1).natAbs : Int) = hi - lo + 1 := by omega
    split <;> split <;> omega
  have hr0 : -(hi - lo + 1) < x.tmod (hi - lo + 1) ∧ x.tmod (hi - lo + 1) < hi - lo + 1 := by
    have e1 := Int.emod_nonneg x (show hi - lo + 1 ≠ 0 by omega)
    have e2 := Int.emod_lt_of_pos x (show 0 < hi - lo + 1 by omega)
    rw [hx1] at e1 e2
    split at e1 <;> split at e2 <;> (have := Int.lt_tmod_of_pos x (show 0 < hi - lo + 1 by omega); have := Int.tmod_lt_of_pos x (show 0 < hi - lo + 1 by omega); omega)
  rw [hx1]
  have hn0 : (hi - lo + 1 == 0) = false := by simp; omega
  have kr : IntKind.wrap .i64 (x.tmod (hi - lo + 1)) = x.tmod (hi - lo + 1) := by rw [IntKind.wrap_i64]; omega
  have ka : IntKind.wrap .i64 (x.tmod (hi - lo + 1) + hi) = x.tmod (hi - lo + 1) + hi := by rw [IntKind.wrap_i64]; omega
  have kb : IntKind.wrap .i64 (x.tmod (hi - lo + 1) + hi - lo) = x.tmod (hi - lo + 1) + hi - lo := by rw [IntKind.wrap_i64]; omega
  have kc : IntKind.wrap .i64 (x.tmod (hi - lo + 1) + hi - lo + 1) = x.tmod (hi - lo + 1) + hi - lo + 1 := by rw [IntKind.wrap_i64]; omega
  have kd : IntKind.wrap .i64 (lo + (x.tmod (hi - lo + 1) + hi - lo + 1)) = lo + (x.tmod (hi - lo + 1) + hi - lo + 1) := by rw [IntKind.wrap_i64]; omega
  have ke : IntKind.wrap .i64 (lo + x.tmod (hi - lo + 1)) = lo + x.tmod (hi - lo + 1) := by rw [IntKind.wrap_i64]; omega
  clear hx1
  by_cases hr : x.tmod (hi - lo + 1) < 0
  · rw [if_pos hr, show lo + (x.tmod (hi - lo + 1) + (hi - lo + 1)) = lo + (x.tmod (hi - lo + 1) + hi - lo + 1) by omega]
    go_enter Tryz.func11, Tryz.ntmps11
    go_wp2_with fail
    go_ret
    exact ⟨rfl, rfl⟩
  · rw [if_neg hr]
    have hr' : 0 ≤ x.tmod (hi - lo + 1) := by omega
    go_enter Tryz.func11, Tryz.ntmps11
    go_wp2_with fail
    go_ret
    exact ⟨rfl, rfl⟩
end Go.Proofs.YtdfnbcbnmiohnaaGreatDoor
namespace Go.Proofs.YtdfnbcbnmiohnaaGreatDoor
open Go.RowKit
set_option maxRecDepth 100000
set_option maxHeartbeats 4000000
/-- A step of the script, in a box. -/
def opC (k a b t f v : Int) : List Value := [.int .i64 k, .int .u32 a, .int .u32 b, .int .i64 t, .int .i64 f, .int .u32 v]
def opV (k a b t f v : Int) : Value := .agg (opC k a b t f v).toArray
theorem size53 : (Tryz.prog.info? 53).map (·.size) = some 3 := by kernel_rfl
theorem under53 : Tryz.prog.underlying 53 = some (.struct (Tryz.prog.fieldsOf 53)) := by kernel_rfl
theorem info43 : (Tryz.prog.info? 43).map (fun i => (i.zero, i.size, i.bytes)) = some (some (.int .u32 0), 1, 4) := by kernel_rfl
theorem Bag.new {W w : World} {L : List (Nat × TypeId × List Value)} (h : Bag W w L) (u : TypeId) (es : List Value) : Bag W (w.alloc (.cells es.toArray u)) ((w.heap.size, u, es) :: L) := h.add (ds := es) (Cel.new w u es) (.refl _ _)
theorem Bag.set3 {W w : World} {g : Nat} {t : TypeId} {x0 x1 x2 : Value} {L : List (Nat × TypeId × List Value)} (h : Bag W w ((g, t, [x0, x1, x2]) :: L)) (hg : W.heap.size ≤ g) (hne : ∀ q ∈ L, q.1 ≠ g) (y0 y1 y2 : Value) :
    Bag W (((w.setCell ⟨g, 0, none⟩ y0).setCell ⟨g, 1, none⟩ y1).setCell ⟨g, 2, none⟩ y2) ((g, t, [y0, y1, y2]) :: L) := by
  have hb : ButL [g] w (((w.setCell ⟨g, 0, none⟩ y0).setCell ⟨g, 1, none⟩ y1).setCell ⟨g, 2, none⟩ y2) := ((ButL.setCell w g 0 y0 (by simp)).trans (.setCell _ g 1 y1 (by simp))).trans (.setCell _ g 2 y2 (by simp))
  have hc := (((h.get 0 rfl).setCell 0 y0).setCell 1 y1).setCell 2 y2
  refine ⟨fun q hq => ?_, h.below.trans (hb.below (by simpa using hg) h.below.size)⟩
  rcases List.mem_cons.1 hq with rfl | hq
  · exact hc
  · exact (h.all q (List.mem_cons_of_mem _ hq)).but hb (by simpa using hne q hq)
/-- Words that are the call's own. -/
def OwnW (W w : World) (x : Value) (L : List Int) : Prop := w.ownsRow W.heap.size 43 1 x L.length (u32s L)
/-- The words of an operation. -/
def opW (k v : Int) : List Int := if k = 3 then List.replicate 1024 v else []
theorem own_nil {v : Int} (W w : World) : OwnW W w (.slice none 0 0) (List.replicate 0 v) := ⟨rfl, .inl ⟨rfl, rfl⟩⟩
theorem own_slice {W w : World} {x : Value} {L : List Int} (h : OwnW W w x L) : ∃ ao n c, x = .slice ao n c := by
  rcases h.2 with ⟨e, _⟩ | ⟨g, cap, cur, e, _⟩
  · exact ⟨_, _, _, e⟩
  · exact ⟨_, _, _, e⟩
theorem own_but9 {W w w' : World} {x : Value} {L : List Int} {g : Nat} {t : TypeId} {cs : List Value} (h : OwnW W w x L) (hc : Cel w g t cs) (hb : ButL [g] w w') (ht : t ≠ 43 := by decide) : OwnW W w' x L := by
  refine ⟨h.1, h.2.imp id ?_⟩
  rintro ⟨b, cap, cur, e, h1, h2, h3⟩
  refine ⟨b, cap, cur, e, h1, (hb.block b (Array.getElem?_eq_some_iff.1 h2).1 (fun hm => ht ?_)).trans h2, h3⟩
  simp only [List.mem_singleton] at hm
  subst hm
  unfold Cel at hc
  rw [h2] at hc
  injection hc with hc
  injection hc with _ hc
  exact hc.symm
theorem own_slice' {b n : Nat} {w : World} {x : Value} {L : List Value} (h : w.ownsRow b 43 1 x n L) : ∃ ao n c, x = .slice ao n c := by
  rcases h.2 with ⟨e, _⟩ | ⟨g, cap, cur, e, _⟩
  · exact ⟨_, _, _, e⟩
  · exact ⟨_, _, _, e⟩
theorem Bag.grown {W w w' : World} {L : List (Nat × TypeId × List Value)} {x : Value} {n : Nat} {xs : List Value} (h : Bag W w L) (hO : w.ownsRow W.heap.size 43 1 x n xs) (hg : w.grownBy w' x.ownBlock) (hL : ∀ q ∈ L, q.2.1 ≠ 43) : Bag W w' L := by
  have key : ∀ k, k < w.heap.size → (∀ cur, w.heap[k]? ≠ some (.cells cur 43 (0, 0))) → w'.heap[k]? = w.heap[k]? := fun k hk hn => hg.block k hk (fun e => by
    rcases hO.2 with ⟨ex, _⟩ | ⟨b, cap, cur, ex, _, h2, _⟩
    · rw [ex] at e; cases e
    · rw [ex] at e
      injection e with e
      exact hn cur (by rw [e]; exact h2))
  refine ⟨fun q hq => ?_, ?_⟩
  · have hc := h.all q hq
    refine (key q.1 hc.lt (fun cur e => hL q hq ?_)).trans hc
    unfold Cel at hc
    rw [e] at hc
    injection hc with hc
    injection hc with _ hc
    exact hc.symm
  · refine h.below.trans ⟨hg.os, hg.tape, hg.output, hg.size, fun k hk => hg.block k (by have := h.below.size; omega) (fun e => ?_)⟩
    rcases hO.2 with ⟨ex, _⟩ | ⟨b, cap, cur, ex, hb, _⟩
    · rw [ex] at e; cases e
    · rw [ex] at e
      injection e with e
      have e' : k = b := e
      omega
theorem Bag.set1 {W w : World} {g : Nat} {t : TypeId} {x0 x1 x2 : Value} {L : List (Nat × TypeId × List Value)} (h : Bag W w ((g, t, [x0, x1, x2]) :: L)) (hg : W.heap.size ≤ g) (hne : ∀ q ∈ L, q.1 ≠ g) (y2 : Value) :
    Bag W (w.setCell ⟨g, 2, none⟩ y2) ((g, t, [x0, x1, y2]) :: L) := by
  have hb : ButL [g] w (w.setCell ⟨g, 2, none⟩ y2) := .setCell w g 2 y2 (by simp)
  refine ⟨fun q hq => ?_, h.below.trans (hb.below (by simpa using hg) h.below.size)⟩
  rcases List.mem_cons.1 hq with rfl | hq
  · exact (h.get 0 rfl).setCell 2 y2
  · exact (h.all q (List.mem_cons_of_mem _ hq)).but hb (by simpa using hne q hq)
theorem own_more {W w : World} {x y : Value} {j g : Nat} {v : Int} {cs : List Value} (h : w.ownsRow W.heap.size 43 1 x (j + 1) (u32s (List.replicate j v) ++ [.int .u32 v])) (hc : Cel w g 53 cs) : OwnW W (w.setCell ⟨g, 2, none⟩ y) x (List.replicate (j + 1) v) := by
  have h1 : OwnW W w x (List.replicate (j + 1) v) := by
    unfold OwnW
    rw [List.length_replicate, List.replicate_succ', u32s, List.map_append]
    exact h
  exact own_but9 h1 hc (.setCell w g 2 y (by simp))
theorem operation_any (W : World) (k a b t f v : Int) :
    Calls Tryz.prog 19 #[opV k a b t f v] W fun e W' => ∃ x, e = .returned (.agg #[.int .i64 (wi t 1 4), .int .u32 v, x]) ∧ OwnW W W' x (opW (wi t 1 4) v) ∧ Below W.heap.size W W' := by
  have B0 := hid ((bag_one W 48 (opC k a b t f v)).new 53 [.int .i64 0, .int .u32 0, .slice none 0 0])
  have HWi := hid (fun u => within_any u t 1 4 (by decide) (by decide) (by decide))
  rw [show (4 : Int) - 1 + 1 = 4 from rfl] at HWi
  generalize wi t 1 4 = kk at *
  have HO3 : Hid (kk = 3 → opW kk v = List.replicate 1024 v) := hid (fun h => if_pos h)
  have HO0 : Hid (¬ kk = 3 → opW kk v = []) := hid (fun h => if_neg h)
  generalize opW kk v = OL at *
  simp only [opV, opC] at *
  go_enter Tryz.func19, Tryz.ntmps19
  go_upto_region 1 with fail
  generalize (World.alloc _ _).alloc _ = X at *
  simp only [World.size_alloc] at B0 ⊢
  generalize hg : W.heap.size = g1 at B0 ⊢
  have HG := hid hg
  clear hg
  have B1 := hid (B0.out.on (Below.refl _ _).drew)
  clear B0
  refine wp_region_held_drew (S := fun w => Cel w g1 48 [.int .i64 k, .int .u32 a, .int .u32 b, .int .i64 t, .int .i64 f, .int .u32 v]) (by kernel_rfl) (B1.out.get 1 rfl) (fun hHeld => ?_)
  generalize World.drew _ = w3 at *
  refine wpAnyH_take (i := 0) (oi := { dst := some 5, op := Op.fieldAddr 48 (Operand.tmp 1) 3, type := 0, pos := "law.go:77", after := #[], guard := none }) (v := .pointer (some ⟨g1, 3, none⟩)) rfl (by kernel_rfl) (by kernel_rfl) (by kernel_rfl) (fun _ _ _ h => h) (Or.inl ⟨by rfl, by intro w hSw; go_simp⟩) (by assumption) ?_
  simp only [Act.put, List.setIfInBounds_toArray, List.set_cons_zero, List.set_cons_succ]
  refine wpAnyH_take (i := 1) (oi := { dst := some 6, op := Op.load 3 (Operand.tmp 5), type := 3, pos := "law.go:77", after := #[{ on := 0, ground := Ground.data }], guard := none }) (v := .int .i64 t) rfl (by kernel_rfl) (by kernel_rfl) (by kernel_rfl) (fun _ _ _ h => h) (Or.inl ⟨by rfl, by intro w hSw; have hc : w.cell? ⟨g1, 3, none⟩ = some (.int .i64 t) := hSw.cell 3; go_simp⟩) (by assumption) ?_
  simp only [Act.put, List.setIfInBounds_toArray, List.set_cons_zero, List.set_cons_succ]
  refine wpAnyH_take (i := 3) (oi := { dst := some 8, op := Op.fieldAddr 48 (Operand.tmp 1) 5, type := 0, pos := "law.go:77", after := #[], guard := none }) (v := .pointer (some ⟨g1, 5, none⟩)) rfl (by kernel_rfl) (by kernel_rfl) (by kernel_rfl) (fun _ _ _ h => h) (Or.inl ⟨by rfl, by intro w hSw; go_simp⟩) (by assumption) ?_
  simp only [Act.put, List.setIfInBounds_toArray, List.set_cons_zero, List.set_cons_succ]
  refine wpAnyH_take (i := 4) (oi := { dst := some 9, op := Op.load 43 (Operand.tmp 8), type := 43, pos := "law.go:77", after := #[{ on := 3, ground := Ground.data }], guard := none }) (v := .int .u32 v) rfl (by kernel_rfl) (by kernel_rfl) (by kernel_rfl) (fun _ _ _ h => h) (Or.inl ⟨by rfl, by intro w hSw; have hc : w.cell? ⟨g1, 5, none⟩ = some (.int .u32 v) := hSw.cell 5; go_simp⟩) (by assumption) ?_
  simp only [Act.put, List.setIfInBounds_toArray, List.set_cons_zero, List.set_cons_succ]
  refine wpAnyH_ready (rs := [2, 6]) (by kernel_rfl) (by simp) (AllReadyH.cons (o := { dst := some 7, op := Op.call { callee := Callee.value (Operand.func 11), args := #[Operand.tmp 6, Operand.const (Value.int IntKind.i64 1), Operand.const (Value.int IntKind.i64 4)], argTypes := #[3, 3, 3] }, type := 3, pos := "law.go:77", after := #[{ on := 1, ground := Ground.data }], guard := none }) rfl (fun KQ hK => ?_) (AllReadyH.cons (o := { dst := some 3, op := Op.alloc 53, type := 0, pos := "law.go:77", after := #[], guard := none }) rfl (fun KQ hK => ?_) AllReadyH.nil))
  · go_simp
    refine (HWi.out _).mono ?_
    rintro e w4 ⟨rfl, rfl⟩
    go_wp2_with fail
    refine hK.out _ _ (B1.out.get 1 rfl) (fun hHeld => ?_)
    clear hK KQ
    try simp only [Act.put, List.setIfInBounds_toArray, List.set_cons_zero, List.set_cons_succ]
    refine wpAnyH_take (i := 5) (oi := { dst := some 10, op := Op.build 53 #[(0, Operand.tmp 7), (1, Operand.tmp 9)], type := 53, pos := "law.go:77", after := #[{ on := 2, ground := Ground.data }, { on := 4, ground := Ground.data }], guard := none }) (v := .agg #[.int .i64 kk, .int .u32 v, .slice none 0 0]) rfl (by kernel_rfl) (by kernel_rfl) (by kernel_rfl) (fun _ _ _ h => h) (Or.inl ⟨by rfl, by intro w hSw; go_simp⟩) (by assumption) ?_
    simp only [Act.put, List.setIfInBounds_toArray, List.set_cons_zero, List.set_cons_succ]
    refine wpAnyH_ready (rs := [6]) (by kernel_rfl) (by simp) (AllReadyH.cons (o := { dst := some 3, op := Op.alloc 53, type := 0, pos := "law.go:77", after := #[], guard := none }) rfl (fun KQ hK => ?_) AllReadyH.nil)
    go_simp
    have B2 := hid (B1.out.new 53 [.int .i64 0, .int .u32 0, .slice none 0 0])
    have HN : Hid (g1 + 1 < w3.heap.size) := hid (B1.out.get 0 rfl).lt
    clear B1
    generalize World.alloc _ _ = x2 at *
    generalize w3.heap.size = g3 at *
    refine hK.out _ _ (B2.out.get 2 rfl) (fun hHeld => ?_)
    clear hK KQ
    try simp only [Act.put, List.setIfInBounds_toArray, List.set_cons_zero, List.set_cons_succ]
    refine wpAnyH_ready (rs := [7]) (by kernel_rfl) (by simp) (AllReadyH.cons (o := { dst := none, op := Op.store 53 (Operand.tmp 3) (Operand.tmp 10), type := 0, pos := "law.go:77", after := #[{ on := 6, ground := Ground.data }, { on := 5, ground := Ground.data }, { on := 2, ground := Ground.chain }, { on := 0, ground := Ground.phase }, { on := 1, ground := Ground.phase }, { on := 2, ground := Ground.phase }, { on := 3, ground := Ground.phase }, { on := 4, ground := Ground.phase }, { on := 5, ground := Ground.phase }, { on := 6, ground := Ground.phase }], guard := none }) rfl (fun KQ hK => ?_) AllReadyH.nil)
    (have z0 := (B2.out.get 0 rfl).cell 0; have z1 := (B2.out.get 0 rfl).cell 1; have z2 := (B2.out.get 0 rfl).cell 2; have y0 := (B2.out.get 0 rfl).free 0; have y1 := (B2.out.get 0 rfl).free 1; have y2 := (B2.out.get 0 rfl).free 2; simp only [List.getElem?_cons_zero, List.getElem?_cons_succ] at z0 z1 z2; go_simp)
    have B3 := hid (B2.out.set3 (by have := HG.out; have := HN.out; omega) (by intro q hq; simp only [List.mem_cons, List.not_mem_nil, or_false] at hq; rcases hq with rfl | rfl <;> (have := HN.out; simp only; omega)) (.int .i64 kk) (.int .u32 v) (.slice none 0 0))
    clear B2
    generalize World.setCell _ _ _ = x3 at *
    refine hK.out _ _ (B3.out.get 2 rfl) (fun hHeld => ?_)
    clear hK KQ
    try simp only [Act.put]
    refine wpAnyH_done (by kernel_rfl) ?_ _
    go_upto_region 3 with fail
    go_loopw [4] (fun i wr => ∃ (j : Nat) (x : Value), j ≤ 1024 ∧ i = .int .i64 (j : Int) ∧ Hid (Bag W wr [(g3, 53, [.int .i64 kk, .int .u32 v, x]), (g1 + 1, 53, [.int .i64 0, .int .u32 0, .slice none 0 0]), (g1, 48, [.int .i64 k, .int .u32 a, .int .u32 b, .int .i64 t, .int .i64 f, .int .u32 v])] ∧ OwnW W wr x (List.replicate j v)) ∧ Hid (¬ kk = 3 → j = 0)) (fun i _ => 1024 - (intOf i).toNat)
    case atStart => exact ⟨0, .slice none 0 0, Nat.zero_le _, rfl, hid ⟨B3.out, own_nil W _⟩, hid (fun _ => rfl)⟩
    case round =>
      obtain ⟨j, x, hj, rfl, HQ, HZ⟩ := hrel
      clear B3
      obtain ⟨xo, xn, xc, rfl⟩ := own_slice HQ.out.2
      have c0 := (HQ.out.1.get 0 rfl).cell 0
      have c2 := (HQ.out.1.get 0 rfl).cell 2
      have d5 := (HQ.out.1.get 2 rfl).cell 5
      simp only [List.getElem?_cons_zero, List.getElem?_cons_succ] at c0 c2 d5
      by_cases hk : kk = 3
      · subst hk
        clear HO0
        by_cases hlt : j < 1024
        · have q1 : (j : Int) < 1024 := by omega
          have kw2 : IntKind.wrap .i64 ((j : Int) + 1) = (j : Int) + 1 := by rw [IntKind.wrap_i64]; omega
          have HJ := hid hlt
          obtain ⟨i0, hi, hz0, hz1, hz2⟩ := info_parts info43
          have hO := HQ.out.2
          unfold OwnW at hO
          rw [List.length_replicate] at hO
          have HO := hid hO
          have hba : W.heap.size ≤ (wr.alloc (Obj.cells #[Value.int IntKind.u32 v] 43)).heap.size := by have := HQ.out.1.below.size; simp; omega
          have h63' : j + 1 ≤ maxLen := by unfold maxLen; omega
          have hby' : (j + 1) * 4 ≤ 140737488355328 := by omega
          clear hlt hj HZ hO
          go_upto_region 5 with fail
          go_wp2_with (first | (at_builtin; refine wpList_append_own _ rfl _ _ 51 rfl W.heap.size 43 i0 (.int .u32 0) 1 4 Tryz.underlying51 hi hz0 hz1 hz2 rfl (by decide) (.slice xo xn xc) j _ rfl (HO.out.alloc _) ⟨wr.heap.size, 0, none⟩ 1 1 [.int .u32 v] rfl rfl (cell_one_new _ _ _) (ints_oneCell .u32 [v]) h63' hby' hba ?_; intro v' w2 hown2 hgrow2 _; obtain ⟨ao2, n2, cc2, rfl⟩ := own_slice' hown2; have B4 := hid (Bag.grown (HQ.out.1.on (below_one _ _)) (HO.out.alloc _) hgrow2 (by simp)); have O4 := hid hown2; have c2b := (B4.out.get 0 rfl).cell 2; have f2b := (B4.out.get 0 rfl).free 2; simp only [List.getElem?_cons_zero, List.getElem?_cons_succ] at c2b; clear hown2 hgrow2 c0 c2 d5 hi hz0 hz1 hz2 hba h63' hby'))
          go_roundw
          case measure => have := HJ.out; simp [intOf] <;> omega
          case rel => exact ⟨j + 1, .slice ao2 n2 cc2, HJ.out, by simp, hid ⟨B4.out.set1 (by have := HG.out; have := HN.out; omega) (by intro q hq; simp only [List.mem_cons, List.not_mem_nil, or_false] at hq; rcases hq with rfl | rfl <;> (have := HN.out; simp only; omega)) _, own_more O4.out (B4.out.get 0 rfl)⟩, hid (by intro h; simp at h)⟩
        · have hj' : j = 1024 := by omega
          subst hj'
          clear hlt hj HZ
          rw [show ((1024 : Nat) : Int) = 1024 from rfl]
          go_wp2_with (first | (refine wpList_load_mid rfl 53 _ rfl g3 0 rfl _ _ ((HQ.out.1.get 0 rfl).range) under53 rfl (by rw [size53]; rfl) ?_) | (refine wpList_store_st rfl 53 _ _ rfl (g1 + 1) [.int .i64 3, .int .u32 v, .slice xo xn xc] rfl rfl (HQ.out.1.get 1 rfl) size53 rfl rfl ?_; intro w9 hc hb hs; have HF := hid (And.intro hc (And.intro (own_but9 HQ.out.2 (HQ.out.1.get 1 rfl) hb) (HQ.out.1.below.trans (hb.below (by have := HG.out; simp; omega) HQ.out.1.below.size)))); clear hc hb hs))
          exact ret_st rfl rfl (g1 + 1) _ rfl HF.out.1 under53 rfl size53 ⟨_, rfl, by rw [HO3.out (by simp)]; exact HF.out.2.1, by first | exact HF.out.2.2 | (rw [← HG.out]; exact HF.out.2.2)⟩
      · have hk' : (kk == 3) = false := by simpa using hk
        have hj0 := HZ.out hk
        subst hj0
        have HK := hid hk
        clear HZ hj hk HO3
        rw [show ((0 : Nat) : Int) = 0 from rfl]
        go_wp2_with (first | (refine wpList_load_mid rfl 53 _ rfl g3 0 rfl _ _ ((HQ.out.1.get 0 rfl).range) under53 rfl (by rw [size53]; rfl) ?_) | (refine wpList_store_st rfl 53 _ _ rfl (g1 + 1) [.int .i64 kk, .int .u32 v, .slice xo xn xc] rfl rfl (HQ.out.1.get 1 rfl) size53 rfl rfl ?_; intro w9 hc hb hs; have HF := hid (And.intro hc (And.intro (own_but9 HQ.out.2 (HQ.out.1.get 1 rfl) hb) (HQ.out.1.below.trans (hb.below (by have := HG.out; simp; omega) HQ.out.1.below.size)))); clear hc hb hs))
        exact ret_st rfl rfl (g1 + 1) _ rfl HF.out.1 under53 rfl size53 ⟨_, rfl, by rw [HO0.out HK.out]; exact HF.out.2.1, by first | exact HF.out.2.2 | (rw [← HG.out]; exact HF.out.2.2)⟩
    
  · go_simp
    have B2 := hid (B1.out.new 53 [.int .i64 0, .int .u32 0, .slice none 0 0])
    have HN : Hid (g1 + 1 < w3.heap.size) := hid (B1.out.get 0 rfl).lt
    clear B1
    generalize World.alloc _ _ = x2 at *
    generalize w3.heap.size = g3 at *
    refine hK.out _ _ (B2.out.get 2 rfl) (fun hHeld => ?_)
    clear hK KQ
    try simp only [Act.put, List.setIfInBounds_toArray, List.set_cons_zero, List.set_cons_succ]
    refine wpAnyH_ready (rs := [2]) (by kernel_rfl) (by simp) (AllReadyH.cons (o := { dst := some 7, op := Op.call { callee := Callee.value (Operand.func 11), args := #[Operand.tmp 6, Operand.const (Value.int IntKind.i64 1), Operand.const (Value.int IntKind.i64 4)], argTypes := #[3, 3, 3] }, type := 3, pos := "law.go:77", after := #[{ on := 1, ground := Ground.data }], guard := none }) rfl (fun KQ hK => ?_) AllReadyH.nil)
    go_simp
    refine (HWi.out _).mono ?_
    rintro e w4 ⟨rfl, rfl⟩
    go_wp2_with fail
    refine hK.out _ _ (B2.out.get 2 rfl) (fun hHeld => ?_)
    clear hK KQ
    try simp only [Act.put, List.setIfInBounds_toArray, List.set_cons_zero, List.set_cons_succ]
    refine wpAnyH_take (i := 5) (oi := { dst := some 10, op := Op.build 53 #[(0, Operand.tmp 7), (1, Operand.tmp 9)], type := 53, pos := "law.go:77", after := #[{ on := 2, ground := Ground.data }, { on := 4, ground := Ground.data }], guard := none }) (v := .agg #[.int .i64 kk, .int .u32 v, .slice none 0 0]) rfl (by kernel_rfl) (by kernel_rfl) (by kernel_rfl) (fun _ _ _ h => h) (Or.inl ⟨by rfl, by intro w hSw; go_simp⟩) (by assumption) ?_
    simp only [Act.put, List.setIfInBounds_toArray, List.set_cons_zero, List.set_cons_succ]
    refine wpAnyH_ready (rs := [7]) (by kernel_rfl) (by simp) (AllReadyH.cons (o := { dst := none, op := Op.store 53 (Operand.tmp 3) (Operand.tmp 10), type := 0, pos := "law.go:77", after := #[{ on := 6, ground := Ground.data }, { on := 5, ground := Ground.data }, { on := 2, ground := Ground.chain }, { on := 0, ground := Ground.phase }, { on := 1, ground := Ground.phase }, { on := 2, ground := Ground.phase }, { on := 3, ground := Ground.phase }, { on := 4, ground := Ground.phase }, { on := 5, ground := Ground.phase }, { on := 6, ground := Ground.phase }], guard := none }) rfl (fun KQ hK => ?_) AllReadyH.nil)
    (have z0 := (B2.out.get 0 rfl).cell 0; have z1 := (B2.out.get 0 rfl).cell 1; have z2 := (B2.out.get 0 rfl).cell 2; have y0 := (B2.out.get 0 rfl).free 0; have y1 := (B2.out.get 0 rfl).free 1; have y2 := (B2.out.get 0 rfl).free 2; simp only [List.getElem?_cons_zero, List.getElem?_cons_succ] at z0 z1 z2; go_simp)
    have B3 := hid (B2.out.set3 (by have := HG.out; have := HN.out; omega) (by intro q hq; simp only [List.mem_cons, List.not_mem_nil, or_false] at hq; rcases hq with rfl | rfl <;> (have := HN.out; simp only; omega)) (.int .i64 kk) (.int .u32 v) (.slice none 0 0))
    clear B2
    generalize World.setCell _ _ _ = x3 at *
    refine hK.out _ _ (B3.out.get 2 rfl) (fun hHeld => ?_)
    clear hK KQ
    try simp only [Act.put]
    refine wpAnyH_done (by kernel_rfl) ?_ _
    go_upto_region 3 with fail
    go_loopw [4] (fun i wr => ∃ (j : Nat) (x : Value), j ≤ 1024 ∧ i = .int .i64 (j : Int) ∧ Hid (Bag W wr [(g3, 53, [.int .i64 kk, .int .u32 v, x]), (g1 + 1, 53, [.int .i64 0, .int .u32 0, .slice none 0 0]), (g1, 48, [.int .i64 k, .int .u32 a, .int .u32 b, .int .i64 t, .int .i64 f, .int .u32 v])] ∧ OwnW W wr x (List.replicate j v)) ∧ Hid (¬ kk = 3 → j = 0)) (fun i _ => 1024 - (intOf i).toNat)
    case atStart => exact ⟨0, .slice none 0 0, Nat.zero_le _, rfl, hid ⟨B3.out, own_nil W _⟩, hid (fun _ => rfl)⟩
    case round =>
      obtain ⟨j, x, hj, rfl, HQ, HZ⟩ := hrel
      clear B3
      obtain ⟨xo, xn, xc, rfl⟩ := own_slice HQ.out.2
      have c0 := (HQ.out.1.get 0 rfl).cell 0
      have c2 := (HQ.out.1.get 0 rfl).cell 2
      have d5 := (HQ.out.1.get 2 rfl).cell 5
      simp only [List.getElem?_cons_zero, List.getElem?_cons_succ] at c0 c2 d5
      by_cases hk : kk = 3
      · subst hk
        clear HO0
        by_cases hlt : j < 1024
        · have q1 : (j : Int) < 1024 := by omega
          have kw2 : IntKind.wrap .i64 ((j : Int) + 1) = (j : Int) + 1 := by rw [IntKind.wrap_i64]; omega
          have HJ := hid hlt
          obtain ⟨i0, hi, hz0, hz1, hz2⟩ := info_parts info43
          have hO := HQ.out.2
          unfold OwnW at hO
          rw [List.length_replicate] at hO
          have HO := hid hO
          have hba : W.heap.size ≤ (wr.alloc (Obj.cells #[Value.int IntKind.u32 v] 43)).heap.size := by have := HQ.out.1.below.size; simp; omega
          have h63' : j + 1 ≤ maxLen := by unfold maxLen; omega
          have hby' : (j + 1) * 4 ≤ 140737488355328 := by omega
          clear hlt hj HZ hO
          go_upto_region 5 with fail
          go_wp2_with (first | (at_builtin; refine wpList_append_own _ rfl _ _ 51 rfl W.heap.size 43 i0 (.int .u32 0) 1 4 Tryz.underlying51 hi hz0 hz1 hz2 rfl (by decide) (.slice xo xn xc) j _ rfl (HO.out.alloc _) ⟨wr.heap.size, 0, none⟩ 1 1 [.int .u32 v] rfl rfl (cell_one_new _ _ _) (ints_oneCell .u32 [v]) h63' hby' hba ?_; intro v' w2 hown2 hgrow2 _; obtain ⟨ao2, n2, cc2, rfl⟩ := own_slice' hown2; have B4 := hid (Bag.grown (HQ.out.1.on (below_one _ _)) (HO.out.alloc _) hgrow2 (by simp)); have O4 := hid hown2; have c2b := (B4.out.get 0 rfl).cell 2; have f2b := (B4.out.get 0 rfl).free 2; simp only [List.getElem?_cons_zero, List.getElem?_cons_succ] at c2b; clear hown2 hgrow2 c0 c2 d5 hi hz0 hz1 hz2 hba h63' hby'))
          go_roundw
          case measure => have := HJ.out; simp [intOf] <;> omega
          case rel => exact ⟨j + 1, .slice ao2 n2 cc2, HJ.out, by simp, hid ⟨B4.out.set1 (by have := HG.out; have := HN.out; omega) (by intro q hq; simp only [List.mem_cons, List.not_mem_nil, or_false] at hq; rcases hq with rfl | rfl <;> (have := HN.out; simp only; omega)) _, own_more O4.out (B4.out.get 0 rfl)⟩, hid (by intro h; simp at h)⟩
        · have hj' : j = 1024 := by omega
          subst hj'
          clear hlt hj HZ
          rw [show ((1024 : Nat) : Int) = 1024 from rfl]
          go_wp2_with (first | (refine wpList_load_mid rfl 53 _ rfl g3 0 rfl _ _ ((HQ.out.1.get 0 rfl).range) under53 rfl (by rw [size53]; rfl) ?_) | (refine wpList_store_st rfl 53 _ _ rfl (g1 + 1) [.int .i64 3, .int .u32 v, .slice xo xn xc] rfl rfl (HQ.out.1.get 1 rfl) size53 rfl rfl ?_; intro w9 hc hb hs; have HF := hid (And.intro hc (And.intro (own_but9 HQ.out.2 (HQ.out.1.get 1 rfl) hb) (HQ.out.1.below.trans (hb.below (by have := HG.out; simp; omega) HQ.out.1.below.size)))); clear hc hb hs))
          exact ret_st rfl rfl (g1 + 1) _ rfl HF.out.1 under53 rfl size53 ⟨_, rfl, by rw [HO3.out (by simp)]; exact HF.out.2.1, by first | exact HF.out.2.2 | (rw [← HG.out]; exact HF.out.2.2)⟩
      · have hk' : (kk == 3) = false := by simpa using hk
        have hj0 := HZ.out hk
        subst hj0
        have HK := hid hk
        clear HZ hj hk HO3
        rw [show ((0 : Nat) : Int) = 0 from rfl]
        go_wp2_with (first | (refine wpList_load_mid rfl 53 _ rfl g3 0 rfl _ _ ((HQ.out.1.get 0 rfl).range) under53 rfl (by rw [size53]; rfl) ?_) | (refine wpList_store_st rfl 53 _ _ rfl (g1 + 1) [.int .i64 kk, .int .u32 v, .slice xo xn xc] rfl rfl (HQ.out.1.get 1 rfl) size53 rfl rfl ?_; intro w9 hc hb hs; have HF := hid (And.intro hc (And.intro (own_but9 HQ.out.2 (HQ.out.1.get 1 rfl) hb) (HQ.out.1.below.trans (hb.below (by have := HG.out; simp; omega) HQ.out.1.below.size)))); clear hc hb hs))
        exact ret_st rfl rfl (g1 + 1) _ rfl HF.out.1 under53 rfl size53 ⟨_, rfl, by rw [HO0.out HK.out]; exact HF.out.2.1, by first | exact HF.out.2.2 | (rw [← HG.out]; exact HF.out.2.2)⟩
    
end Go.Proofs.YtdfnbcbnmiohnaaGreatDoor
