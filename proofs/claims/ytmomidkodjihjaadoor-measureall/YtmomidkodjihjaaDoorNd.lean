/- The law's lists, as the program and as the document has them: own, doc. -/
import Derived.Test.YtmomidkodjihjaaDoorNb
namespace Go.Proofs.YtmomidkodjihjaaDoor
open Go.RowKit
open H
set_option maxHeartbeats 4000000
set_option maxRecDepth 100000
def lop (x : Lv) : MOp := ⟨x.k, x.a, lwd x.ld x.fl (wit x.lg 2100).toNat⟩
def ownA (times : Nat) (l : List Lv) : List MOp := l.foldl (fun acc x => acc ++ List.replicate (min times (300 - acc.length)) (lop x)) []
def tl (k : Nat) : List MOp := (List.range k).map (fun (i : Nat) => ⟨1, (i : Int), []⟩)
theorem tl_snoc (k : Nat) : tl (k + 1) = tl k ++ [⟨1, (k : Int), []⟩] := by simp [tl, List.range_succ]
theorem tl_len (k : Nat) : (tl k).length = k := by simp [tl]
theorem ownA_len (times : Nat) (l : List Lv) : (ownA times l).length ≤ 300 := by
  unfold ownA
  generalize h : ([] : List MOp) = acc
  have h0 : acc.length ≤ 300 := by rw [← h]; simp
  clear h
  induction l generalizing acc with
  | nil => exact h0
  | cons x l ih =>
    rw [List.foldl_cons]
    exact ih _ (by rw [List.length_append, List.length_replicate]; omega)
theorem ownA_snoc (times : Nat) (l : List Lv) (j : Nat) (x : Lv) (h : l[j]? = some x) : ownA times (l.take (j + 1)) = ownA times (l.take j) ++ List.replicate (min times (300 - (ownA times (l.take j)).length)) (lop x) := by
  rw [List.take_add_one, h]
  unfold ownA
  rw [List.foldl_append]
  rfl
theorem rep_snoc (q : Nat) (o : MOp) : List.replicate (q + 1) o = List.replicate q o ++ [o] := List.replicate_succ' ..
theorem LL.cells {W : World} {ao : Option Addr} {l : List Lv} (h : LL W ao l) {j : Nat} {x : Lv} (hx : l[j]? = some x) : ∃ b off, ao = some ⟨b, off, none⟩ ∧ ∀ w, Below W.heap.size W w → w.rangeAt b (off + j * 5) x.cs := by
  rcases h.row with h0 | ⟨b, off, h1, h2, h3⟩
  · rw [h0] at hx; simp at hx
  · refine ⟨b, off, h1, fun w hw i u hu => ?_⟩
    have hi : i < 5 := (List.getElem?_eq_some_iff.1 hu).1
    rw [hw.cell (p := ⟨b, _, none⟩) h2, show off + j * 5 + i = off + (j * 5 + i) by omega]
    exact h3 _ u ((lcs_get l j i x hx hi).trans hu)
theorem wp_append_g {w w' : World} {o : Oper} {a : Act} {K : Act → World → Prop} {Q : Exit → Act → World → Prop} (s x : Operand) {t : TypeId} (ho : o.op = .call { callee := .builtin .append, args := #[s, x], argTypes := #[t, t] }) (v : Value) (hs : a.eval s = v) (vx : Value) (hx : a.eval x = vx) {v' : Value}
    (hr : (Builtin.append_ #[t, t] o.type #[v, vx]).run Tryd.prog w = .ok v' w') (h : K (a.put o.dst v') w') : o.wp Tryd.prog a w K Q := by
  unfold Oper.wp execOp
  simp only [ho, resolve, invoke, builtin, Sem.run_bind, Sem.run_pure, Result.andThen_ok, List.map_toArray, List.map_cons, List.map_nil, hs, hx, hr]
  exact h
theorem size94 : (Tryd.prog.info? 94).map (·.size) = some 5 := by kernel_rfl
theorem own_any (W : World) (bo : Option Addr) (m d : Nat) (l : List Lv) (hl : l.length = m) (hL : LL W bo l) (hm : m ≤ 4611686018427387904) (times tail : Nat) (ht : times ≤ 300) (hta : tail ≤ 600) :
    Calls Tryd.prog 28 #[.slice bo m d, .int .i64 (times : Int), .int .i64 (tail : Int)] W fun e W' => ∃ v lo, e = .returned v ∧ HO W W' v lo ∧ lo.map Ov.o = ownA times l ++ tl tail := by
  have HL := hid hL
  have HM := hid hl
  have HT := hid (And.intro ht hta)
  have q0 : (m : Int) ≤ 4611686018427387904 := by omega
  have q1 : (times : Int) ≤ 300 := by omega
  have q2 : (tail : Int) ≤ 600 := by omega
  clear hl hL hm ht hta
  go_enter Tryd.func28, Tryd.ntmps28
  go_wp2_with fail
  go_loopw [7, 8] (fun v i wr => ∃ (j : Nat) (lo : List Ov), j ≤ m ∧ i = .int .i64 (j : Int) ∧ Hid (HO W wr v lo ∧ lo.map Ov.o = ownA times (l.take j))) (fun _ i _ => m - (intOf i).toNat)
  case atStart => exact ⟨0, [], Nat.zero_le _, rfl, hid ⟨HO.start W, by simp [ownA]⟩⟩
  case round =>
    obtain ⟨j, lo, hj, rfl, HQ⟩ := hrel
    obtain ⟨av, cv, hv, _, _⟩ := HQ.out.1.ol
    subst hv
    by_cases hlt : j < m
    · obtain ⟨x, hx⟩ : ∃ x, l[j]? = some x := ⟨l[j]'(by rw [HM.out]; exact hlt), List.getElem?_eq_getElem _⟩
      obtain ⟨b, off, rfl, hce⟩ := HL.out.cells hx
      have r1 : (j : Int) < (m : Int) := by omega
      have r2 : (0 : Int) ≤ (j : Int) := by omega
      have HJ := hid hlt
      have HCe := hid hce
      obtain ⟨acc, hacc⟩ : ∃ acc, acc = ownA times (l.take j) := ⟨_, rfl⟩
      have HAc : Hid (acc.length ≤ 300 ∧ ownA times (l.take (j + 1)) = acc ++ List.replicate (min times (300 - acc.length)) (lop x)) := hid ⟨by rw [hacc]; exact ownA_len _ _, by rw [hacc]; exact ownA_snoc times l j x hx⟩
      rw [← hacc] at HQ
      have HLx := hid (HL.out.ld x (List.mem_of_getElem? hx))
      obtain ⟨N, hN⟩ : ∃ N : Nat, (N : Int) = wit x.lg 2100 := ⟨(wit x.lg 2100).toNat, Int.toNat_of_nonneg (wit_lo _ _ (by decide))⟩
      obtain ⟨ws, hws⟩ : ∃ ws, ws = lwd x.ld x.fl N := ⟨_, rfl⟩
      have HWl : Hid (ws.length = N) := hid (by rw [hws]; exact lwd_len _ _ _)
      have HLop : Hid (lop x = ⟨x.k, x.a, ws⟩) := hid (by unfold lop; rw [hws, ← hN]; rfl)
      have HWd := hid (fun w (hw : Below W.heap.size W w) => words_any w x.k x.a x.p x.ld.length x.c x.lg x.fl x.ld rfl ((HLx.out.1).below hw) HLx.out.2 N hN)
      rw [← hws] at HWd
      obtain ⟨xk, xa, xl, xp, xc, xg, xf⟩ := x
      simp only at HWd HLop
      clear hx hlt hce hacc hN hws hj
      go_wp2_with fail
      go_loopw [7, 9] (fun v i wr => ∃ (q : Nat) (lo : List Ov), i = .int .i64 (q : Int) ∧ Hid (q ≤ times ∧ acc.length + q ≤ 300 ∧ HO W wr v lo ∧ lo.map Ov.o = acc ++ List.replicate q (lop ⟨xk, xa, xl, xp, xc, xg, xf⟩))) (fun _ i _ => times - (intOf i).toNat)
      case atStart => exact ⟨0, lo, rfl, hid ⟨Nat.zero_le _, by have := HAc.out.1; omega, HQ.out.1, by rw [HQ.out.2]; simp⟩⟩
      case round =>
        obtain ⟨q, lo2, rfl, HZ⟩ := hrel
        clear HQ
        have HLo : Hid (lo2.length = acc.length + q) := hid (by have := congrArg List.length HZ.out.2.2.2; rw [List.length_map, List.length_append, List.length_replicate] at this; exact this)
        obtain ⟨av2, cv2, hv2, _, _⟩ := HZ.out.2.2.1.ol
        rw [HLo.out] at hv2
        subst hv2
        have HQt : Hid (q ≤ times ∧ acc.length + q ≤ 300) := hid ⟨HZ.out.1, HZ.out.2.1⟩
        have s0 : ((acc.length + q : Nat) : Int) ≤ 300 := by have := HZ.out.2.1; omega
        by_cases hgo : q < times ∧ acc.length + q < 300
        · have s1 : (q : Int) < (times : Int) := by omega
          have s2 : ((acc.length + q : Nat) : Int) < 300 := by omega
          have HG := hid hgo
          have HAP : Hid (∀ z ∈ lo2, ∀ g, (Value.slice z.p z.o.ws.length z.c).ownBlock = some g → g < wr.heap.size) := hid (fun z hz g hg => by
            obtain ⟨_, cur, h6⟩ := own_blk (HZ.out.2.2.1.ws z hz) hg
            exact (Array.getElem?_eq_some_iff.1 h6).1)
          clear hgo
          generalize hnn : acc.length + q = nn at *
          have HNN := hid hnn
          clear hnn
          go_upto_region 8 with fail
          have X0 : Hid (HO W wr.drew (.slice av2 nn cv2) lo2) := hid (HZ.out.2.2.1.on (Below.refl _ _).drew)
          have HW0 : Hid (wr.drew.heap.size = wr.heap.size) := hid rfl
          generalize wr.heap.size = z2 at *
          refine wp_region_held_drew (S := fun w => Below W.heap.size W w) (by kernel_rfl) X0.out.below (fun hHeld => ?_)
          generalize World.drew _ = w0 at *
          refine wpAnyH_take (i := 0) (oi := { dst := some 27, op := Op.move (Operand.tmp 7), type := 25, pos := "law.go:55", after := #[], guard := none }) (v := .slice av2 nn cv2) rfl (by kernel_rfl) (by kernel_rfl) (by kernel_rfl) (fun _ _ _ h => h) (Or.inl ⟨by rfl, by intro w hSw; go_simp⟩) (by assumption) ?_
          simp only [Act.put, List.setIfInBounds_toArray, List.set_cons_zero, List.set_cons_succ]
          refine wpAnyH_take (i := 1) (oi := { dst := some 28, op := Op.move (Operand.tmp 0), type := 23, pos := "law.go:55", after := #[], guard := none }) (v := .slice (some ⟨b, off, none⟩) m d) rfl (by kernel_rfl) (by kernel_rfl) (by kernel_rfl) (fun _ _ _ h => h) (Or.inl ⟨by rfl, by intro w hSw; go_simp⟩) (by assumption) ?_
          simp only [Act.put, List.setIfInBounds_toArray, List.set_cons_zero, List.set_cons_succ]
          refine wpAnyH_take (i := 2) (oi := { dst := some 29, op := Op.move (Operand.tmp 8), type := 3, pos := "law.go:55", after := #[], guard := none }) (v := .int .i64 (j : Int)) rfl (by kernel_rfl) (by kernel_rfl) (by kernel_rfl) (fun _ _ _ h => h) (Or.inl ⟨by rfl, by intro w hSw; go_simp⟩) (by assumption) ?_
          simp only [Act.put, List.setIfInBounds_toArray, List.set_cons_zero, List.set_cons_succ]
          refine wpAnyH_take (i := 3) (oi := { dst := some 30, op := Op.indexAddr 23 (Operand.tmp 28) (Operand.tmp 29), type := 0, pos := "law.go:55", after := #[{ on := 1, ground := Ground.data }, { on := 2, ground := Ground.data }], guard := none }) (v := .pointer (some ⟨b, off + j * 5, none⟩)) rfl (by kernel_rfl) (by kernel_rfl) (by kernel_rfl) (fun _ _ _ h => h) (Or.inl ⟨by rfl, by intro w hSw; go_simp⟩) (by assumption) ?_
          simp only [Act.put, List.setIfInBounds_toArray, List.set_cons_zero, List.set_cons_succ]
          refine wpAnyH_take (i := 4) (oi := { dst := some 31, op := Op.fieldAddr 94 (Operand.tmp 30) 0, type := 0, pos := "law.go:55", after := #[{ on := 3, ground := Ground.data }], guard := none }) (v := .pointer (some ⟨b, off + j * 5, none⟩)) rfl (by kernel_rfl) (by kernel_rfl) (by kernel_rfl) (fun _ _ _ h => h) (Or.inl ⟨by rfl, by intro w hSw; go_simp⟩) (by assumption) ?_
          simp only [Act.put, List.setIfInBounds_toArray, List.set_cons_zero, List.set_cons_succ]
          refine wpAnyH_take (i := 5) (oi := { dst := some 32, op := Op.load 3 (Operand.tmp 31), type := 3, pos := "law.go:55", after := #[{ on := 4, ground := Ground.data }], guard := none }) (v := .int .i64 xk) rfl (by kernel_rfl) (by kernel_rfl) (by kernel_rfl) (fun _ _ _ h => h) (Or.inl ⟨by rfl, by intro w hSw; have hc := (HCe.out w hSw) 0 _ rfl; simp only [Nat.add_zero] at hc; go_simp⟩) (by assumption) ?_
          simp only [Act.put, List.setIfInBounds_toArray, List.set_cons_zero, List.set_cons_succ]
          refine wpAnyH_take (i := 6) (oi := { dst := some 33, op := Op.move (Operand.tmp 0), type := 23, pos := "law.go:55", after := #[], guard := none }) (v := .slice (some ⟨b, off, none⟩) m d) rfl (by kernel_rfl) (by kernel_rfl) (by kernel_rfl) (fun _ _ _ h => h) (Or.inl ⟨by rfl, by intro w hSw; go_simp⟩) (by assumption) ?_
          simp only [Act.put, List.setIfInBounds_toArray, List.set_cons_zero, List.set_cons_succ]
          refine wpAnyH_take (i := 7) (oi := { dst := some 34, op := Op.move (Operand.tmp 8), type := 3, pos := "law.go:55", after := #[], guard := none }) (v := .int .i64 (j : Int)) rfl (by kernel_rfl) (by kernel_rfl) (by kernel_rfl) (fun _ _ _ h => h) (Or.inl ⟨by rfl, by intro w hSw; go_simp⟩) (by assumption) ?_
          simp only [Act.put, List.setIfInBounds_toArray, List.set_cons_zero, List.set_cons_succ]
          refine wpAnyH_take (i := 8) (oi := { dst := some 35, op := Op.indexAddr 23 (Operand.tmp 33) (Operand.tmp 34), type := 0, pos := "law.go:55", after := #[{ on := 6, ground := Ground.data }, { on := 7, ground := Ground.data }], guard := none }) (v := .pointer (some ⟨b, off + j * 5, none⟩)) rfl (by kernel_rfl) (by kernel_rfl) (by kernel_rfl) (fun _ _ _ h => h) (Or.inl ⟨by rfl, by intro w hSw; go_simp⟩) (by assumption) ?_
          simp only [Act.put, List.setIfInBounds_toArray, List.set_cons_zero, List.set_cons_succ]
          refine wpAnyH_take (i := 9) (oi := { dst := some 36, op := Op.fieldAddr 94 (Operand.tmp 35) 1, type := 0, pos := "law.go:55", after := #[{ on := 8, ground := Ground.data }], guard := none }) (v := .pointer (some ⟨b, off + j * 5 + 1, none⟩)) rfl (by kernel_rfl) (by kernel_rfl) (by kernel_rfl) (fun _ _ _ h => h) (Or.inl ⟨by rfl, by intro w hSw; go_simp⟩) (by assumption) ?_
          simp only [Act.put, List.setIfInBounds_toArray, List.set_cons_zero, List.set_cons_succ]
          refine wpAnyH_take (i := 10) (oi := { dst := some 37, op := Op.load 24 (Operand.tmp 36), type := 24, pos := "law.go:55", after := #[{ on := 9, ground := Ground.data }], guard := none }) (v := .int .u32 xa) rfl (by kernel_rfl) (by kernel_rfl) (by kernel_rfl) (fun _ _ _ h => h) (Or.inl ⟨by rfl, by intro w hSw; have hc := (HCe.out w hSw) 1 _ rfl; go_simp⟩) (by assumption) ?_
          simp only [Act.put, List.setIfInBounds_toArray, List.set_cons_zero, List.set_cons_succ]
          refine wpAnyH_take (i := 11) (oi := { dst := some 38, op := Op.move (Operand.tmp 0), type := 23, pos := "law.go:55", after := #[], guard := none }) (v := .slice (some ⟨b, off, none⟩) m d) rfl (by kernel_rfl) (by kernel_rfl) (by kernel_rfl) (fun _ _ _ h => h) (Or.inl ⟨by rfl, by intro w hSw; go_simp⟩) (by assumption) ?_
          simp only [Act.put, List.setIfInBounds_toArray, List.set_cons_zero, List.set_cons_succ]
          refine wpAnyH_take (i := 12) (oi := { dst := some 39, op := Op.move (Operand.tmp 8), type := 3, pos := "law.go:55", after := #[], guard := none }) (v := .int .i64 (j : Int)) rfl (by kernel_rfl) (by kernel_rfl) (by kernel_rfl) (fun _ _ _ h => h) (Or.inl ⟨by rfl, by intro w hSw; go_simp⟩) (by assumption) ?_
          simp only [Act.put, List.setIfInBounds_toArray, List.set_cons_zero, List.set_cons_succ]
          refine wpAnyH_take (i := 13) (oi := { dst := some 40, op := Op.indexAddr 23 (Operand.tmp 38) (Operand.tmp 39), type := 0, pos := "law.go:55", after := #[{ on := 11, ground := Ground.data }, { on := 12, ground := Ground.data }], guard := none }) (v := .pointer (some ⟨b, off + j * 5, none⟩)) rfl (by kernel_rfl) (by kernel_rfl) (by kernel_rfl) (fun _ _ _ h => h) (Or.inl ⟨by rfl, by intro w hSw; go_simp⟩) (by assumption) ?_
          simp only [Act.put, List.setIfInBounds_toArray, List.set_cons_zero, List.set_cons_succ]
          refine wpAnyH_take (i := 14) (oi := { dst := some 41, op := Op.load 94 (Operand.tmp 40), type := 94, pos := "law.go:55", after := #[{ on := 13, ground := Ground.data }], guard := none }) (v := .agg #[.int .i64 xk, .int .u32 xa, .slice xp xl.length xc, .int .i64 xg, .int .u32 xf]) rfl (by kernel_rfl) (by kernel_rfl) (by kernel_rfl) (fun _ _ _ h => h) (yieldsIf_load_mid (by rfl) _ _ rfl _ _ rfl _ _ (fun w hSw => HCe.out w hSw) Tryd.underlying94 rfl (by rw [size94]; rfl)) (by assumption) ?_
          simp only [Act.put, List.setIfInBounds_toArray, List.set_cons_zero, List.set_cons_succ]
          refine wpAnyH_ready (rs := [15]) (by kernel_rfl) (by simp) (AllReadyH.cons (o := { dst := some 42, op := Op.call { callee := Callee.value (Operand.func 40), args := #[Operand.tmp 41], argTypes := #[94] }, type := 22, pos := "law.go:55", after := #[{ on := 14, ground := Ground.data }], guard := none }) rfl (fun KQ hK => ?_) AllReadyH.nil)
          go_simp
          refine (HWd.out _ X0.out.below).mono ?_
          rintro e w1 ⟨qq, cq, rfl, hh⟩
          have X1 := hid (And.intro (X0.out.on hh.below) (holds_base hh X0.out.below))
          have HQB : Hid (∀ g, (Value.slice qq N cq).ownBlock = some g → z2 ≤ g) := hid (fun g hg => by have := (hh.own.lt g hg).1; have := HW0.out; omega)
          clear hh X0
          go_wp2_with fail
          refine hK.out _ _ X1.out.1.below (fun hHeld => ?_)
          clear hK KQ
          try simp only [Act.put, List.setIfInBounds_toArray, List.set_cons_zero, List.set_cons_succ]
          refine wpAnyH_take (i := 16) (oi := { dst := some 43, op := Op.build 43 #[(0, Operand.tmp 32), (1, Operand.tmp 37), (2, Operand.tmp 42)], type := 43, pos := "law.go:55", after := #[{ on := 5, ground := Ground.data }, { on := 10, ground := Ground.data }, { on := 15, ground := Ground.data }], guard := none }) (v := .agg #[.int .i64 xk, .int .u32 xa, .slice qq N cq]) rfl (by kernel_rfl) (by kernel_rfl) (by kernel_rfl) (fun _ _ _ h => h) (Or.inl ⟨by rfl, by intro w hSw; go_simp⟩) (by assumption) ?_
          simp only [Act.put, List.setIfInBounds_toArray, List.set_cons_zero, List.set_cons_succ]
          refine wpAnyH_ready (rs := [17]) (by kernel_rfl) (by simp) (AllReadyH.cons (o := { dst := some 44, op := Op.buildSlice 25 1 #[(0, Operand.tmp 43)], type := 25, pos := "law.go:55", after := #[{ on := 16, ground := Ground.data }], guard := none }) rfl (fun KQ hK => ?_) AllReadyH.nil)
          go_simp
          have X2 : Hid ((HO W (w1.alloc (.cells #[.int .i64 xk, .int .u32 xa, .slice qq N cq] 43)) (.slice av2 nn cv2) lo2 ∧ Holds W (w1.alloc (.cells #[.int .i64 xk, .int .u32 xa, .slice qq N cq] 43)) .u32 24 (.slice qq N cq) ws) ∧ Cel (w1.alloc (.cells #[.int .i64 xk, .int .u32 xa, .slice qq N cq] 43)) w1.heap.size 43 [.int .i64 xk, .int .u32 xa, .slice qq N cq]) := hid ⟨⟨X1.out.1.on (below_one _ _), X1.out.2.alloc _⟩, heap_alloc_new _ _⟩
          clear X1
          generalize World.alloc _ _ = w2 at *
          generalize w1.heap.size = g1 at *
          refine hK.out _ _ X2.out.1.1.below (fun hHeld => ?_)
          clear hK KQ
          try simp only [Act.put, List.setIfInBounds_toArray, List.set_cons_zero, List.set_cons_succ]
          refine wpAnyH_ready (rs := [18]) (by kernel_rfl) (by simp) (AllReadyH.cons (o := { dst := some 45, op := Op.call { callee := Callee.builtin Builtin.append, args := #[Operand.tmp 27, Operand.tmp 44], argTypes := #[25, 25] }, type := 25, pos := "law.go:55", after := #[{ on := 0, ground := Ground.data }, { on := 17, ground := Ground.data }, { on := 15, ground := Ground.chain }], guard := none }) rfl (fun KQ hK => ?_) AllReadyH.nil)
          rw [if_pos (by rfl)]
          obtain ⟨v3, w3, hr3, h3, _⟩ := run_append_oc 25 X2.out.1.1 g1 ⟨⟨xk, xa, ws⟩, qq, cq⟩ (by simp only [Ov.cs, HWl.out]; exact X2.out.2) (by unfold OW; simp only [HWl.out]; have := X2.out.1.2.own; rwa [HWl.out] at this) (fun z hz g hg he => by have h7 := HAP.out z hz g hg; have h8 := HQB.out g (by simp only [HWl.out] at he; exact he); omega) (by have := HLo.out; have := HNN.out; have := HG.out.2; omega)
          refine wp_append_g _ _ rfl _ rfl _ rfl hr3 ?_
          have X3 := hid h3
          clear hr3 h3 X2
          refine hK.out _ _ X3.out.below (fun hHeld => ?_)
          clear hK KQ
          try simp only [Act.put, List.setIfInBounds_toArray, List.set_cons_zero, List.set_cons_succ]
          refine wpAnyH_ready (rs := [19]) (by kernel_rfl) (by simp) (AllReadyH.cons (o := { dst := some 7, op := Op.assign (Operand.tmp 45), type := 25, pos := "law.go:55", after := #[{ on := 18, ground := Ground.data }, { on := 18, ground := Ground.chain }, { on := 0, ground := Ground.phase }, { on := 1, ground := Ground.phase }, { on := 2, ground := Ground.phase }, { on := 3, ground := Ground.phase }, { on := 4, ground := Ground.phase }, { on := 5, ground := Ground.phase }, { on := 6, ground := Ground.phase }, { on := 7, ground := Ground.phase }, { on := 8, ground := Ground.phase }, { on := 9, ground := Ground.phase }, { on := 10, ground := Ground.phase }, { on := 11, ground := Ground.phase }, { on := 12, ground := Ground.phase }, { on := 13, ground := Ground.phase }, { on := 14, ground := Ground.phase }, { on := 15, ground := Ground.phase }, { on := 16, ground := Ground.phase }, { on := 17, ground := Ground.phase }, { on := 18, ground := Ground.phase }], guard := none }) rfl (fun KQ hK => ?_) AllReadyH.nil)
          go_simp
          refine hK.out _ _ X3.out.below (fun hHeld => ?_)
          clear hK KQ
          try simp only [Act.put, List.setIfInBounds_toArray, List.set_cons_zero, List.set_cons_succ]
          refine wpAnyH_done (by kernel_rfl) ?_ _
          go_wp2_with fail
          go_roundw
          case measure => have := HG.out; simp [intOf] <;> omega
          case rel => exact ⟨q + 1, _, by simp, hid ⟨HG.out.1, by have := HG.out.2; have := HNN.out; omega, X3.out, by rw [List.map_append, HZ.out.2.2.2, rep_snoc, HLop.out, List.append_assoc]; rfl⟩⟩
        · have HE : Hid (q = min times (300 - acc.length)) := hid (by have := HQt.out; omega)
          by_cases h1 : q < times
          · have s1 : (q : Int) < (times : Int) := by omega
            have s2 : ¬ (((acc.length + q : Nat) : Int) < 300) := by omega
            clear hgo h1
            generalize acc.length + q = nn at *
            go_wp2_with fail
            go_roundw
            case measure => have := HJ.out; simp [intOf] <;> omega
            case rel => exact ⟨j + 1, lo2, HJ.out, by simp, hid ⟨HZ.out.2.2.1, by rw [HZ.out.2.2.2, HAc.out.2, HE.out]⟩⟩
          · have s1 : ¬ ((q : Int) < (times : Int)) := by omega
            clear hgo h1
            generalize acc.length + q = nn at *
            go_wp2_with fail
            go_roundw
            case measure => have := HJ.out; simp [intOf] <;> omega
            case rel => exact ⟨j + 1, lo2, HJ.out, by simp, hid ⟨HZ.out.2.2.1, by rw [HZ.out.2.2.2, HAc.out.2, HE.out]⟩⟩
    · have e0 : l.take j = l := List.take_of_length_le (by rw [HM.out]; omega)
      have r1 : ¬ ((j : Int) < (m : Int)) := by omega
      rw [e0] at HQ
      clear hlt hj e0
      go_wp2_with fail
      go_loopw [7, 10] (fun v i wr => ∃ (q : Nat) (lo : List Ov), q ≤ tail ∧ i = .int .i64 (q : Int) ∧ Hid (HO W wr v lo ∧ lo.map Ov.o = ownA times l ++ tl q)) (fun _ i _ => tail - (intOf i).toNat)
      case atStart => exact ⟨0, lo, Nat.zero_le _, rfl, hid ⟨HQ.out.1, by rw [HQ.out.2]; simp [tl]⟩⟩
      case round =>
        obtain ⟨q, lo2, hq, rfl, HZ⟩ := hrel
        clear HQ
        have HLo : Hid (lo2.length ≤ 300 + q) := hid (by have h5 := congrArg List.length HZ.out.2; rw [List.length_map, List.length_append, tl_len] at h5; have := ownA_len times l; omega)
        obtain ⟨av2, cv2, hv2, _, _⟩ := HZ.out.1.ol
        subst hv2
        by_cases hlt : q < tail
        · have s1 : (q : Int) < (tail : Int) := by omega
          have wq : IntKind.wrap .u32 (q : Int) = (q : Int) := by rw [IntKind.wrap_u32]; omega
          have HG := hid hlt
          have HLl : Hid ((lo2.length + 1) * 40 ≤ 140737488355328) := hid (by have := HLo.out; have := HT.out.2; omega)
          clear hlt hq
          go_wp2_with (at_builtin; refine wpList_append_oc rfl _ _ rfl _ lo2 rfl (HZ.out.1.on (below_one _ _)) _ ⟨⟨1, (q : Int), []⟩, none, 0⟩ rfl (heap_alloc_new _ _) (World.ownsRow_nil _ _ _ _) (fun z hz g hg he => by cases he) HLl.out ?_; intro v6 w6 h6 hk6; have X6 := hid h6; clear h6 hk6)
          go_roundw
          case measure => have := HG.out; simp [intOf] <;> omega
          case rel => exact ⟨q + 1, _, HG.out, by simp, hid ⟨X6.out, by rw [List.map_append, HZ.out.2, tl_snoc, List.append_assoc]; rfl⟩⟩
        · obtain rfl : q = tail := by omega
          clear hlt hq
          go_wp2_with fail
          go_ret
          first | exact ⟨_, lo2, rfl, HZ.out.1, HZ.out.2⟩ | exact ⟨_, rfl, lo2, HZ.out.1, HZ.out.2⟩
theorem doc_any (W : World) (bo : Option Addr) (m d : Nat) (l : List Lv) (hl : l.length = m) (hL : LL W bo l) (hm : m ≤ 4611686018427387904) (times tail : Nat) (ht : times ≤ 300) (hta : tail ≤ 600) :
    Calls Tryd.prog 29 #[.slice bo m d, .int .i64 (times : Int), .int .i64 (tail : Int)] W fun e W' => ∃ v lo, e = .returned v ∧ HR W W' v lo ∧ lo.map Ov.o = ownA times l ++ tl tail := by
  have HL := hid hL
  have HM := hid hl
  have HT := hid (And.intro ht hta)
  have q0 : (m : Int) ≤ 4611686018427387904 := by omega
  have q1 : (times : Int) ≤ 300 := by omega
  have q2 : (tail : Int) ≤ 600 := by omega
  clear hl hL hm ht hta
  go_enter Tryd.func29, Tryd.ntmps29
  go_wp2_with fail
  go_loopw [7, 8] (fun v i wr => ∃ (j : Nat) (lo : List Ov), j ≤ m ∧ i = .int .i64 (j : Int) ∧ Hid (HR W wr v lo ∧ lo.map Ov.o = ownA times (l.take j))) (fun _ i _ => m - (intOf i).toNat)
  case atStart => exact ⟨0, [], Nat.zero_le _, rfl, hid ⟨HR.start W, by simp [ownA]⟩⟩
  case round =>
    obtain ⟨j, lo, hj, rfl, HQ⟩ := hrel
    obtain ⟨av, cv, hv, _, _⟩ := HQ.out.1.ol
    subst hv
    by_cases hlt : j < m
    · obtain ⟨x, hx⟩ : ∃ x, l[j]? = some x := ⟨l[j]'(by rw [HM.out]; exact hlt), List.getElem?_eq_getElem _⟩
      obtain ⟨b, off, rfl, hce⟩ := HL.out.cells hx
      have r1 : (j : Int) < (m : Int) := by omega
      have r2 : (0 : Int) ≤ (j : Int) := by omega
      have HJ := hid hlt
      have HCe := hid hce
      obtain ⟨acc, hacc⟩ : ∃ acc, acc = ownA times (l.take j) := ⟨_, rfl⟩
      have HAc : Hid (acc.length ≤ 300 ∧ ownA times (l.take (j + 1)) = acc ++ List.replicate (min times (300 - acc.length)) (lop x)) := hid ⟨by rw [hacc]; exact ownA_len _ _, by rw [hacc]; exact ownA_snoc times l j x hx⟩
      rw [← hacc] at HQ
      have HLx := hid (HL.out.ld x (List.mem_of_getElem? hx))
      obtain ⟨N, hN⟩ : ∃ N : Nat, (N : Int) = wit x.lg 2100 := ⟨(wit x.lg 2100).toNat, Int.toNat_of_nonneg (wit_lo _ _ (by decide))⟩
      obtain ⟨ws, hws⟩ : ∃ ws, ws = lwd x.ld x.fl N := ⟨_, rfl⟩
      have HWl : Hid (ws.length = N) := hid (by rw [hws]; exact lwd_len _ _ _)
      have HLop : Hid (lop x = ⟨x.k, x.a, ws⟩) := hid (by unfold lop; rw [hws, ← hN]; rfl)
      have HWd := hid (fun w (hw : Below W.heap.size W w) => words_any w x.k x.a x.p x.ld.length x.c x.lg x.fl x.ld rfl ((HLx.out.1).below hw) HLx.out.2 N hN)
      rw [← hws] at HWd
      obtain ⟨xk, xa, xl, xp, xc, xg, xf⟩ := x
      simp only at HWd HLop
      clear hx hlt hce hacc hN hws hj
      go_wp2_with fail
      go_loopw [7, 9] (fun v i wr => ∃ (q : Nat) (lo : List Ov), i = .int .i64 (q : Int) ∧ Hid (q ≤ times ∧ acc.length + q ≤ 300 ∧ HR W wr v lo ∧ lo.map Ov.o = acc ++ List.replicate q (lop ⟨xk, xa, xl, xp, xc, xg, xf⟩))) (fun _ i _ => times - (intOf i).toNat)
      case atStart => exact ⟨0, lo, rfl, hid ⟨Nat.zero_le _, by have := HAc.out.1; omega, HQ.out.1, by rw [HQ.out.2]; simp⟩⟩
      case round =>
        obtain ⟨q, lo2, rfl, HZ⟩ := hrel
        clear HQ
        have HLo : Hid (lo2.length = acc.length + q) := hid (by have := congrArg List.length HZ.out.2.2.2; rw [List.length_map, List.length_append, List.length_replicate] at this; exact this)
        obtain ⟨av2, cv2, hv2, _, _⟩ := HZ.out.2.2.1.ol
        rw [HLo.out] at hv2
        subst hv2
        have HQt : Hid (q ≤ times ∧ acc.length + q ≤ 300) := hid ⟨HZ.out.1, HZ.out.2.1⟩
        have s0 : ((acc.length + q : Nat) : Int) ≤ 300 := by have := HZ.out.2.1; omega
        by_cases hgo : q < times ∧ acc.length + q < 300
        · have s1 : (q : Int) < (times : Int) := by omega
          have s2 : ((acc.length + q : Nat) : Int) < 300 := by omega
          have HG := hid hgo
          have HAP : Hid (∀ z ∈ lo2, ∀ g, (Value.slice z.p z.o.ws.length z.c).ownBlock = some g → g < wr.heap.size) := hid (fun z hz g hg => by
            obtain ⟨_, cur, h6⟩ := own_blk (HZ.out.2.2.1.ws z hz) hg
            exact (Array.getElem?_eq_some_iff.1 h6).1)
          clear hgo
          generalize hnn : acc.length + q = nn at *
          have HNN := hid hnn
          clear hnn
          go_upto_region 8 with fail
          have X0 : Hid (HR W wr.drew (.slice av2 nn cv2) lo2) := hid (HZ.out.2.2.1.on (Below.refl _ _).drew)
          have HW0 : Hid (wr.drew.heap.size = wr.heap.size) := hid rfl
          generalize wr.heap.size = z2 at *
          refine wp_region_held_drew (S := fun w => Below W.heap.size W w) (by kernel_rfl) X0.out.below (fun hHeld => ?_)
          generalize World.drew _ = w0 at *
          refine wpAnyH_take (i := 0) (oi := { dst := some 27, op := Op.move (Operand.tmp 7), type := 71, pos := "law.go:68", after := #[], guard := none }) (v := .slice av2 nn cv2) rfl (by kernel_rfl) (by kernel_rfl) (by kernel_rfl) (fun _ _ _ h => h) (Or.inl ⟨by rfl, by intro w hSw; go_simp⟩) (by assumption) ?_
          simp only [Act.put, List.setIfInBounds_toArray, List.set_cons_zero, List.set_cons_succ]
          refine wpAnyH_take (i := 1) (oi := { dst := some 28, op := Op.move (Operand.tmp 0), type := 23, pos := "law.go:68", after := #[], guard := none }) (v := .slice (some ⟨b, off, none⟩) m d) rfl (by kernel_rfl) (by kernel_rfl) (by kernel_rfl) (fun _ _ _ h => h) (Or.inl ⟨by rfl, by intro w hSw; go_simp⟩) (by assumption) ?_
          simp only [Act.put, List.setIfInBounds_toArray, List.set_cons_zero, List.set_cons_succ]
          refine wpAnyH_take (i := 2) (oi := { dst := some 29, op := Op.move (Operand.tmp 8), type := 3, pos := "law.go:68", after := #[], guard := none }) (v := .int .i64 (j : Int)) rfl (by kernel_rfl) (by kernel_rfl) (by kernel_rfl) (fun _ _ _ h => h) (Or.inl ⟨by rfl, by intro w hSw; go_simp⟩) (by assumption) ?_
          simp only [Act.put, List.setIfInBounds_toArray, List.set_cons_zero, List.set_cons_succ]
          refine wpAnyH_take (i := 3) (oi := { dst := some 30, op := Op.indexAddr 23 (Operand.tmp 28) (Operand.tmp 29), type := 0, pos := "law.go:68", after := #[{ on := 1, ground := Ground.data }, { on := 2, ground := Ground.data }], guard := none }) (v := .pointer (some ⟨b, off + j * 5, none⟩)) rfl (by kernel_rfl) (by kernel_rfl) (by kernel_rfl) (fun _ _ _ h => h) (Or.inl ⟨by rfl, by intro w hSw; go_simp⟩) (by assumption) ?_
          simp only [Act.put, List.setIfInBounds_toArray, List.set_cons_zero, List.set_cons_succ]
          refine wpAnyH_take (i := 4) (oi := { dst := some 31, op := Op.fieldAddr 94 (Operand.tmp 30) 0, type := 0, pos := "law.go:68", after := #[{ on := 3, ground := Ground.data }], guard := none }) (v := .pointer (some ⟨b, off + j * 5, none⟩)) rfl (by kernel_rfl) (by kernel_rfl) (by kernel_rfl) (fun _ _ _ h => h) (Or.inl ⟨by rfl, by intro w hSw; go_simp⟩) (by assumption) ?_
          simp only [Act.put, List.setIfInBounds_toArray, List.set_cons_zero, List.set_cons_succ]
          refine wpAnyH_take (i := 5) (oi := { dst := some 32, op := Op.load 3 (Operand.tmp 31), type := 3, pos := "law.go:68", after := #[{ on := 4, ground := Ground.data }], guard := none }) (v := .int .i64 xk) rfl (by kernel_rfl) (by kernel_rfl) (by kernel_rfl) (fun _ _ _ h => h) (Or.inl ⟨by rfl, by intro w hSw; have hc := (HCe.out w hSw) 0 _ rfl; simp only [Nat.add_zero] at hc; go_simp⟩) (by assumption) ?_
          simp only [Act.put, List.setIfInBounds_toArray, List.set_cons_zero, List.set_cons_succ]
          refine wpAnyH_take (i := 6) (oi := { dst := some 33, op := Op.move (Operand.tmp 0), type := 23, pos := "law.go:68", after := #[], guard := none }) (v := .slice (some ⟨b, off, none⟩) m d) rfl (by kernel_rfl) (by kernel_rfl) (by kernel_rfl) (fun _ _ _ h => h) (Or.inl ⟨by rfl, by intro w hSw; go_simp⟩) (by assumption) ?_
          simp only [Act.put, List.setIfInBounds_toArray, List.set_cons_zero, List.set_cons_succ]
          refine wpAnyH_take (i := 7) (oi := { dst := some 34, op := Op.move (Operand.tmp 8), type := 3, pos := "law.go:68", after := #[], guard := none }) (v := .int .i64 (j : Int)) rfl (by kernel_rfl) (by kernel_rfl) (by kernel_rfl) (fun _ _ _ h => h) (Or.inl ⟨by rfl, by intro w hSw; go_simp⟩) (by assumption) ?_
          simp only [Act.put, List.setIfInBounds_toArray, List.set_cons_zero, List.set_cons_succ]
          refine wpAnyH_take (i := 8) (oi := { dst := some 35, op := Op.indexAddr 23 (Operand.tmp 33) (Operand.tmp 34), type := 0, pos := "law.go:68", after := #[{ on := 6, ground := Ground.data }, { on := 7, ground := Ground.data }], guard := none }) (v := .pointer (some ⟨b, off + j * 5, none⟩)) rfl (by kernel_rfl) (by kernel_rfl) (by kernel_rfl) (fun _ _ _ h => h) (Or.inl ⟨by rfl, by intro w hSw; go_simp⟩) (by assumption) ?_
          simp only [Act.put, List.setIfInBounds_toArray, List.set_cons_zero, List.set_cons_succ]
          refine wpAnyH_take (i := 9) (oi := { dst := some 36, op := Op.fieldAddr 94 (Operand.tmp 35) 1, type := 0, pos := "law.go:68", after := #[{ on := 8, ground := Ground.data }], guard := none }) (v := .pointer (some ⟨b, off + j * 5 + 1, none⟩)) rfl (by kernel_rfl) (by kernel_rfl) (by kernel_rfl) (fun _ _ _ h => h) (Or.inl ⟨by rfl, by intro w hSw; go_simp⟩) (by assumption) ?_
          simp only [Act.put, List.setIfInBounds_toArray, List.set_cons_zero, List.set_cons_succ]
          refine wpAnyH_take (i := 10) (oi := { dst := some 37, op := Op.load 24 (Operand.tmp 36), type := 24, pos := "law.go:68", after := #[{ on := 9, ground := Ground.data }], guard := none }) (v := .int .u32 xa) rfl (by kernel_rfl) (by kernel_rfl) (by kernel_rfl) (fun _ _ _ h => h) (Or.inl ⟨by rfl, by intro w hSw; have hc := (HCe.out w hSw) 1 _ rfl; go_simp⟩) (by assumption) ?_
          simp only [Act.put, List.setIfInBounds_toArray, List.set_cons_zero, List.set_cons_succ]
          refine wpAnyH_take (i := 11) (oi := { dst := some 38, op := Op.move (Operand.tmp 0), type := 23, pos := "law.go:68", after := #[], guard := none }) (v := .slice (some ⟨b, off, none⟩) m d) rfl (by kernel_rfl) (by kernel_rfl) (by kernel_rfl) (fun _ _ _ h => h) (Or.inl ⟨by rfl, by intro w hSw; go_simp⟩) (by assumption) ?_
          simp only [Act.put, List.setIfInBounds_toArray, List.set_cons_zero, List.set_cons_succ]
          refine wpAnyH_take (i := 12) (oi := { dst := some 39, op := Op.move (Operand.tmp 8), type := 3, pos := "law.go:68", after := #[], guard := none }) (v := .int .i64 (j : Int)) rfl (by kernel_rfl) (by kernel_rfl) (by kernel_rfl) (fun _ _ _ h => h) (Or.inl ⟨by rfl, by intro w hSw; go_simp⟩) (by assumption) ?_
          simp only [Act.put, List.setIfInBounds_toArray, List.set_cons_zero, List.set_cons_succ]
          refine wpAnyH_take (i := 13) (oi := { dst := some 40, op := Op.indexAddr 23 (Operand.tmp 38) (Operand.tmp 39), type := 0, pos := "law.go:68", after := #[{ on := 11, ground := Ground.data }, { on := 12, ground := Ground.data }], guard := none }) (v := .pointer (some ⟨b, off + j * 5, none⟩)) rfl (by kernel_rfl) (by kernel_rfl) (by kernel_rfl) (fun _ _ _ h => h) (Or.inl ⟨by rfl, by intro w hSw; go_simp⟩) (by assumption) ?_
          simp only [Act.put, List.setIfInBounds_toArray, List.set_cons_zero, List.set_cons_succ]
          refine wpAnyH_take (i := 14) (oi := { dst := some 41, op := Op.load 94 (Operand.tmp 40), type := 94, pos := "law.go:68", after := #[{ on := 13, ground := Ground.data }], guard := none }) (v := .agg #[.int .i64 xk, .int .u32 xa, .slice xp xl.length xc, .int .i64 xg, .int .u32 xf]) rfl (by kernel_rfl) (by kernel_rfl) (by kernel_rfl) (fun _ _ _ h => h) (yieldsIf_load_mid (by rfl) _ _ rfl _ _ rfl _ _ (fun w hSw => HCe.out w hSw) Tryd.underlying94 rfl (by rw [size94]; rfl)) (by assumption) ?_
          simp only [Act.put, List.setIfInBounds_toArray, List.set_cons_zero, List.set_cons_succ]
          refine wpAnyH_ready (rs := [15]) (by kernel_rfl) (by simp) (AllReadyH.cons (o := { dst := some 42, op := Op.call { callee := Callee.value (Operand.func 40), args := #[Operand.tmp 41], argTypes := #[94] }, type := 22, pos := "law.go:68", after := #[{ on := 14, ground := Ground.data }], guard := none }) rfl (fun KQ hK => ?_) AllReadyH.nil)
          go_simp
          refine (HWd.out _ X0.out.below).mono ?_
          rintro e w1 ⟨qq, cq, rfl, hh⟩
          have X1 := hid (And.intro (X0.out.on hh.below) (holds_base hh X0.out.below))
          have HQB : Hid (∀ g, (Value.slice qq N cq).ownBlock = some g → z2 ≤ g) := hid (fun g hg => by have := (hh.own.lt g hg).1; have := HW0.out; omega)
          clear hh X0
          go_wp2_with fail
          refine hK.out _ _ X1.out.1.below (fun hHeld => ?_)
          clear hK KQ
          try simp only [Act.put, List.setIfInBounds_toArray, List.set_cons_zero, List.set_cons_succ]
          refine wpAnyH_take (i := 16) (oi := { dst := some 43, op := Op.build 80 #[(0, Operand.tmp 32), (1, Operand.tmp 37), (2, Operand.tmp 42)], type := 80, pos := "law.go:68", after := #[{ on := 5, ground := Ground.data }, { on := 10, ground := Ground.data }, { on := 15, ground := Ground.data }], guard := none }) (v := .agg #[.int .i64 xk, .int .u32 xa, .slice qq N cq]) rfl (by kernel_rfl) (by kernel_rfl) (by kernel_rfl) (fun _ _ _ h => h) (Or.inl ⟨by rfl, by intro w hSw; go_simp⟩) (by assumption) ?_
          simp only [Act.put, List.setIfInBounds_toArray, List.set_cons_zero, List.set_cons_succ]
          refine wpAnyH_ready (rs := [17]) (by kernel_rfl) (by simp) (AllReadyH.cons (o := { dst := some 44, op := Op.buildSlice 71 1 #[(0, Operand.tmp 43)], type := 71, pos := "law.go:68", after := #[{ on := 16, ground := Ground.data }], guard := none }) rfl (fun KQ hK => ?_) AllReadyH.nil)
          go_simp
          have X2 : Hid ((HR W (w1.alloc (.cells #[.int .i64 xk, .int .u32 xa, .slice qq N cq] 80)) (.slice av2 nn cv2) lo2 ∧ Holds W (w1.alloc (.cells #[.int .i64 xk, .int .u32 xa, .slice qq N cq] 80)) .u32 24 (.slice qq N cq) ws) ∧ Cel (w1.alloc (.cells #[.int .i64 xk, .int .u32 xa, .slice qq N cq] 80)) w1.heap.size 80 [.int .i64 xk, .int .u32 xa, .slice qq N cq]) := hid ⟨⟨X1.out.1.on (below_one _ _), X1.out.2.alloc _⟩, heap_alloc_new _ _⟩
          clear X1
          generalize World.alloc _ _ = w2 at *
          generalize w1.heap.size = g1 at *
          refine hK.out _ _ X2.out.1.1.below (fun hHeld => ?_)
          clear hK KQ
          try simp only [Act.put, List.setIfInBounds_toArray, List.set_cons_zero, List.set_cons_succ]
          refine wpAnyH_ready (rs := [18]) (by kernel_rfl) (by simp) (AllReadyH.cons (o := { dst := some 45, op := Op.call { callee := Callee.builtin Builtin.append, args := #[Operand.tmp 27, Operand.tmp 44], argTypes := #[71, 71] }, type := 71, pos := "law.go:68", after := #[{ on := 0, ground := Ground.data }, { on := 17, ground := Ground.data }, { on := 15, ground := Ground.chain }], guard := none }) rfl (fun KQ hK => ?_) AllReadyH.nil)
          rw [if_pos (by rfl)]
          obtain ⟨v3, w3, hr3, h3, _⟩ := run_append_rd 71 X2.out.1.1 g1 ⟨⟨xk, xa, ws⟩, qq, cq⟩ (by simp only [Ov.cs, HWl.out]; exact X2.out.2) (by unfold OW; simp only [HWl.out]; have := X2.out.1.2.own; rwa [HWl.out] at this) (fun z hz g hg he => by have h7 := HAP.out z hz g hg; have h8 := HQB.out g (by simp only [HWl.out] at he; exact he); omega) (by have := HLo.out; have := HNN.out; have := HG.out.2; omega)
          refine wp_append_g _ _ rfl _ rfl _ rfl hr3 ?_
          have X3 := hid h3
          clear hr3 h3 X2
          refine hK.out _ _ X3.out.below (fun hHeld => ?_)
          clear hK KQ
          try simp only [Act.put, List.setIfInBounds_toArray, List.set_cons_zero, List.set_cons_succ]
          refine wpAnyH_ready (rs := [19]) (by kernel_rfl) (by simp) (AllReadyH.cons (o := { dst := some 7, op := Op.assign (Operand.tmp 45), type := 71, pos := "law.go:68", after := #[{ on := 18, ground := Ground.data }, { on := 18, ground := Ground.chain }, { on := 0, ground := Ground.phase }, { on := 1, ground := Ground.phase }, { on := 2, ground := Ground.phase }, { on := 3, ground := Ground.phase }, { on := 4, ground := Ground.phase }, { on := 5, ground := Ground.phase }, { on := 6, ground := Ground.phase }, { on := 7, ground := Ground.phase }, { on := 8, ground := Ground.phase }, { on := 9, ground := Ground.phase }, { on := 10, ground := Ground.phase }, { on := 11, ground := Ground.phase }, { on := 12, ground := Ground.phase }, { on := 13, ground := Ground.phase }, { on := 14, ground := Ground.phase }, { on := 15, ground := Ground.phase }, { on := 16, ground := Ground.phase }, { on := 17, ground := Ground.phase }, { on := 18, ground := Ground.phase }], guard := none }) rfl (fun KQ hK => ?_) AllReadyH.nil)
          go_simp
          refine hK.out _ _ X3.out.below (fun hHeld => ?_)
          clear hK KQ
          try simp only [Act.put, List.setIfInBounds_toArray, List.set_cons_zero, List.set_cons_succ]
          refine wpAnyH_done (by kernel_rfl) ?_ _
          go_wp2_with fail
          go_roundw
          case measure => have := HG.out; simp [intOf] <;> omega
          case rel => exact ⟨q + 1, _, by simp, hid ⟨HG.out.1, by have := HG.out.2; have := HNN.out; omega, X3.out, by rw [List.map_append, HZ.out.2.2.2, rep_snoc, HLop.out, List.append_assoc]; rfl⟩⟩
        · have HE : Hid (q = min times (300 - acc.length)) := hid (by have := HQt.out; omega)
          by_cases h1 : q < times
          · have s1 : (q : Int) < (times : Int) := by omega
            have s2 : ¬ (((acc.length + q : Nat) : Int) < 300) := by omega
            clear hgo h1
            generalize acc.length + q = nn at *
            go_wp2_with fail
            go_roundw
            case measure => have := HJ.out; simp [intOf] <;> omega
            case rel => exact ⟨j + 1, lo2, HJ.out, by simp, hid ⟨HZ.out.2.2.1, by rw [HZ.out.2.2.2, HAc.out.2, HE.out]⟩⟩
          · have s1 : ¬ ((q : Int) < (times : Int)) := by omega
            clear hgo h1
            generalize acc.length + q = nn at *
            go_wp2_with fail
            go_roundw
            case measure => have := HJ.out; simp [intOf] <;> omega
            case rel => exact ⟨j + 1, lo2, HJ.out, by simp, hid ⟨HZ.out.2.2.1, by rw [HZ.out.2.2.2, HAc.out.2, HE.out]⟩⟩
    · have e0 : l.take j = l := List.take_of_length_le (by rw [HM.out]; omega)
      have r1 : ¬ ((j : Int) < (m : Int)) := by omega
      rw [e0] at HQ
      clear hlt hj e0
      go_wp2_with fail
      go_loopw [7, 10] (fun v i wr => ∃ (q : Nat) (lo : List Ov), q ≤ tail ∧ i = .int .i64 (q : Int) ∧ Hid (HR W wr v lo ∧ lo.map Ov.o = ownA times l ++ tl q)) (fun _ i _ => tail - (intOf i).toNat)
      case atStart => exact ⟨0, lo, Nat.zero_le _, rfl, hid ⟨HQ.out.1, by rw [HQ.out.2]; simp [tl]⟩⟩
      case round =>
        obtain ⟨q, lo2, hq, rfl, HZ⟩ := hrel
        clear HQ
        have HLo : Hid (lo2.length ≤ 300 + q) := hid (by have h5 := congrArg List.length HZ.out.2; rw [List.length_map, List.length_append, tl_len] at h5; have := ownA_len times l; omega)
        obtain ⟨av2, cv2, hv2, _, _⟩ := HZ.out.1.ol
        subst hv2
        by_cases hlt : q < tail
        · have s1 : (q : Int) < (tail : Int) := by omega
          have wq : IntKind.wrap .u32 (q : Int) = (q : Int) := by rw [IntKind.wrap_u32]; omega
          have HG := hid hlt
          have HLl : Hid ((lo2.length + 1) * 40 ≤ 140737488355328) := hid (by have := HLo.out; have := HT.out.2; omega)
          clear hlt hq
          go_wp2_with (at_builtin; refine wpList_append_rd rfl _ _ rfl _ lo2 rfl (HZ.out.1.on (below_one _ _)) _ ⟨⟨1, (q : Int), []⟩, none, 0⟩ rfl (heap_alloc_new _ _) (World.ownsRow_nil _ _ _ _) (fun z hz g hg he => by cases he) HLl.out ?_; intro v6 w6 h6 hk6; have X6 := hid h6; clear h6 hk6)
          go_roundw
          case measure => have := HG.out; simp [intOf] <;> omega
          case rel => exact ⟨q + 1, _, HG.out, by simp, hid ⟨X6.out, by rw [List.map_append, HZ.out.2, tl_snoc, List.append_assoc]; rfl⟩⟩
        · obtain rfl : q = tail := by omega
          clear hlt hq
          go_wp2_with fail
          go_ret
          first | exact ⟨_, lo2, rfl, HZ.out.1, HZ.out.2⟩ | exact ⟨_, rfl, lo2, HZ.out.1, HZ.out.2⟩
end Go.Proofs.YtmomidkodjihjaaDoor
