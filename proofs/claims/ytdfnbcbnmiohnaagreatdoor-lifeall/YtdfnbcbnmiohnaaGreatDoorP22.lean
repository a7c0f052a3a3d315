import Derived.Test.YtdfnbcbnmiohnaaGreatDoorP14
import Derived.Test.YtdfnbcbnmiohnaaGreatDoorP01
import Derived.Test.YtdfnbcbnmiohnaaGreatDoorP21
namespace Go.Proofs.YtdfnbcbnmiohnaaGreatDoor.Q
open Go.RowKit
open H
set_option maxHeartbeats 4000000
set_option maxRecDepth 100000
theorem rck_3 (W : World) (k a : Int) (p : Option Addr) (n c : Nat) (h : k = 3) (hn : n = 1024) :
    Calls Tryz.prog 146 #[.agg #[.int .i64 k, .int .u32 a, .slice p n c]] W fun e W' => e = .returned (.int .i64 0) ∧ Below W.heap.size W W' := by
  have HB := hid (below_one W (.cells #[.int .i64 k, .int .u32 a, .slice p n c] 202))
  subst h hn
  go_enter Tryz.func146, Tryz.ntmps146
  go_wp2_with fail
  go_ret
  exact ⟨rfl, HB.out⟩
theorem rck_3n (W : World) (k a : Int) (p : Option Addr) (n c : Nat) (h : k = 3) (hn : ((n : Int) != 1024) = true) :
    Calls Tryz.prog 146 #[.agg #[.int .i64 k, .int .u32 a, .slice p n c]] W fun e W' => e = .returned (.int .i64 150) ∧ Below W.heap.size W W' := by
  have HB := hid (below_one W (.cells #[.int .i64 k, .int .u32 a, .slice p n c] 202))
  subst h
  go_enter Tryz.func146, Tryz.ntmps146
  go_wp2_with fail
  go_ret
  exact ⟨rfl, HB.out⟩
theorem rck_lo (W : World) (k a : Int) (p : Option Addr) (n c : Nat) (h : (k == 3) = false) (hk : k < 1) :
    Calls Tryz.prog 146 #[.agg #[.int .i64 k, .int .u32 a, .slice p n c]] W fun e W' => e = .returned (.int .i64 150) ∧ Below W.heap.size W W' := by
  have HB := hid (below_one W (.cells #[.int .i64 k, .int .u32 a, .slice p n c] 202))
  go_enter Tryz.func146, Tryz.ntmps146
  go_wp2_with fail
  go_ret
  exact ⟨rfl, HB.out⟩
theorem rck_hi (W : World) (k a : Int) (p : Option Addr) (n c : Nat) (h : (k == 3) = false) (hk : 4 < k) :
    Calls Tryz.prog 146 #[.agg #[.int .i64 k, .int .u32 a, .slice p n c]] W fun e W' => e = .returned (.int .i64 150) ∧ Below W.heap.size W W' := by
  have HB := hid (below_one W (.cells #[.int .i64 k, .int .u32 a, .slice p n c] 202))
  have h1 : ¬ (k < 1) := by omega
  go_enter Tryz.func146, Tryz.ntmps146
  go_wp2_with fail
  go_ret
  exact ⟨rfl, HB.out⟩
theorem rck_n (W : World) (k a : Int) (p : Option Addr) (n c : Nat) (h : (k == 3) = false) (h1 : 1 ≤ k) (h4 : k ≤ 4) (hn : ((n : Int) != 0) = true) :
    Calls Tryz.prog 146 #[.agg #[.int .i64 k, .int .u32 a, .slice p n c]] W fun e W' => e = .returned (.int .i64 150) ∧ Below W.heap.size W W' := by
  have HB := hid (below_one W (.cells #[.int .i64 k, .int .u32 a, .slice p n c] 202))
  go_enter Tryz.func146, Tryz.ntmps146
  go_wp2_with fail
  go_ret
  exact ⟨rfl, HB.out⟩
theorem rck_ok (W : World) (k a : Int) (p : Option Addr) (n c : Nat) (h : (k == 3) = false) (h1 : 1 ≤ k) (h4 : k ≤ 4) (hn : n = 0) :
    Calls Tryz.prog 146 #[.agg #[.int .i64 k, .int .u32 a, .slice p n c]] W fun e W' => e = .returned (.int .i64 0) ∧ Below W.heap.size W W' := by
  have HB := hid (below_one W (.cells #[.int .i64 k, .int .u32 a, .slice p n c] 202))
  subst hn
  go_enter Tryz.func146, Tryz.ntmps146
  go_wp2_with fail
  go_ret
  exact ⟨rfl, HB.out⟩
theorem rcheck_any (W : World) (k a : Int) (p : Option Addr) (n c : Nat) :
    Calls Tryz.prog 146 #[.agg #[.int .i64 k, .int .u32 a, .slice p n c]] W fun e W' => e = .returned (.int .i64 (if okk k n = true then 0 else 150)) ∧ Below W.heap.size W W' := by
  by_cases h3 : k = 3
  · by_cases hn : n = 1024
    · rw [if_pos (by unfold okk; rw [decide_eq_true_iff, h3]; exact ⟨by decide, by decide, by rw [hn]; rfl⟩)]
      exact rck_3 W k a p n c h3 hn
    · rw [if_neg (by unfold okk; rw [decide_eq_true_iff, h3]; exact fun h => hn h.2.2)]
      exact rck_3n W k a p n c h3 (by rw [bne_iff_ne]; omega)
  · have h3' : (k == 3) = false := by simpa using h3
    have hpg : pgN k = 0 := if_neg h3
    by_cases h1 : k < 1
    · rw [if_neg (by unfold okk; rw [decide_eq_true_iff]; omega)]
      exact rck_lo W k a p n c h3' h1
    · by_cases h4 : 4 < k
      · rw [if_neg (by unfold okk; rw [decide_eq_true_iff]; omega)]
        exact rck_hi W k a p n c h3' h4
      · by_cases hn : n = 0
        · rw [if_pos (by unfold okk; rw [decide_eq_true_iff]; omega)]
          exact rck_ok W k a p n c h3' (by omega) (by omega) hn
        · rw [if_neg (by unfold okk; rw [decide_eq_true_iff]; omega)]
          exact rck_n W k a p n c h3' (by omega) (by omega) (by rw [bne_iff_ne]; omega)
theorem holds_at' {W w : World} {p : Option Addr} {n cp : Nat} {L : List Int} (h : Holds W w .u32 43 (.slice p n cp) L) : At w .u32 p L ∧ L.length = n ∧ n ≤ cp := by
  obtain ⟨p', cp', e, h1, ha, _⟩ := h.at'
  injection e with e1 e2 e3
  subst e1 e2 e3
  exact ⟨ha, rfl, h1⟩
theorem wpList_append_q {w w' : World} {ops : Array Oper} {rest : List Oper} {o : Oper} {a : Act} {Q : Exit → Act → World → Prop} (hgd : o.guard = none) (s x : Operand) {t1 t2 : TypeId} (ho : o.op = .call { callee := .builtin .append, args := #[s, x], argTypes := #[t1, t2] }) (v : Value) (hs : a.eval s = v) (vx : Value) (hx : a.eval x = vx) {v' : Value}
    (hr : (Builtin.append_ #[t1, t2] o.type #[v, vx]).run Tryz.prog w = .ok v' w') (h : wpList Tryz.prog ops Q rest (a.put o.dst v') w') : wpList Tryz.prog ops Q (o :: rest) a w := by
  refine wpList_plain hgd fun K hK => ?_
  unfold Oper.wp execOp
  simp only [ho, resolve, invoke, builtin, Sem.run_bind, Sem.run_pure, Result.andThen_ok, List.map_toArray, List.map_cons, List.map_nil, hs, hx, hr]
  exact hK _ _ h
theorem holds_two {W w : World} (hb : Below W.heap.size W w) (x y : Int) : Holds W (w.alloc (.cells #[.int .u32 x, .int .u32 y] 43)) .u32 43 (.slice (some ⟨w.heap.size, 0, none⟩) 2 2) [x, y] :=
  ⟨⟨rfl, .inr ⟨w.heap.size, 2, #[.int .u32 x, .int .u32 y], rfl, hb.size, heap_alloc_new _ _, Nat.le_refl _, by unfold maxLen; decide, rfl, rfl⟩⟩, below_on hb (below_one _ _)⟩
theorem run_append_n {w : World} (ty : TypeId) (av : Option Addr) (q cv c : Nat) (hq : q ≤ cv) : (Builtin.append_ #[51, 51] ty #[.slice av q cv, .slice none 0 c]).run Tryz.prog w = .ok (.slice av q cv) w := by
  obtain ⟨i, hi, hz, hsize, hby⟩ := info_parts Tryz.info43
  cases av <;> simp [Builtin.append_, run_underlying Tryz.underlying51, sizeOf, typeInfo, hi, Builtin.lenOf, Builtin.firstCells, hq, storeCells]
theorem run_append_m {V w : World} (ty : TypeId) {av : Option Addr} {q cv : Nat} {L : List Int} (H : Holds V w .u32 43 (.slice av q cv) L) (p : Option Addr) (m c : Nat) (xs : List Int) (hl : xs.length = m) (hat : At w .u32 p xs) (hb : (L.length + m) * 4 ≤ 140737488355328) :
    ∃ v' w', (Builtin.append_ #[51, 51] ty #[.slice av q cv, .slice p m c]).run Tryz.prog w = .ok v' w' ∧ Holds V w' .u32 43 v' (L ++ xs) := by
  cases p with
  | some ad => exact run_append_h ty H ad m c xs hl hat hb
  | none =>
    have hx0 : xs = [] := by
      rcases hat with h0 | ⟨b, off, h1, _⟩
      · exact h0
      · cases h1
    subst hx0
    simp at hl
    subst hl
    exact ⟨_, w, run_append_n ty av q cv c (holds_at' H).2.2, by rw [List.append_nil]; exact H⟩
theorem rwords_any (W : World) (o : MOp) (ho : o.Ok) (p : Option Addr) (c : Nat) (hat : At W .u32 p o.ws) :
    Calls Tryz.prog 148 #[.agg #[.int .i64 o.k, .int .u32 o.a, .slice p o.ws.length c]] W fun e W' => ∃ v, e = .returned v ∧ Holds W W' .u32 43 v o.wds := by
  obtain ⟨h1, h4, hw⟩ := ho
  have hwl : o.ws.length ≤ 1024 := by rw [hw]; unfold pgN; split <;> omega
  obtain ⟨k, a, ws⟩ := o
  simp only at h1 h4 hw hat hwl
  have wk : IntKind.wrap .u32 k = k := by rw [IntKind.wrap_u32]; omega
  have HB := hid (below_one W (.cells #[.int .i64 k, .int .u32 a, .slice p ws.length c] 202))
  have HC : Hid (Cel (W.alloc (.cells #[.int .i64 k, .int .u32 a, .slice p ws.length c] 202)) W.heap.size 202 [.int .i64 k, .int .u32 a, .slice p ws.length c]) := hid (heap_alloc_new _ _)
  have H2 := hid (holds_two HB.out k a)
  have HA := hid ((hat.below HB.out).below (below_one (W.alloc (.cells #[.int .i64 k, .int .u32 a, .slice p ws.length c] 202)) (.cells #[.int .u32 k, .int .u32 a] 43)))
  have HL := hid hwl
  have c2 := (HC.out.on (below_one _ (.cells #[.int .u32 k, .int .u32 a] 43))).cell 2
  simp only [tqG, tqH] at c2
  have e1 : (W.alloc (.cells #[.int .i64 k, .int .u32 a, .slice p ws.length c] 202)).heap.size = W.heap.size + 1 := by simp
  rw [e1] at H2
  clear h1 h4 hw hat hwl HB HC e1
  show Calls Tryz.prog 148 #[.agg #[.int .i64 k, .int .u32 a, .slice p ws.length c]] W fun e W' => ∃ v, e = .returned v ∧ Holds W W' .u32 43 v (k :: a :: ws)
  go_enter Tryz.func148, Tryz.ntmps148
  go_wp2_with (at_builtin; obtain ⟨v1, w1, hr, h1⟩ := run_append_m 51 H2.out p _ c ws rfl HA.out (by have := HL.out; simp only [List.length_cons, List.length_nil]; omega); refine wpList_append_q rfl _ _ rfl _ rfl _ rfl hr ?_; have H1 := hid h1; clear h1 hr)
  go_ret
  exact ⟨_, rfl, H1.out⟩
end Go.Proofs.YtdfnbcbnmiohnaaGreatDoor.Q
namespace Go.Proofs.YtdfnbcbnmiohnaaGreatDoor.Q
open Go.RowKit
open H
set_option maxHeartbeats 4000000
set_option maxRecDepth 100000
attribute [-simp] Tryz.isAgg44 Tryz.sizeOf44 Tryz.zeroValue44 Tryz.isAgg55 Tryz.sizeOf55 Tryz.zeroValue55 Tryz.isAgg196 Tryz.sizeOf196 Tryz.zeroValue196
theorem size80 : (Tryz.prog.info? 202).map (·.size) = some 3 := by kernel_rfl
def exR (W : World) (s : List Int) (k a : Int) (ao : Option Addr) (n c : Nat) (Z : List Int) : World := ((W.alloc (Obj.cells (List.map (Value.int IntKind.u32) s).toArray 44)).alloc (Obj.cells #[.int .i64 k, .int .u32 a, .slice ao n c] 202)).alloc (Obj.cells (List.map (Value.int IntKind.u32) Z).toArray 44)
theorem exR_ex (W : World) (s : List Int) (k a : Int) (ao : Option Addr) (n c : Nat) (Z : List Int) : EX W (exR W s k a ao n c Z) s Z ∧ Cel (exR W s k a ao n c Z) (W.heap.size + 1) 202 [.int .i64 k, .int .u32 a, .slice ao n c] := by
  refine ⟨⟨below_on (below_on (below_one _ _) (below_one _ _)) (below_one _ _), ((Blk.new W .u32 44 s).alloc _).alloc _, Blk.newAt (by simp) .u32 44 Z⟩, ?_⟩
  exact (cel_new2 W _ 202 [.int .i64 k, .int .u32 a, .slice ao n c]).on (below_one _ _)
theorem rload_wat (W : World) (gs : Nat) (s : List Int) (hs : s.length = 26) (ws : Wds s) (hok : LoadOk s) (hb : Blk W gs .u32 44 s) :
    Calls Tryz.prog 142 #[.slice (some ⟨gs, 0, none⟩) 26 26] W fun e W' => ∃ ao c, e = .returned (.tuple #[.agg (rdC (s.take 8) (.slice ao (numL s % 16) c) (numL s : Int)).toArray, .int .i64 0]) ∧ Wat W' ao (waitL s) ∧ Below W.heap.size W W' := by
  refine (rload_any W gs 0 26 s hs ws hb.row hb.lt).mono ?_
  rintro e w ⟨hw, ⟨_, ao, c, rfl, _, h1⟩ | ⟨hno, _⟩⟩
  · exact ⟨ao, c, by rw [wait_len hs], h1.wat, hw⟩
  · exact absurd hok hno
theorem radd_save (w : World) (hR : TabR w) (h2 : 1 < w.heap.size) (s xs : List Int) (hs : s.length = 26) (hok : LoadOk s) (hx : xs.length ≤ 1026) (ao : Option Addr) (c : Nat) (ha : Wat w ao (waitL s)) (p : Option Addr) (cp : Nat) (hp : At w .u32 p xs) :
    Calls Tryz.prog 147 #[.agg (rdC (s.take 8) (.slice ao (numL s % 16) c) (numL s : Int)).toArray, .slice p xs.length cp] w fun e W' => ∃ A n q ao' c', e = .returned (.agg (rdC A (.slice ao' (List.length q) c') ((n : Nat) : Int)).toArray) ∧ Wat W' ao' q ∧ List.length A = 8 ∧ n ≤ 36028797018963968 ∧ q.length < 16 ∧ saveL A n q = exS s xs ∧ Below w.heap.size w W' := by
  have h8 : (s.take 8).length = 8 := by rw [List.length_take, hs]; rfl
  by_cases h : numL s + xs.length ≤ 36028797018963968
  · refine (radd_fits w hR h2 (s.take 8) h8 ao (numL s % 16) c (numL s) (waitL s) (wait_len hs) (by omega) ha.at p _ cp xs rfl hp (by omega) h).mono ?_
    rintro e w' ⟨ao', c', rfl, _, h1, hb⟩
    refine ⟨_, _, _, ao', c', rfl, h1.wat, run_length _ _ h8 _, h, ?_, by unfold exS; rw [if_pos h]; rfl, hb⟩
    rw [List.length_drop, List.length_append, wait_len hs]
    omega
  · refine (radd_over w (s.take 8) h8 ao (numL s % 16) c (numL s) hok.1 p _ cp (by omega) (by omega)).mono ?_
    rintro e w' ⟨rfl, hb⟩
    exact ⟨_, _, waitL s, ao, c, by rw [wait_len hs], ha.below hb, h8, hok.1, by rw [wait_len hs]; omega, by unfold exS; rw [if_neg h]; exact hok.2.2, hb⟩
theorem rextend_no (W : World) (s : List Int) (hs : s.length = 26) (ws : Wds s) (hok : ¬ LoadOk s) (o : MOp) (ho : o.Ok) (ao : Option Addr) (c : Nat) :
    Calls Tryz.prog 132 #[Ag s, .agg #[.int .i64 o.k, .int .u32 o.a, .slice ao o.ws.length c]] W fun e W' => e = .returned (.tuple #[Ag (List.replicate 26 0), .int .i64 20]) ∧ Below W.heap.size W W' := by
  obtain ⟨Z, hZ⟩ : ∃ Z : List Int, Z = List.replicate 26 0 := ⟨_, rfl⟩
  have hZl : Z.length = 26 := by rw [hZ]; simp
  have hz : ∀ w, (zeroValue 44).run Tryz.prog w = .ok (.agg (Z.map (Value.int .u32)).toArray) w := fun w => by rw [Tryz.zeroValue44, hZ]; rfl
  rw [← hZ]
  clear hZ
  obtain ⟨Q, hQ⟩ : ∃ Q : List Value, Q = zero59 := ⟨_, rfl⟩
  have hq : ∀ w, (zeroValue 196).run Tryz.prog w = .ok (.agg Q.toArray) w := fun w => by rw [Tryz.zeroValue196, hQ]; rfl
  have hQl : Q.length = 10 := by rw [hQ]; rfl
  have HLd := hid (fun w gs (hb : Blk w gs .u32 44 s) => rload_no w gs s hs ws hok hb)
  have HD1 : Hid (∀ u ∈ Q, u.oneCell' = true) := hid (by rw [hQ]; exact rdC_one [0, 0, 0, 0, 0, 0, 0, 0] none 0 0 0)
  rw [← hQ] at HLd
  have HO := hid (fun w => rcheck_any w o.k o.a ao o.ws.length c)
  rw [(okk_iff o).2 ho] at HO
  simp only [if_true] at HO
  obtain ⟨x0, hc⟩ := exR_ex W s o.k o.a ao o.ws.length c Z
  have X0 := hid x0
  have c0 := hc.cell 0
  have c1 := hc.cell 1
  have c2 := hc.cell 2
  simp only [tqG, tqH] at c0 c1 c2
  clear x0 hc ho ws hok hQ
  unfold exR at *
  unfold Ag
  go_enter Tryz.func132, Tryz.ntmps132
  go_upto_region 4 with (go_at_call 146; refine (HO.out _).mono ?_; rintro e w1 ⟨rfl, hb⟩; have X1 := hid (X0.out.on hb); clear hb c0 c1 c2 X0)
  go_upto_region 5 with (first | (go_at_call 142; refine (HLd.out _ _ X1.out.bs).mono ?_; rintro e w2 ⟨rfl, hb⟩; have X2 := hid (X1.out.on hb); clear hb X1) | (revert X2; intro X2; refine wpList_store_cel rfl 196 _ _ rfl w2.heap.size Q rfl rfl (show Cel (w2.alloc (.cells Q.toArray 196)) w2.heap.size 196 Q from heap_alloc_new _ _) (by rw [hQl]; exact size105) rfl HD1.out ?_; intro w3 c3 b3 s3; have X3 := hid (X2.out.on (box_below _ b3)); clear c3 b3 s3 X2))
  go_wp2_with (revert X3; intro X3; refine wpList_store_blk rfl 44 _ _ rfl (W.heap.size + 1 + 1) Z rfl rfl X3.out.bz (by rw [hZl]; exact size40) rfl ?_)
  refine ret_cell2 rfl rfl (W.heap.size + 1 + 1) Z rfl (X3.out.bz.setRow _) Tryz.underlying44 (by rw [hZl]; exact size40) ⟨rfl, below_setRow X3.out.below (by omega) _⟩
theorem rextend_gen (W : World) (hR : TabR W) (h2 : 1 < W.heap.size) (s : List Int) (hs : s.length = 26) (ws : Wds s) (hok : LoadOk s) (o : MOp) (ho : o.Ok) (ao : Option Addr) (c : Nat) (hat : At W .u32 ao o.ws) :
    Calls Tryz.prog 132 #[Ag s, .agg #[.int .i64 o.k, .int .u32 o.a, .slice ao o.ws.length c]] W fun e W' => e = .returned (.tuple #[Ag (exS s o.wds), .int .i64 0]) ∧ Below W.heap.size W W' := by
  obtain ⟨Z, hZ⟩ : ∃ Z : List Int, Z = List.replicate 26 0 := ⟨_, rfl⟩
  have hZl : Z.length = 26 := by rw [hZ]; simp
  have hz : ∀ w, (zeroValue 44).run Tryz.prog w = .ok (.agg (Z.map (Value.int .u32)).toArray) w := fun w => by rw [Tryz.zeroValue44, hZ]; rfl
  clear hZ
  obtain ⟨Q, hQ⟩ : ∃ Q : List Value, Q = zero59 := ⟨_, rfl⟩
  have hq : ∀ w, (zeroValue 196).run Tryz.prog w = .ok (.agg Q.toArray) w := fun w => by rw [Tryz.zeroValue196, hQ]; rfl
  have hQl : Q.length = 10 := by rw [hQ]; rfl
  clear hQ
  have hMl := exS_len (xs := o.wds) hs
  have hwl := wds_len o ho
  have HLd := hid (fun w gs (hb : Blk w gs .u32 44 s) => rload_wat w gs s hs ws hok hb)
  have HWd := hid (fun w (hw : Below W.heap.size W w) => rwords_any w o ho ao c (hat.below hw))
  have HAd := hid (fun w (hw : Below W.heap.size W w) ao' c' (ha : Wat w ao' (waitL s)) p cp (hp : At w .u32 p o.wds) => radd_save w (tabR_below hR hw h2) (by have := hw.size; omega) s o.wds hs hok hwl.2 ao' c' ha p cp hp)
  have HSv := hid (fun w A n q ao' c' (h1 : At w .u32 ao' q) (h2 : List.length A = 8) (h3 : n ≤ 36028797018963968) (h4 : List.length q < 16) => rdsave_any w A h2 ao' q.length c' n h3 q rfl h4 h1)
  have HO := hid (fun w => rcheck_any w o.k o.a ao o.ws.length c)
  rw [(okk_iff o).2 ho] at HO
  simp only [if_true] at HO
  have HD1 := hid (fun ao' c' => rdC_one (s.take 8) ao' (numL s % 16) c' (numL s : Int))
  have HDl := hid (fun ao' c' => rdC_length (s.take 8) (.slice ao' (numL s % 16) c') (numL s : Int) (by rw [List.length_take, hs]; rfl))
  obtain ⟨x0, hc⟩ := exR_ex W s o.k o.a ao o.ws.length c Z
  have X0 := hid (And.intro x0 hc)
  have c0 := hc.cell 0
  have c1 := hc.cell 1
  have c2 := hc.cell 2
  simp only [tqG, tqH] at c0 c1 c2
  clear x0 hc ho hat ws hok hR h2 hwl
  generalize exS s o.wds = M at *
  generalize s.take 8 = A0 at *
  generalize numL s = n0 at *
  generalize waitL s = p0 at *
  generalize o.wds = E at *
  unfold exR at *
  unfold Ag
  go_enter Tryz.func132, Tryz.ntmps132
  go_upto_region 4 with (go_at_call 146; refine (HO.out _).mono ?_; rintro e w1 ⟨rfl, hb⟩; have X1 := hid (And.intro (X0.out.1.on hb) (X0.out.2.on hb)); clear hb c0 c1 c2 X0)
  go_upto_region 5 with (first | (go_at_call 142; refine (HLd.out _ _ X1.out.1.bs).mono ?_; rintro e w2 ⟨ao2, c2, rfl, ha, hb⟩; have X2 := hid (And.intro (X1.out.1.on hb) (And.intro (X1.out.2.on hb) ha)); have hDa := HDl.out ao2 c2; have HDb := hid (HD1.out ao2 c2); clear hb ha X1) | (revert X2; intro X2; refine wpList_store_cel rfl 196 _ _ rfl w2.heap.size (rdC A0 (.slice ao2 (n0 % 16) c2) (n0 : Int)) rfl rfl (show Cel (w2.alloc (.cells Q.toArray 196)) w2.heap.size 196 Q from heap_alloc_new _ _) (by rw [hDa]; exact size105) (by rw [hDa, hQl]) HDb.out ?_; intro w3 c3 b3 s3; have X3 := hid (And.intro (X2.out.1.on (box_below _ b3)) (And.intro (X2.out.2.1.on (box_below _ b3)) (And.intro (X2.out.2.2.below (box_below _ b3)) c3))); have HG7 : Hid (W.heap.size + 1 + 1 < w2.heap.size) := hid X2.out.1.bz.lt; clear c3 b3 s3 X2))
  generalize w2.heap.size = g7 at *
  go_upto_region 7 with fail
  have Y0 : Hid (EX W w3.drew s Z ∧ Cel w3.drew (W.heap.size + 1) 202 [.int .i64 o.k, .int .u32 o.a, .slice ao o.ws.length c] ∧ Wat w3.drew ao2 p0 ∧ Cel w3.drew g7 196 (rdC A0 (.slice ao2 (n0 % 16) c2) (n0 : Int))) := hid ⟨X3.out.1.on (Below.refl _ _).drew, X3.out.2.1.on (Below.refl _ _).drew, X3.out.2.2.1.below (Below.refl _ _).drew, X3.out.2.2.2.on (Below.refl _ _).drew⟩
  clear X3
  refine wp_region_held_drew (S := fun w => Cel w (W.heap.size + 1) 202 [.int .i64 o.k, .int .u32 o.a, .slice ao o.ws.length c]) (by kernel_rfl) Y0.out.2.1 (fun hHeld => ?_)
  generalize World.drew _ = w4 at *
  refine tk 1 (some 23) (.agg #[.int .i64 o.k, .int .u32 o.a, .slice ao o.ws.length c]) ?_ (hy := yieldsIf_load_mid (by rfl) _ _ rfl _ _ rfl _ _ (fun w hSw => cel_range hSw) Tryz.underlying202 rfl (by rw [size80]; rfl))
  simp only [Act.put, tqA, tqZ, tqS]
  refine wpAnyH_ready (rs := [0, 2]) (by kernel_rfl) (by simp) (AllReadyH.cons rfl (fun KQ hK => ?_) (AllReadyH.cons rfl (fun KQ hK => ?_) AllReadyH.nil))
  · rw [if_pos (by rfl)]
    refine wp_load_mid 196 _ rfl g7 0 rfl _ _ (cel_range Y0.out.2.2.2) Tryz.underlying196 rfl (by rw [hDa]; exact size105) ?_
    refine hK.out _ _ Y0.out.2.1 (fun hHeld => ?_)
    clear hK KQ
    try simp only [Act.put, tqA]
    refine wpAnyH_ready (rs := [2]) (by kernel_rfl) (by simp) (AllReadyH.cons rfl (fun KQ hK => ?_) AllReadyH.nil)
    go_simp
    refine (HWd.out _ Y0.out.1.below).mono ?_
    rintro e w6 ⟨v6, rfl, h6⟩
    obtain ⟨p6, c6, hv6, _, ha6, _⟩ := h6.at'
    subst hv6
    have Y1 := hid (And.intro (Y0.out.1.on h6.below) (And.intro (Y0.out.2.1.on h6.below) (And.intro (Y0.out.2.2.1.below h6.below) (And.intro (Y0.out.2.2.2.on h6.below) ha6))))
    clear h6 ha6 Y0
    go_wp2_with fail
    refine hK.out _ _ Y1.out.2.1 (fun hHeld => ?_)
    clear hK KQ
    try simp only [Act.put, tqA, tqZ, tqS]
    refine wpAnyH_ready (rs := [3]) (by kernel_rfl) (by simp) (AllReadyH.cons rfl (fun KQ hK => ?_) AllReadyH.nil)
    go_simp
    refine (HAd.out _ Y1.out.1.below _ _ Y1.out.2.2.1 _ _ Y1.out.2.2.2.2).mono ?_
    rintro e w7 ⟨A4, n4, q4, ao4, c4, rfl, ha7, l7, hn7, hq7, hsv, hb7⟩
    have Y2 := hid (And.intro (Y1.out.1.on hb7) (And.intro (Y1.out.2.1.on hb7) (And.intro ha7 (Y1.out.2.2.2.1.on hb7))))
    have HB4 : Hid (A4.length = 8 ∧ n4 ≤ 36028797018963968 ∧ q4.length < 16 ∧ saveL A4 n4 q4 = M) := hid ⟨l7, hn7, hq7, hsv⟩
    have hE4 := rdC_length A4 (.slice ao4 q4.length c4) (n4 : Int) l7
    have HE4 := hid (rdC_one A4 ao4 q4.length c4 (n4 : Int))
    clear ha7 l7 hn7 hq7 hsv hb7 Y1
    go_wp2_with fail
    refine hK.out _ _ Y2.out.2.1 (fun hHeld => ?_)
    clear hK KQ
    try simp only [Act.put, tqA, tqZ, tqS]
    refine wpAnyH_ready (rs := [4]) (by kernel_rfl) (by simp) (AllReadyH.cons rfl (fun KQ hK => ?_) AllReadyH.nil)
    rw [if_pos (by rfl)]
    refine wp_store_st 196 _ _ rfl g7 (rdC A4 (.slice ao4 q4.length c4) (n4 : Int)) rfl rfl Y2.out.2.2.2 (by rw [hE4]; exact size105) (by rw [hDa, hE4]) (List.all_eq_true.2 HE4.out) ?_
    intro w8 hc8 hb8 hs8
    have Y4 : Hid (EX W w8 s Z ∧ Cel w8 (W.heap.size + 1) 202 [.int .i64 o.k, .int .u32 o.a, .slice ao o.ws.length c] ∧ Wat w8 ao4 q4 ∧ Cel w8 g7 196 (rdC A4 (.slice ao4 q4.length c4) (n4 : Int))) := hid ⟨Y2.out.1.but hb8 HG7.out, Y2.out.2.1.but hb8 (by have := HG7.out; omega), Y2.out.2.2.1.but Y2.out.2.2.2 (by decide) hb8, hc8⟩
    clear hc8 hb8 hs8 Y2
    refine hK.out _ _ Y4.out.2.1 (fun hHeld => ?_)
    clear hK KQ
    try simp only [Act.put]
    refine wpAnyH_done (by kernel_rfl) ?_ _
    go_upto_region 8 with fail
    go_wp2_with (first | (revert Y4; intro Y4; refine wpList_load_cl rfl 196 _ rfl g7 _ rfl Y4.out.2.2.2 Tryz.underlying196 rfl (by rw [hE4]; exact size105) ?_) | (go_at_call 129; refine (HSv.out _ _ _ _ _ _ Y4.out.2.2.1.at HB4.out.1 HB4.out.2.1 HB4.out.2.2.1).mono ?_; rintro e w5 ⟨rfl, hb⟩; rw [HB4.out.2.2.2]; have Y5 := hid (Y4.out.1.on hb); clear hb Y4) | (revert Y5; intro Y5; refine wpList_store_blk rfl 44 _ _ rfl (W.heap.size + 1 + 1) M rfl rfl Y5.out.bz (by rw [hMl]; exact size40) (by rw [hZl, hMl]) ?_))
    refine ret_cell2 rfl rfl (W.heap.size + 1 + 1) M rfl (Y5.out.bz.setRow _) Tryz.underlying44 (by rw [hMl]; exact size40) ⟨rfl, below_setRow Y5.out.below (by omega) _⟩
  · go_simp
    refine (HWd.out _ Y0.out.1.below).mono ?_
    rintro e w6 ⟨v6, rfl, h6⟩
    obtain ⟨p6, c6, hv6, _, ha6, _⟩ := h6.at'
    subst hv6
    have Y1 := hid (And.intro (Y0.out.1.on h6.below) (And.intro (Y0.out.2.1.on h6.below) (And.intro (Y0.out.2.2.1.below h6.below) (And.intro (Y0.out.2.2.2.on h6.below) ha6))))
    clear h6 ha6 Y0
    go_wp2_with fail
    refine hK.out _ _ Y1.out.2.1 (fun hHeld => ?_)
    clear hK KQ
    try simp only [Act.put, tqA, tqZ, tqS]
    refine wpAnyH_ready (rs := [0]) (by kernel_rfl) (by simp) (AllReadyH.cons rfl (fun KQ hK => ?_) AllReadyH.nil)
    rw [if_pos (by rfl)]
    refine wp_load_mid 196 _ rfl g7 0 rfl _ _ (cel_range Y1.out.2.2.2.1) Tryz.underlying196 rfl (by rw [hDa]; exact size105) ?_
    refine hK.out _ _ Y1.out.2.1 (fun hHeld => ?_)
    clear hK KQ
    try simp only [Act.put, tqA]
    refine wpAnyH_ready (rs := [3]) (by kernel_rfl) (by simp) (AllReadyH.cons rfl (fun KQ hK => ?_) AllReadyH.nil)
    go_simp
    refine (HAd.out _ Y1.out.1.below _ _ Y1.out.2.2.1 _ _ Y1.out.2.2.2.2).mono ?_
    rintro e w7 ⟨A4, n4, q4, ao4, c4, rfl, ha7, l7, hn7, hq7, hsv, hb7⟩
    have Y2 := hid (And.intro (Y1.out.1.on hb7) (And.intro (Y1.out.2.1.on hb7) (And.intro ha7 (Y1.out.2.2.2.1.on hb7))))
    have HB4 : Hid (A4.length = 8 ∧ n4 ≤ 36028797018963968 ∧ q4.length < 16 ∧ saveL A4 n4 q4 = M) := hid ⟨l7, hn7, hq7, hsv⟩
    have hE4 := rdC_length A4 (.slice ao4 q4.length c4) (n4 : Int) l7
    have HE4 := hid (rdC_one A4 ao4 q4.length c4 (n4 : Int))
    clear ha7 l7 hn7 hq7 hsv hb7 Y1
    go_wp2_with fail
    refine hK.out _ _ Y2.out.2.1 (fun hHeld => ?_)
    clear hK KQ
    try simp only [Act.put, tqA, tqZ, tqS]
    refine wpAnyH_ready (rs := [4]) (by kernel_rfl) (by simp) (AllReadyH.cons rfl (fun KQ hK => ?_) AllReadyH.nil)
    rw [if_pos (by rfl)]
    refine wp_store_st 196 _ _ rfl g7 (rdC A4 (.slice ao4 q4.length c4) (n4 : Int)) rfl rfl Y2.out.2.2.2 (by rw [hE4]; exact size105) (by rw [hDa, hE4]) (List.all_eq_true.2 HE4.out) ?_
    intro w8 hc8 hb8 hs8
    have Y4 : Hid (EX W w8 s Z ∧ Cel w8 (W.heap.size + 1) 202 [.int .i64 o.k, .int .u32 o.a, .slice ao o.ws.length c] ∧ Wat w8 ao4 q4 ∧ Cel w8 g7 196 (rdC A4 (.slice ao4 q4.length c4) (n4 : Int))) := hid ⟨Y2.out.1.but hb8 HG7.out, Y2.out.2.1.but hb8 (by have := HG7.out; omega), Y2.out.2.2.1.but Y2.out.2.2.2 (by decide) hb8, hc8⟩
    clear hc8 hb8 hs8 Y2
    refine hK.out _ _ Y4.out.2.1 (fun hHeld => ?_)
    clear hK KQ
    try simp only [Act.put]
    refine wpAnyH_done (by kernel_rfl) ?_ _
    go_upto_region 8 with fail
    go_wp2_with (first | (revert Y4; intro Y4; refine wpList_load_cl rfl 196 _ rfl g7 _ rfl Y4.out.2.2.2 Tryz.underlying196 rfl (by rw [hE4]; exact size105) ?_) | (go_at_call 129; refine (HSv.out _ _ _ _ _ _ Y4.out.2.2.1.at HB4.out.1 HB4.out.2.1 HB4.out.2.2.1).mono ?_; rintro e w5 ⟨rfl, hb⟩; rw [HB4.out.2.2.2]; have Y5 := hid (Y4.out.1.on hb); clear hb Y4) | (revert Y5; intro Y5; refine wpList_store_blk rfl 44 _ _ rfl (W.heap.size + 1 + 1) M rfl rfl Y5.out.bz (by rw [hMl]; exact size40) (by rw [hZl, hMl]) ?_))
    refine ret_cell2 rfl rfl (W.heap.size + 1 + 1) M rfl (Y5.out.bz.setRow _) Tryz.underlying44 (by rw [hMl]; exact size40) ⟨rfl, below_setRow Y5.out.below (by omega) _⟩
end Go.Proofs.YtdfnbcbnmiohnaaGreatDoor.Q
