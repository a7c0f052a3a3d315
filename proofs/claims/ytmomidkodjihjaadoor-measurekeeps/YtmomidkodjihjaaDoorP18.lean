import Derived.Test.YtmomidkodjihjaaDoorP17
import Derived.Test.YtmomidkodjihjaaDoorP01
import Derived.Test.YtmomidkodjihjaaDoorP12
namespace Go.Proofs.YtmomidkodjihjaaDoor
open Go.RowKit
open H
set_option maxHeartbeats 4000000
set_option maxRecDepth 100000
theorem size43 : (Tryd.prog.info? 43).map (·.size) = some 3 := by kernel_rfl
theorem Cel.setr {w : World} {g : Nat} {t : TypeId} {cs : List Value} (h : Cel w g t cs) (vs : List Value) : Cel (w.setRow g vs.toArray) g t vs := setRow_heap w g _ _ t _ h
theorem H.Cel.on {w w' : World} {g : Nat} {t : TypeId} {cs : List Value} (h : Cel w g t cs) (hb : Below w.heap.size w w') : Cel w' g t cs := h.below hb h.lt
theorem wp_store_st {P : Program} {op : Oper} {a : Act} {w : World} {K : Act → World → Prop} {Q : Exit → Act → World → Prop} (ty : TypeId) (x y : Operand) (ho : op.op = .store ty x y)
    (g : Nat) (vs : List Value) (hx : a.eval x = .pointer (some ⟨g, 0, none⟩)) (hy : a.eval y = .agg vs.toArray) {e : TypeId} {cs : List Value} (hg : Cel w g e cs) (hi : (P.info? ty).map (·.size) = some vs.length) (hl : cs.length = vs.length) (h1 : vs.all (·.oneCell') = true)
    (h : ∀ w', Cel w' g e vs → But g w w' → w'.heap.size = w.heap.size → K (a.put op.dst undef) w') : op.wp P a w K Q := by
  have hs : (Instr.storeAt ty (.pointer (some ⟨g, 0, none⟩)) (.agg vs.toArray)).run P w = .ok () (w.setRow g vs.toArray) := by
    simp only [Instr.storeAt, Instr.sureAddr, Sem.run_bind, Sem.run_pure, Result.andThen]
    exact run_storeVar_row w g e ty _ _ hg (by rw [hi]; simp) (by simp [hl]) (by simpa using h1)
  unfold Oper.wp execOp
  simp only [ho, hx, hy, Sem.run_bind, Sem.run_pure, hs, Result.andThen_ok]
  exact h _ (Cel.setr hg _) (but_setRow _ _ _) (by simp)
theorem ret_cel3 {P : Program} {fn : Func} {p q r : Tmp} {ty e : TypeId} {d : TypeDesc} {a : Act} {w : World} {post : Ending → World → Prop} (hr : fn.results = #[.cell p ty, .tmp q, .tmp r]) (hd : a.defers = []) (g : Nat) (cs : List Value)
    (hp : a.tmps.getD p undef = .pointer (some ⟨g, 0, none⟩)) (hb : Cel w g e cs) (hu : P.underlying ty = some d) (hdd : (match d with | .struct _ | .array _ _ => true | _ => false) = true) (hi : (P.info? ty).map (·.size) = some cs.length) (h : post (.returned (.tuple #[.agg cs.toArray, a.tmps.getD q undef, a.tmps.getD r undef])) w) :
    bodyPost P fn post .ret a w := by
  refine bodyPost_ret (v := .tuple #[.agg cs.toArray, a.tmps.getD q undef, a.tmps.getD r undef]) ?_ hd h
  have hp' : a.tmps[p]?.getD undef = .pointer (some ⟨g, 0, none⟩) := by simpa using hp
  have := run_loadVar_row (P := P) w g e ty _ (0, 0) _ hb hu hdd (by rw [hi]; simp)
  simp [results, hr, hp', asAddr, this]
def cutA (b off c e : Nat) : Addr := if c = e then ⟨b, off, none⟩ else ⟨b, off + e, none⟩
def zop : List Value := [.int .i64 0, .int .u32 0, .slice none 0 0]
theorem cut_short (W : World) (ao : Option Addr) (n c : Nat) (hn : n < 2) :
    Calls Tryd.prog 37 #[.slice ao n c] W fun e W' => e = .returned (.tuple #[.agg zop.toArray, .slice none 0 0, .int .i64 150]) ∧ Below W.heap.size W W' := by
  have q0 : (n : Int) < 2 := by omega
  have X0 : Hid (Cel (W.alloc (.cells #[.int .i64 0, .int .u32 0, .slice none 0 0] 43)) W.heap.size 43 zop) := hid (heap_alloc_new _ _)
  have HB := hid (below_one W (.cells #[.int .i64 0, .int .u32 0, .slice none 0 0] 43))
  clear hn
  go_enter Tryd.func37, Tryd.ntmps37
  go_wp2_with fail

  refine ret_cel3 rfl rfl W.heap.size zop rfl X0.out Tryd.underlying43 rfl size43 ⟨rfl, HB.out⟩
theorem wrap_i64 (x : Int) (h0 : -9223372036854775808 ≤ x) (h1 : x < 9223372036854775808) : IntKind.wrap .i64 x = x := by
  rw [IntKind.wrap_i64]; omega
theorem wpList_store_st {P : Program} {ops : Array Oper} {rest : List Oper} {o : Oper} {a : Act} {w : World} {Q : Exit → Act → World → Prop} (hgd : o.guard = none) (ty : TypeId) (x y : Operand) (ho : o.op = .store ty x y)
    (g : Nat) (vs : List Value) (hx : a.eval x = .pointer (some ⟨g, 0, none⟩)) (hy : a.eval y = .agg vs.toArray) {e : TypeId} {cs : List Value} (hg : Cel w g e cs) (hi : (P.info? ty).map (·.size) = some vs.length) (hl : cs.length = vs.length) (h1 : vs.all (·.oneCell') = true)
    (h : ∀ w', Cel w' g e vs → But g w w' → w'.heap.size = w.heap.size → wpList P ops Q rest (a.put o.dst undef) w') : wpList P ops Q (o :: rest) a w :=
  wpList_store_row hgd ty x y ho g _ hx hy e _ hg (by rw [hi]; simp) (by simp [hl]) (by simpa using h1) (h _ (Cel.setr hg _) (but_setRow _ _ _) (by simp))
theorem cel_range {w : World} {g : Nat} {t : TypeId} {cs : List Value} (h : Cel w g t cs) : w.rangeAt g 0 cs := fun j v hv => by rw [Nat.zero_add, h.cell j]; exact hv
theorem own_base {w : World} {B B' : Nat} {e : TypeId} {s : Nat} {v : Value} {n : Nat} {L : List Value} (h : w.ownsRow B e s v n L) (hB : B' ≤ B) : w.ownsRow B' e s v n L :=
  ⟨h.1, h.2.imp id fun ⟨g, cap, cur, hv, hg, r⟩ => ⟨g, cap, cur, hv, Nat.le_trans hB hg, r⟩⟩
theorem own_but {w w' : World} {B : Nat} {e : TypeId} {s : Nat} {v : Value} {n : Nat} {L : List Value} {g : Nat} (h : w.ownsRow B e s v n L) (hb : But g w w') (hn : ¬ v.ownBlock = some g) : w'.ownsRow B e s v n L :=
  ⟨h.1, h.2.imp id fun ⟨gg, cap, cur, hv, hB, hg, r⟩ => ⟨gg, cap, cur, hv, hB, (hb.block gg (Array.getElem?_eq_some_iff.1 hg).1 (fun e => hn (by rw [hv, ← e]; rfl))).trans hg, r⟩⟩
theorem run_append_z {w : World} (ty : TypeId) (ad : Addr) (m c : Nat) (xs : List Int) (hl : xs.length = m) (hat : At w .u32 (some ad) xs) (hb : m * 4 ≤ 140737488355328) :
    ∃ v' w', (Builtin.append_ #[22, 22] ty #[.slice none 0 0, .slice (some ad) m c]).run Tryd.prog w = .ok v' w' ∧ Holds w w' .u32 24 v' xs := by
  obtain ⟨v', w', hr, hh⟩ := run_append_h (V := w) ty (Holds.start w .u32 24) ad m c xs hl hat (by simpa using hb)
  exact ⟨v', w', hr, by simpa using hh⟩
theorem wp_store_c2 {op : Oper} {a : Act} {w : World} {K : Act → World → Prop} {Q : Exit → Act → World → Prop} (x y : Operand) (ho : op.op = .store 22 x y)
    (g : Nat) {p : Option Addr} {m c : Nat} {u0 u1 u2 : Value} (hx : a.eval x = .pointer (some ⟨g, 2, none⟩)) (hy : a.eval y = .slice p m c) {e : TypeId} (hg : Cel w g e [u0, u1, u2])
    (h : ∀ w', Cel w' g e [u0, u1, .slice p m c] → But g w w' → w'.heap.size = w.heap.size → K (a.put op.dst undef) w') : op.wp Tryd.prog a w K Q := by
  have hs : (Instr.storeAt 22 (.pointer (some ⟨g, 2, none⟩)) (.slice p m c)).run Tryd.prog w = .ok () (w.setCell ⟨g, 2, none⟩ (.slice p m c)) := by
    have hf := hg.free 2
    have hc := hg.cell 2
    simp only [List.getElem?_cons_zero, List.getElem?_cons_succ] at hc
    go_simp
  unfold Oper.wp execOp
  simp only [ho, hx, hy, Sem.run_bind, Sem.run_pure, hs, Result.andThen_ok]
  refine h _ ?_ (but_setCell _ _ _ _) (by simp)
  unfold Cel at hg ⊢
  rw [heap_setCell_same w g 2 _ e _ hg]
  rfl
theorem cut_less (W : World) (b off n c : Nat) (ws : List Int) (hn : ws.length = n) (hw : Wds ws) (hr : Row W .u32 b off ws) (hb : b < W.heap.size) (h2 : 2 ≤ n) (k a : Int) (hk : ws.getD 0 0 = k) (ha : ws.getD 1 0 = a) (hs : n < 2 + pgN k) :
    Calls Tryd.prog 37 #[.slice (some ⟨b, off, none⟩) n c] W fun e W' => e = .returned (.tuple #[.agg zop.toArray, .slice none 0 0, .int .i64 150]) ∧ Below W.heap.size W W' := by
  have k0 := hw 0
  rw [hk] at k0
  have wk : IntKind.wrap .i64 k = k := wrap_i64 k (by omega) (by omega)
  have y0 := hr 0 (by omega)
  have y1 := hr 1 (by omega)
  rw [hk, Nat.add_zero] at y0
  rw [ha] at y1
  have HY : Hid (∀ w, Below W.heap.size W w → w.cell? ⟨b, off, none⟩ = some (.int .u32 k) ∧ w.cell? ⟨b, off + 1, none⟩ = some (.int .u32 a)) := hid (fun w hw => ⟨(hw.cell (p := ⟨b, _, none⟩) hb).trans y0, (hw.cell (p := ⟨b, _, none⟩) hb).trans y1⟩)
  have q0 : (2 : Int) ≤ (n : Int) := by omega
  have q1 : (1 : Int) < (n : Int) := by omega
  have q2 : (0 : Int) < (n : Int) := by omega
  have hp : pgN k ≤ 1024 := by unfold pgN; split <;> omega
  have X0 : Hid (Below W.heap.size W (W.alloc (.cells #[.int .i64 0, .int .u32 0, .slice none 0 0] 43)).drew ∧ Cel (W.alloc (.cells #[.int .i64 0, .int .u32 0, .slice none 0 0] 43)).drew W.heap.size 43 zop) := hid ⟨(below_one _ _).drew, heap_alloc_new _ _⟩
  have HP := hid (fun w => pageOf_any w k)
  have HR : Hid (Row W .u32 b off ws ∧ b < W.heap.size ∧ ws.length = n) := hid ⟨hr, hb, hn⟩
  have hsi : (n : Int) < 2 + (pgN k : Int) := by omega
  have wp2 : IntKind.wrap .i64 (2 + (pgN k : Int)) = 2 + (pgN k : Int) := wrap_i64 _ (by omega) (by omega)
  clear hr hb hn hw y0 y1 hk ha k0 h2 hs
  clear hp
  generalize pgN k = p at *
  
  go_enter Tryd.func37, Tryd.ntmps37
  go_upto_region 3 with fail
  refine wp_region_held_drew (S := fun w => Below W.heap.size W w ∧ Cel w W.heap.size 43 zop) (by kernel_rfl) X0.out (fun hHeld => ?_)
  generalize World.drew _ = w0 at *
  refine tk 0 ⟨some 11, .move (.tmp 0), 22, "operation.go:79", #[], none⟩ (.slice (some ⟨b, off, none⟩) n c) ?_
  simp only [Act.put, List.setIfInBounds_toArray, List.set_cons_zero, List.set_cons_succ]
  refine tk 1 ⟨some 12, .indexAddr 22 (.tmp 11) (.const (.int .i64 0)), 0, "operation.go:79", #[⟨0, .data⟩], none⟩ (.pointer (some ⟨b, off, none⟩)) ?_ (hy := Or.inl ⟨by rfl, by intro w hSw; go_simp; intro hz; omega⟩)
  simp only [Act.put, List.setIfInBounds_toArray, List.set_cons_zero, List.set_cons_succ]
  refine tk 2 ⟨some 13, .load 24 (.tmp 12), 24, "operation.go:79", #[⟨1, .data⟩], none⟩ (.int .u32 k) ?_ (hy := Or.inl ⟨by rfl, by intro w hSw; have hc := (HY.out w hSw.1).1; go_simp⟩)
  simp only [Act.put, List.setIfInBounds_toArray, List.set_cons_zero, List.set_cons_succ]
  refine tk 3 ⟨some 14, .convert 24 41 (.tmp 13), 41, "operation.go:79", #[⟨2, .data⟩], none⟩ (.int .i64 k) ?_
  simp only [Act.put, List.setIfInBounds_toArray, List.set_cons_zero, List.set_cons_succ]
  refine tk 4 ⟨some 15, .move (.tmp 0), 22, "operation.go:79", #[], none⟩ (.slice (some ⟨b, off, none⟩) n c) ?_
  simp only [Act.put, List.setIfInBounds_toArray, List.set_cons_zero, List.set_cons_succ]
  refine tk 5 ⟨some 16, .indexAddr 22 (.tmp 15) (.const (.int .i64 1)), 0, "operation.go:79", #[⟨4, .data⟩], none⟩ (.pointer (some ⟨b, off + 1, none⟩)) ?_
  simp only [Act.put, List.setIfInBounds_toArray, List.set_cons_zero, List.set_cons_succ]
  refine tk 6 ⟨some 17, .load 24 (.tmp 16), 24, "operation.go:79", #[⟨5, .data⟩], none⟩ (.int .u32 a) ?_ (hy := Or.inl ⟨by rfl, by intro w hSw; have hc := (HY.out w hSw.1).2; go_simp⟩)
  simp only [Act.put, List.setIfInBounds_toArray, List.set_cons_zero, List.set_cons_succ]
  refine tk 7 ⟨some 18, .build 43 #[(0, .tmp 14), (1, .tmp 17)], 43, "operation.go:79", #[⟨3, .data⟩, ⟨6, .data⟩], none⟩ (.agg #[.int .i64 k, .int .u32 a, .slice none 0 0]) ?_
  simp only [Act.put, List.setIfInBounds_toArray, List.set_cons_zero, List.set_cons_succ]
  refine wpAnyH_ready (rs := [8]) (by kernel_rfl) (by simp) (AllReadyH.cons (o := ⟨some 5, .alloc 43, 0, "operation.go:79", #[], none⟩) rfl (fun KQ hK => ?_) AllReadyH.nil)
  go_simp
  have X1 : Hid ((Below W.heap.size W (w0.alloc (.cells #[.int .i64 0, .int .u32 0, .slice none 0 0] 43)) ∧ Cel (w0.alloc (.cells #[.int .i64 0, .int .u32 0, .slice none 0 0] 43)) W.heap.size 43 zop) ∧ Cel (w0.alloc (.cells #[.int .i64 0, .int .u32 0, .slice none 0 0] 43)) w0.heap.size 43 zop) := hid ⟨⟨X0.out.1.alloc X0.out.1.size _, X0.out.2.on (below_one _ _)⟩, heap_alloc_new _ _⟩
  have HG : Hid (W.heap.size < w0.heap.size) := hid X0.out.2.lt
  clear X0
  generalize World.alloc w0 _ = w1 at *
  generalize w0.heap.size = g5 at *
  refine hK.out _ _ X1.out.1 (fun hHeld => ?_)
  clear hK KQ
  try simp only [Act.put, List.setIfInBounds_toArray, List.set_cons_zero, List.set_cons_succ]
  refine wpAnyH_ready (rs := [9]) (by kernel_rfl) (by simp) (AllReadyH.cons (o := ⟨none, .store 43 (.tmp 5) (.tmp 18), 0, "operation.go:79", #[⟨8, .data⟩, ⟨7, .data⟩, ⟨0, .phase⟩, ⟨1, .phase⟩, ⟨2, .phase⟩, ⟨3, .phase⟩, ⟨4, .phase⟩, ⟨5, .phase⟩, ⟨6, .phase⟩, ⟨7, .phase⟩, ⟨8, .phase⟩], none⟩) rfl (fun KQ hK => ?_) AllReadyH.nil)
  rw [if_pos (by rfl)]
  refine wp_store_st 43 _ _ rfl g5 [.int .i64 k, .int .u32 a, .slice none 0 0] rfl rfl X1.out.2 size43 rfl rfl ?_
  intro w2 hc2 hb2 hs2
  have X2 : Hid ((Below W.heap.size W w2 ∧ Cel w2 W.heap.size 43 zop) ∧ Cel w2 g5 43 [.int .i64 k, .int .u32 a, .slice none 0 0]) := hid ⟨⟨X1.out.1.1.trans (hb2.below (by have := HG.out; omega) X1.out.1.1.size), X1.out.1.2.but hb2 (by have := HG.out; omega)⟩, hc2⟩
  clear hc2 hb2 hs2 X1
  refine hK.out _ _ X2.out.1 (fun hHeld => ?_)
  clear hK KQ
  try simp only [Act.put]
  refine wpAnyH_done (by kernel_rfl) ?_ _
  have c0 := X2.out.2.cell 0
  simp only [List.getElem?_cons_zero] at c0
  go_wp2_with (first | (go_at_call 55; refine (HP.out _).mono ?_; rintro e w3 ⟨rfl, hw3⟩; subst w3; have X3 := hid X2.out; clear X2) | (revert X3; intro X3; refine wpList_store_st rfl 43 _ _ rfl W.heap.size zop rfl rfl X3.out.1.2 size43 rfl rfl ?_; intro w4 hc4 hb4 hs4))
  refine ret_cel3 rfl rfl W.heap.size zop rfl hc4 Tryd.underlying43 rfl size43 ⟨rfl, X3.out.1.1.trans (hb4.below (Nat.le_refl _) X3.out.1.1.size)⟩
theorem cut_full (W : World) (b off n c : Nat) (ws : List Int) (hn : ws.length = n) (hw : Wds ws) (hr : Row W .u32 b off ws) (hb : b < W.heap.size) (h2 : 2 ≤ n) (k a : Int) (hk : ws.getD 0 0 = k) (ha : ws.getD 1 0 = a) (hs : 2 + pgN k ≤ n) (hc : n ≤ c) (er : Int) (her : (if okk k (pgN k) = true then (0 : Int) else 150) = er) :
    Calls Tryd.prog 37 #[.slice (some ⟨b, off, none⟩) n c] W fun e W' => ∃ p cp A3, e = .returned (.tuple #[.agg #[.int .i64 k, .int .u32 a, .slice p (pgN k) cp], .slice (some A3) (n - (2 + pgN k)) (c - (2 + pgN k)), .int .i64 er]) ∧ Holds W W' .u32 24 (.slice p (pgN k) cp) ((ws.drop 2).take (pgN k)) ∧ A3 = cutA b off c (2 + pgN k) := by
  have k0 := hw 0
  rw [hk] at k0
  have wk : IntKind.wrap .i64 k = k := wrap_i64 k (by omega) (by omega)
  have y0 := hr 0 (by omega)
  have y1 := hr 1 (by omega)
  rw [hk, Nat.add_zero] at y0
  rw [ha] at y1
  have HY : Hid (∀ w, Below W.heap.size W w → w.cell? ⟨b, off, none⟩ = some (.int .u32 k) ∧ w.cell? ⟨b, off + 1, none⟩ = some (.int .u32 a)) := hid (fun w hw => ⟨(hw.cell (p := ⟨b, _, none⟩) hb).trans y0, (hw.cell (p := ⟨b, _, none⟩) hb).trans y1⟩)
  have q0 : (2 : Int) ≤ (n : Int) := by omega
  have q1 : (1 : Int) < (n : Int) := by omega
  have q2 : (0 : Int) < (n : Int) := by omega
  have hp : pgN k ≤ 1024 := by unfold pgN; split <;> omega
  have X0 : Hid (Below W.heap.size W (W.alloc (.cells #[.int .i64 0, .int .u32 0, .slice none 0 0] 43)).drew ∧ Cel (W.alloc (.cells #[.int .i64 0, .int .u32 0, .slice none 0 0] 43)).drew W.heap.size 43 zop) := hid ⟨(below_one _ _).drew, heap_alloc_new _ _⟩
  have HP := hid (fun w => pageOf_any w k)
  have HR : Hid (Row W .u32 b off ws ∧ b < W.heap.size ∧ ws.length = n) := hid ⟨hr, hb, hn⟩
  have HC := hid (fun w (p : Option Addr) (cp : Nat) => check_any w k a p (pgN k) cp)
  rw [her] at HC
  clear her
  obtain ⟨A2, hA2⟩ : ∃ A2, A2 = (if c = 2 then (⟨b, off, none⟩ : Addr) else ⟨b, off + 2, none⟩) := ⟨_, rfl⟩
  have HAt : Hid (∀ w : World, Below W.heap.size W w → At w .u32 (some A2) ((ws.drop 2).take (pgN k))) := hid (fun w hb' => by have := (At.cut (W := w) (k := .u32) (ao := some ⟨b, off, none⟩) (.inr ⟨b, off, rfl, by have := hb'.size; omega, hr.below hb' hb⟩) n c 2 (pgN k) hn hc (by omega)); rw [hA2]; split at this <;> simp_all [Addr.add_mid])
  have HA2 : (if c = 2 then some (⟨b, off, none⟩ : Addr) else some ⟨b, off + 2, none⟩) = some A2 := by rw [hA2]; split <;> rfl
  obtain ⟨A3, hA3⟩ : ∃ A3, A3 = (if c = 2 + pgN k then (⟨b, off, none⟩ : Addr) else ⟨b, off + (2 + pgN k), none⟩) := ⟨_, rfl⟩
  have HAt3 : Hid (A3 = cutA b off c (2 + pgN k)) := hid hA3
  have HA3 : (if c = 2 + pgN k then some (⟨b, off, none⟩ : Addr) else some ⟨b, off + (2 + pgN k), none⟩) = some A3 := by rw [hA3]; split <;> rfl
  clear hA2 hA3
  have HT : Hid (((ws.drop 2).take (pgN k)).length = pgN k) := hid (by rw [List.length_take, List.length_drop]; omega)
  have hsi : 2 + (pgN k : Int) ≤ (n : Int) := by omega
  have wp2 : IntKind.wrap .i64 (2 + (pgN k : Int)) = 2 + (pgN k : Int) := wrap_i64 _ (by omega) (by omega)
  have hci : (n : Int) ≤ (c : Int) := by omega
  have hcp : 2 + (pgN k : Int) ≤ (c : Int) := by omega
  have qp0 : (0 : Int) ≤ 2 + (pgN k : Int) := by omega
  have qp2 : (2 : Int) ≤ 2 + (pgN k : Int) := by omega
  have hn1 : (2 + (pgN k : Int)).toNat = 2 + pgN k := by omega
  have hn2 : (2 + (pgN k : Int) - 2).toNat = pgN k := by omega
  clear hr hb hn hw y0 y1 hk ha k0 h2 hs hc
  have HP4 := hid hp; clear hp
  generalize hpp : pgN k = p at *
  clear hpp
  go_enter Tryd.func37, Tryd.ntmps37
  go_upto_region 3 with fail
  refine wp_region_held_drew (S := fun w => Below W.heap.size W w ∧ Cel w W.heap.size 43 zop) (by kernel_rfl) X0.out (fun hHeld => ?_)
  generalize World.drew _ = w0 at *
  refine tk 0 ⟨some 11, .move (.tmp 0), 22, "operation.go:79", #[], none⟩ (.slice (some ⟨b, off, none⟩) n c) ?_
  simp only [Act.put, List.setIfInBounds_toArray, List.set_cons_zero, List.set_cons_succ]
  refine tk 1 ⟨some 12, .indexAddr 22 (.tmp 11) (.const (.int .i64 0)), 0, "operation.go:79", #[⟨0, .data⟩], none⟩ (.pointer (some ⟨b, off, none⟩)) ?_ (hy := Or.inl ⟨by rfl, by intro w hSw; go_simp; intro hz; omega⟩)
  simp only [Act.put, List.setIfInBounds_toArray, List.set_cons_zero, List.set_cons_succ]
  refine tk 2 ⟨some 13, .load 24 (.tmp 12), 24, "operation.go:79", #[⟨1, .data⟩], none⟩ (.int .u32 k) ?_ (hy := Or.inl ⟨by rfl, by intro w hSw; have hc := (HY.out w hSw.1).1; go_simp⟩)
  simp only [Act.put, List.setIfInBounds_toArray, List.set_cons_zero, List.set_cons_succ]
  refine tk 3 ⟨some 14, .convert 24 41 (.tmp 13), 41, "operation.go:79", #[⟨2, .data⟩], none⟩ (.int .i64 k) ?_
  simp only [Act.put, List.setIfInBounds_toArray, List.set_cons_zero, List.set_cons_succ]
  refine tk 4 ⟨some 15, .move (.tmp 0), 22, "operation.go:79", #[], none⟩ (.slice (some ⟨b, off, none⟩) n c) ?_
  simp only [Act.put, List.setIfInBounds_toArray, List.set_cons_zero, List.set_cons_succ]
  refine tk 5 ⟨some 16, .indexAddr 22 (.tmp 15) (.const (.int .i64 1)), 0, "operation.go:79", #[⟨4, .data⟩], none⟩ (.pointer (some ⟨b, off + 1, none⟩)) ?_
  simp only [Act.put, List.setIfInBounds_toArray, List.set_cons_zero, List.set_cons_succ]
  refine tk 6 ⟨some 17, .load 24 (.tmp 16), 24, "operation.go:79", #[⟨5, .data⟩], none⟩ (.int .u32 a) ?_ (hy := Or.inl ⟨by rfl, by intro w hSw; have hc := (HY.out w hSw.1).2; go_simp⟩)
  simp only [Act.put, List.setIfInBounds_toArray, List.set_cons_zero, List.set_cons_succ]
  refine tk 7 ⟨some 18, .build 43 #[(0, .tmp 14), (1, .tmp 17)], 43, "operation.go:79", #[⟨3, .data⟩, ⟨6, .data⟩], none⟩ (.agg #[.int .i64 k, .int .u32 a, .slice none 0 0]) ?_
  simp only [Act.put, List.setIfInBounds_toArray, List.set_cons_zero, List.set_cons_succ]
  refine wpAnyH_ready (rs := [8]) (by kernel_rfl) (by simp) (AllReadyH.cons (o := ⟨some 5, .alloc 43, 0, "operation.go:79", #[], none⟩) rfl (fun KQ hK => ?_) AllReadyH.nil)
  go_simp
  have X1 : Hid ((Below W.heap.size W (w0.alloc (.cells #[.int .i64 0, .int .u32 0, .slice none 0 0] 43)) ∧ Cel (w0.alloc (.cells #[.int .i64 0, .int .u32 0, .slice none 0 0] 43)) W.heap.size 43 zop) ∧ Cel (w0.alloc (.cells #[.int .i64 0, .int .u32 0, .slice none 0 0] 43)) w0.heap.size 43 zop) := hid ⟨⟨X0.out.1.alloc X0.out.1.size _, X0.out.2.on (below_one _ _)⟩, heap_alloc_new _ _⟩
  have HG : Hid (W.heap.size < w0.heap.size) := hid X0.out.2.lt
  clear X0
  generalize World.alloc w0 _ = w1 at *
  generalize w0.heap.size = g5 at *
  refine hK.out _ _ X1.out.1 (fun hHeld => ?_)
  clear hK KQ
  try simp only [Act.put, List.setIfInBounds_toArray, List.set_cons_zero, List.set_cons_succ]
  refine wpAnyH_ready (rs := [9]) (by kernel_rfl) (by simp) (AllReadyH.cons (o := ⟨none, .store 43 (.tmp 5) (.tmp 18), 0, "operation.go:79", #[⟨8, .data⟩, ⟨7, .data⟩, ⟨0, .phase⟩, ⟨1, .phase⟩, ⟨2, .phase⟩, ⟨3, .phase⟩, ⟨4, .phase⟩, ⟨5, .phase⟩, ⟨6, .phase⟩, ⟨7, .phase⟩, ⟨8, .phase⟩], none⟩) rfl (fun KQ hK => ?_) AllReadyH.nil)
  rw [if_pos (by rfl)]
  refine wp_store_st 43 _ _ rfl g5 [.int .i64 k, .int .u32 a, .slice none 0 0] rfl rfl X1.out.2 size43 rfl rfl ?_
  intro w2 hc2 hb2 hs2
  have X2 : Hid ((Below W.heap.size W w2 ∧ Cel w2 W.heap.size 43 zop) ∧ Cel w2 g5 43 [.int .i64 k, .int .u32 a, .slice none 0 0]) := hid ⟨⟨X1.out.1.1.trans (hb2.below (by have := HG.out; omega) X1.out.1.1.size), X1.out.1.2.but hb2 (by have := HG.out; omega)⟩, hc2⟩
  clear hc2 hb2 hs2 X1
  refine hK.out _ _ X2.out.1 (fun hHeld => ?_)
  clear hK KQ
  try simp only [Act.put]
  refine wpAnyH_done (by kernel_rfl) ?_ _
  have c0 := X2.out.2.cell 0
  simp only [List.getElem?_cons_zero] at c0
  go_upto_region 7 with (go_at_call 55; refine (HP.out _).mono ?_; rintro e w3 ⟨rfl, hw3⟩; subst w3)
  clear c0
  have X3 : Hid ((Below W.heap.size W w2.drew ∧ Cel w2.drew W.heap.size 43 zop) ∧ Cel w2.drew g5 43 [.int .i64 k, .int .u32 a, .slice none 0 0]) := hid ⟨⟨X2.out.1.1.drew, X2.out.1.2⟩, X2.out.2⟩
  clear X2
  refine wp_region_held_drew (S := fun w => Below W.heap.size W w ∧ Cel w W.heap.size 43 zop) (by kernel_rfl) X3.out.1 (fun hHeld => ?_)
  generalize World.drew _ = w4 at *
  refine tk 0 ⟨some 28, .fieldAddr 43 (.tmp 5) 2, 0, "operation.go:84", #[], none⟩ (.pointer (some ⟨g5, 2, none⟩)) ?_
  simp only [Act.put, List.setIfInBounds_toArray, List.set_cons_zero, List.set_cons_succ]
  refine tk 2 ⟨some 30, .move (.tmp 0), 22, "operation.go:84", #[], none⟩ (.slice (some ⟨b, off, none⟩) n c) ?_
  simp only [Act.put, List.setIfInBounds_toArray, List.set_cons_zero, List.set_cons_succ]
  refine tk 3 ⟨some 31, .move (.tmp 6), 3, "operation.go:84", #[], none⟩ (.int .i64 (2 + (p : Int))) ?_
  simp only [Act.put, List.setIfInBounds_toArray, List.set_cons_zero, List.set_cons_succ]
  refine tk 4 ⟨some 32, .slice 22 (.tmp 30) (some (.const (.int .i64 2))) (some (.tmp 31)) none, 22, "operation.go:84", #[⟨2, .data⟩, ⟨3, .data⟩], none⟩ (.slice (some A2) p (c - 2)) ?_
  simp only [Act.put, List.setIfInBounds_toArray, List.set_cons_zero, List.set_cons_succ]
  refine wpAnyH_ready (rs := [1]) (by kernel_rfl) (by simp) (AllReadyH.cons (o := ⟨some 29, .load 22 (.tmp 28), 22, "operation.go:84", #[⟨0, .data⟩], none⟩) rfl (fun KQ hK => ?_) AllReadyH.nil)
  have z2 := X3.out.2.cell 2
  simp only [List.getElem?_cons_zero, List.getElem?_cons_succ] at z2
  go_simp
  clear z2
  refine hK.out _ _ X3.out.1 (fun hHeld => ?_)
  clear hK KQ
  try simp only [Act.put, List.setIfInBounds_toArray, List.set_cons_zero, List.set_cons_succ]
  refine wpAnyH_ready (rs := [5]) (by kernel_rfl) (by simp) (AllReadyH.cons (o := ⟨some 33, .call { callee := .builtin .append, args := #[.tmp 29, .tmp 32], argTypes := #[22, 22] }, 22, "operation.go:84", #[⟨1, .data⟩, ⟨4, .data⟩], none⟩) rfl (fun KQ hK => ?_) AllReadyH.nil)
  rw [if_pos (by rfl)]
  obtain ⟨v5, w5, hr5, h5⟩ := run_append_z _ _ p (c - 2) _ HT.out (HAt.out _ X3.out.1.1) (by have := HP4.out; omega)
  refine wp_append_r _ _ rfl _ rfl _ rfl hr5 ?_
  clear hr5
  obtain ⟨ap, cp, hv5, _⟩ := h5.at'
  rw [HT.out] at hv5
  subst hv5
  have X5 : Hid ((Below W.heap.size W w5 ∧ Cel w5 W.heap.size 43 zop) ∧ Cel w5 g5 43 [.int .i64 k, .int .u32 a, .slice none 0 0]) := hid ⟨⟨below_on X3.out.1.1 h5.below, X3.out.1.2.on h5.below⟩, X3.out.2.on h5.below⟩
  have HH : Hid (w5.ownsRow W.heap.size 24 1 (.slice ap p cp) p (((ws.drop 2).take p).map (Value.int .u32))) := hid (by have := own_base h5.own X3.out.1.1.size; rwa [HT.out] at this)
  have HO : Hid (∀ g, (Value.slice ap p cp).ownBlock = some g → w4.heap.size ≤ g) := hid (fun g hg => (h5.own.lt g hg).1)
  have HG5 : Hid (g5 < w4.heap.size) := hid X3.out.2.lt
  clear h5 X3
  refine hK.out _ _ X5.out.1 (fun hHeld => ?_)
  clear hK KQ
  try simp only [Act.put, List.setIfInBounds_toArray, List.set_cons_zero, List.set_cons_succ]
  refine tk 6 ⟨some 34, .fieldAddr 43 (.tmp 5) 2, 0, "operation.go:84", #[⟨0, .phase⟩, ⟨1, .phase⟩, ⟨2, .phase⟩, ⟨3, .phase⟩, ⟨4, .phase⟩, ⟨5, .phase⟩], none⟩ (.pointer (some ⟨g5, 2, none⟩)) ?_
  simp only [Act.put, List.setIfInBounds_toArray, List.set_cons_zero, List.set_cons_succ]
  refine wpAnyH_ready (rs := [7]) (by kernel_rfl) (by simp) (AllReadyH.cons (o := ⟨none, .store 22 (.tmp 34) (.tmp 33), 0, "operation.go:84", #[⟨6, .data⟩, ⟨5, .data⟩, ⟨5, .chain⟩, ⟨0, .phase⟩, ⟨1, .phase⟩, ⟨2, .phase⟩, ⟨3, .phase⟩, ⟨4, .phase⟩, ⟨5, .phase⟩], none⟩) rfl (fun KQ hK => ?_) AllReadyH.nil)
  rw [if_pos (by rfl)]
  refine wp_store_c2 _ _ rfl g5 rfl rfl X5.out.2 ?_
  intro w6 hc6 hb6 hs6
  have X6 : Hid ((Below W.heap.size W w6 ∧ Cel w6 W.heap.size 43 zop) ∧ Cel w6 g5 43 [.int .i64 k, .int .u32 a, .slice ap p cp]) := hid ⟨⟨X5.out.1.1.trans (hb6.below (by have := HG.out; omega) X5.out.1.1.size), X5.out.1.2.but hb6 (by have := HG.out; omega)⟩, hc6⟩
  have HH6 := hid (own_but HH.out hb6 (fun hg => by have := HO.out _ hg; have := HG5.out; omega))
  clear hc6 hb6 hs6 X5 HH
  refine hK.out _ _ X6.out.1 (fun hHeld => ?_)
  clear hK KQ
  try simp only [Act.put]
  refine wpAnyH_done (by kernel_rfl) ?_ _
  go_upto_region 8 with fail
  have X7 : Hid ((Below W.heap.size W w6.drew ∧ Cel w6.drew W.heap.size 43 zop) ∧ Cel w6.drew g5 43 [.int .i64 k, .int .u32 a, .slice ap p cp]) := hid ⟨⟨X6.out.1.1.drew, X6.out.1.2⟩, X6.out.2⟩
  have HH7 : Hid (w6.drew.ownsRow W.heap.size 24 1 (.slice ap p cp) p (((ws.drop 2).take p).map (Value.int .u32))) := hid HH6.out
  clear X6 HH6
  have HE := hid (HC.out · ap cp)
  clear HC
  refine wp_region_held_drew (S := fun w => Cel w g5 43 [.int .i64 k, .int .u32 a, .slice ap p cp]) (by kernel_rfl) X7.out.2 (fun hHeld => ?_)
  generalize World.drew _ = w7 at *
  refine tk 0 ⟨some 35, .load 43 (.tmp 5), 43, "operation.go:85", #[], none⟩ (.agg #[.int .i64 k, .int .u32 a, .slice ap p cp]) ?_ (hy := yieldsIf_load_mid (by rfl) _ _ rfl _ _ rfl _ _ (fun w hSw => cel_range hSw) Tryd.underlying43 rfl (by rw [size43]; rfl))
  simp only [Act.put, List.setIfInBounds_toArray, List.set_cons_zero, List.set_cons_succ]
  refine tk 1 ⟨some 36, .move (.tmp 0), 22, "operation.go:85", #[], none⟩ (.slice (some ⟨b, off, none⟩) n c) ?_
  simp only [Act.put, List.setIfInBounds_toArray, List.set_cons_zero, List.set_cons_succ]
  refine tk 2 ⟨some 37, .move (.tmp 6), 3, "operation.go:85", #[], none⟩ (.int .i64 (2 + (p : Int))) ?_
  simp only [Act.put, List.setIfInBounds_toArray, List.set_cons_zero, List.set_cons_succ]
  refine tk 3 ⟨some 38, .slice 22 (.tmp 36) (some (.tmp 37)) none none, 22, "operation.go:85", #[⟨1, .data⟩, ⟨2, .data⟩], none⟩ (.slice (some A3) (n - (2 + p)) (c - (2 + p))) ?_
  simp only [Act.put, List.setIfInBounds_toArray, List.set_cons_zero, List.set_cons_succ]
  refine tk 4 ⟨some 39, .load 43 (.tmp 5), 43, "operation.go:85", #[], none⟩ (.agg #[.int .i64 k, .int .u32 a, .slice ap p cp]) ?_ (hy := yieldsIf_load_mid (by rfl) _ _ rfl _ _ rfl _ _ (fun w hSw => cel_range hSw) Tryd.underlying43 rfl (by rw [size43]; rfl))
  simp only [Act.put, List.setIfInBounds_toArray, List.set_cons_zero, List.set_cons_succ]
  refine wpAnyH_ready (rs := [5]) (by kernel_rfl) (by simp) (AllReadyH.cons (o := ⟨some 40, .call { callee := .value (.func 52), args := #[.tmp 39], argTypes := #[43] }, 26, "operation.go:85", #[⟨4, .data⟩], none⟩) rfl (fun KQ hK => ?_) AllReadyH.nil)
  go_simp
  refine (HE.out _).mono ?_
  rintro e w8 ⟨rfl, hb8⟩
  have X8 : Hid ((Below W.heap.size W w8 ∧ Cel w8 W.heap.size 43 zop) ∧ Cel w8 g5 43 [.int .i64 k, .int .u32 a, .slice ap p cp]) := hid ⟨⟨below_on X7.out.1.1 hb8, X7.out.1.2.on hb8⟩, X7.out.2.on hb8⟩
  have HH8 := hid (ownsRow_below HH7.out hb8)
  clear hb8 X7 HH7
  go_wp2_with fail
  refine hK.out _ _ X8.out.2 (fun hHeld => ?_)
  clear hK KQ
  try simp only [Act.put, List.setIfInBounds_toArray, List.set_cons_zero, List.set_cons_succ]
  refine wpAnyH_ready (rs := [6]) (by kernel_rfl) (by simp) (AllReadyH.cons (o := ⟨none, .store 43 (.tmp 2) (.tmp 35), 0, "operation.go:85", #[⟨0, .data⟩, ⟨5, .chain⟩, ⟨0, .phase⟩, { on := 1, ground := .textOnly Departure.lateStores }, { on := 2, ground := .textOnly Departure.lateStores }, { on := 3, ground := .textOnly Departure.lateStoresUnsure }, { on := 4, ground := .textOnly Departure.lateStores }, { on := 5, ground := .textOnly Departure.lateStoresUnsure }], none⟩) rfl (fun KQ hK => ?_) AllReadyH.nil)
  rw [if_pos (by rfl)]
  refine wp_store_st 43 _ _ rfl W.heap.size [.int .i64 k, .int .u32 a, .slice ap p cp] rfl rfl X8.out.1.2 size43 rfl rfl ?_
  intro w9 hc9 hb9 hs9
  have X9 : Hid ((Below W.heap.size W w9 ∧ Cel w9 W.heap.size 43 [.int .i64 k, .int .u32 a, .slice ap p cp]) ∧ Cel w9 g5 43 [.int .i64 k, .int .u32 a, .slice ap p cp]) := hid ⟨⟨X8.out.1.1.trans (hb9.below (Nat.le_refl _) X8.out.1.1.size), hc9⟩, X8.out.2.but hb9 (by have := HG.out; omega)⟩
  have HH9 := hid (own_but HH8.out hb9 (fun hg => by have := HO.out _ hg; have := HG5.out; have := HG.out; omega))
  clear hc9 hb9 hs9 X8 HH8
  refine hK.out _ _ X9.out.2 (fun hHeld => ?_)
  clear hK KQ
  try simp only [Act.put]
  refine wpAnyH_ready (rs := [7]) (by kernel_rfl) (by simp) (AllReadyH.cons (o := ⟨some 3, .assign (.tmp 38), 22, "operation.go:85", #[⟨3, .data⟩, ⟨6, .chain⟩, ⟨0, .phase⟩, ⟨1, .phase⟩, ⟨2, .phase⟩, ⟨3, .phase⟩, { on := 4, ground := .textOnly Departure.lateStores }, { on := 5, ground := .textOnly Departure.lateStoresUnsure }, ⟨6, .phase⟩], none⟩) rfl (fun KQ hK => ?_) AllReadyH.nil)
  go_simp
  refine hK.out _ _ X9.out.2 (fun hHeld => ?_)
  clear hK KQ
  try simp only [Act.put, List.setIfInBounds_toArray, List.set_cons_zero, List.set_cons_succ]
  refine wpAnyH_ready (rs := [8]) (by kernel_rfl) (by simp) (AllReadyH.cons (o := ⟨some 4, .assign (.tmp 40), 26, "operation.go:85", #[⟨5, .data⟩, ⟨7, .chain⟩, ⟨0, .phase⟩, ⟨1, .phase⟩, ⟨2, .phase⟩, ⟨3, .phase⟩, ⟨4, .phase⟩, ⟨5, .phase⟩, ⟨6, .phase⟩, ⟨7, .phase⟩], none⟩) rfl (fun KQ hK => ?_) AllReadyH.nil)
  go_simp
  refine hK.out _ _ X9.out.2 (fun hHeld => ?_)
  clear hK KQ
  try simp only [Act.put, List.setIfInBounds_toArray, List.set_cons_zero, List.set_cons_succ]
  refine wpAnyH_done (by kernel_rfl) ?_ _
  go_wp2_with fail
  refine ret_cel3 rfl rfl W.heap.size [.int .i64 k, .int .u32 a, .slice ap p cp] rfl X9.out.1.2 Tryd.underlying43 rfl size43 ⟨ap, cp, A3, rfl, ⟨by rw [HT.out]; exact HH9.out, X9.out.1.1⟩, HAt3.out⟩
end Go.Proofs.YtmomidkodjihjaaDoor
namespace Go.Proofs.YtmomidkodjihjaaDoor
open Go.RowKit
open H
set_option maxHeartbeats 4000000
set_option maxRecDepth 100000
theorem Tryd.info43 : (Tryd.prog.info? 43).map (fun i => (i.zero, i.size, i.bytes)) = some (some (.agg #[.int .i64 0, .int .u32 0, .slice none 0 0]), 3, 40) := by kernel_rfl
def OW (W wr : World) (x : Ov) : Prop := wr.ownsRow W.heap.size 24 1 (.slice x.p x.o.ws.length x.c) x.o.ws.length (x.o.ws.map (Value.int .u32))
structure HO (W wr : World) (v : Value) (l : List Ov) : Prop where
  own : wr.ownsRow W.heap.size 43 3 v l.length (l.flatMap Ov.cs)
  below : Below W.heap.size W wr
  ws : ∀ x ∈ l, OW W wr x
  apart : l.Pairwise (fun x y => ∀ g, (Value.slice x.p x.o.ws.length x.c).ownBlock = some g → (Value.slice y.p y.o.ws.length y.c).ownBlock ≠ some g)
theorem HO.start (W : World) : HO W W (.slice none 0 0) [] := ⟨World.ownsRow_nil _ _ _ _, Below.refl _ _, by simp, .nil⟩
theorem HO.on {W w w' : World} {v : Value} {l : List Ov} (h : HO W w v l) (hb : Below w.heap.size w w') : HO W w' v l :=
  ⟨ownsRow_below h.own hb, below_on h.below hb, fun x hx => ownsRow_below (h.ws x hx) hb, h.apart⟩
theorem own_blk {w : World} {B : Nat} {e : TypeId} {s : Nat} {v : Value} {n : Nat} {L : List Value} (h : w.ownsRow B e s v n L) {g : Nat} (hg : v.ownBlock = some g) : B ≤ g ∧ ∃ cur, w.heap[g]? = some (.cells cur e (0, 0)) := by
  rcases h.2 with ⟨rfl, _⟩ | ⟨gg, cap, cur, rfl, h1, h2, _⟩
  · cases hg
  · obtain rfl : gg = g := Option.some.inj hg
    exact ⟨h1, cur, h2⟩
theorem own_grown {w w' : World} {B : Nat} {e : TypeId} {s : Nat} {v : Value} {n : Nat} {L : List Value} {og : Option Nat} (h : w.ownsRow B e s v n L) (hg : w.grownBy w' og) (hn : ∀ g, v.ownBlock = some g → og ≠ some g) : w'.ownsRow B e s v n L :=
  ⟨h.1, h.2.imp id fun ⟨gg, cap, cur, hv, hB, hh, r⟩ => ⟨gg, cap, cur, hv, hB, (hg.block gg (Array.getElem?_eq_some_iff.1 hh).1 (fun e => hn gg (by rw [hv]; rfl) e.symm)).trans hh, r⟩⟩
theorem run_append_o {W w : World} (ty : TypeId) {v : Value} {l : List Ov} (H : HO W w v l) (g : Nat) (x : Ov) (hc : Cel w g 43 x.cs) (hx : OW W w x) (hap : ∀ y ∈ l, ∀ g, (Value.slice y.p y.o.ws.length y.c).ownBlock = some g → (Value.slice x.p x.o.ws.length x.c).ownBlock ≠ some g) (hb : (l.length + 1) * 40 ≤ 140737488355328) :
    ∃ v' w', (Builtin.append_ #[25, 25] ty #[v, .slice (some ⟨g, 0, none⟩) 1 1]).run Tryd.prog w = .ok v' w' ∧ HO W w' v' (l ++ [x]) := by
  obtain ⟨i, hi, hz, hsize, hby⟩ := info_parts Tryd.info43
  obtain ⟨v', w', hr, h1, h2, _⟩ := run_append_own (P := Tryd.prog) w W.heap.size 25 ty 43 i _ 3 40 Tryd.underlying25 hi hz hsize hby rfl (by decide) v l.length _ H.own ⟨g, 0, none⟩ 1 1 x.cs rfl (fun j u hu => by rw [Addr.add_mid, Nat.zero_add, hc.cell j]; exact hu) (fun u hu => by
    simp only [Ov.cs, List.mem_cons, List.not_mem_nil, or_false] at hu
    rcases hu with rfl | rfl | rfl <;> rfl) (by unfold maxLen; omega) hb H.below.size
  have hne : ∀ y, OW W w y → ∀ g, (Value.slice y.p y.o.ws.length y.c).ownBlock = some g → v.ownBlock ≠ some g := fun y hy g hg hv => by
    obtain ⟨_, c1, e1⟩ := own_blk hy hg
    obtain ⟨_, c2, e2⟩ := own_blk H.own hv
    have := Option.some.inj (e1.symm.trans e2)
    injection this with _ h5
    exact absurd h5 (by decide)
  refine ⟨v', w', hr, ?_, H.below.grown h2 H.below.size (fun g hg => (H.own.lt g hg).1), fun y hy => ?_, ?_⟩
  · rw [List.length_append, List.flatMap_append]
    simpa using h1
  · rw [List.mem_append, List.mem_singleton] at hy
    rcases hy with hy | rfl
    · exact own_grown (H.ws y hy) h2 (hne y (H.ws y hy))
    · exact own_grown hx h2 (hne y hx)
  · rw [List.pairwise_append]
    refine ⟨H.apart, List.pairwise_singleton _ _, fun y hy z hz => ?_⟩
    rw [List.mem_singleton] at hz
    subst hz
    exact hap y hy
theorem wpList_append_o {W w : World} {ops : Array Oper} {rest : List Oper} {o : Oper} {a : Act} {Q : Exit → Act → World → Prop} (hgd : o.guard = none) (s x : Operand)
    (ho : o.op = .call { callee := .builtin .append, args := #[s, x], argTypes := #[25, 25] }) (v : Value) (l : List Ov) (hs : a.eval s = v) (H : HO W w v l) (g : Nat) (y : Ov) (hx : a.eval x = .slice (some ⟨g, 0, none⟩) 1 1) (hc : Cel w g 43 y.cs) (hy : OW W w y) (hap : ∀ z ∈ l, ∀ g, (Value.slice z.p z.o.ws.length z.c).ownBlock = some g → (Value.slice y.p y.o.ws.length y.c).ownBlock ≠ some g) (hb : (l.length + 1) * 40 ≤ 140737488355328)
    (h : ∀ v' w', HO W w' v' (l ++ [y]) → wpList Tryd.prog ops Q rest (a.put o.dst v') w') : wpList Tryd.prog ops Q (o :: rest) a w := by
  obtain ⟨v', w', hr, hh⟩ := run_append_o o.type H g y hc hy hap hb
  refine wpList_plain hgd fun K hK => ?_
  unfold Oper.wp execOp
  simp only [ho, resolve, invoke, builtin, Sem.run_bind, Sem.run_pure, Result.andThen_ok, List.map_toArray, List.map_cons, List.map_nil, hs, hx, hr]
  exact hK _ _ (h _ _ hh)
theorem OW.at {W wr : World} {x : Ov} (h : OW W wr x) : At wr .u32 x.p x.o.ws := by
  rcases h.2 with ⟨e, h0⟩ | ⟨g, cap, cur, hv, hg, hh, hn, hm, hs, ht⟩
  · exact .inl (List.eq_nil_of_length_eq_zero h0)
  · injection hv with e1 _ e3
    refine .inr ⟨g, 0, e1, (Array.getElem?_eq_some_iff.1 hh).1, fun i hi => ?_⟩
    have := World.ownsRow.cellAt (w := wr) (base := W.heap.size) (e := 24) (size := 1) (g := g) (n := x.o.ws.length) (xs := x.o.ws.map (Value.int .u32)) ⟨h.1, .inr ⟨g, cap, cur, rfl, hg, hh, hn, hm, hs, ht⟩⟩ i (by omega)
    rw [Nat.zero_add, this]
    simp [List.getD_eq_getElem?_getD, hi]
theorem flat_get (l : List Ov) (i j : Nat) (x : Ov) (h : l[i]? = some x) (hj : j < 3) : (l.flatMap Ov.cs)[i * 3 + j]? = x.cs[j]? := by
  induction l generalizing i with
  | nil => simp at h
  | cons y l ih =>
    cases i with
    | zero =>
      simp only [List.getElem?_cons_zero, Option.some.injEq] at h
      subst h
      rw [List.flatMap_cons, List.getElem?_append_left (by simp [Ov.cs]; omega)]
      simp
    | succ i =>
      rw [List.getElem?_cons_succ] at h
      rw [List.flatMap_cons, List.getElem?_append_right (by simp [Ov.cs]; omega), show (i + 1) * 3 + j - y.cs.length = i * 3 + j by simp [Ov.cs]; omega]
      exact ih i h
theorem HO.ol {W wr : World} {v : Value} {l : List Ov} (h : HO W wr v l) : ∃ ao c, v = .slice ao l.length c ∧ l.length ≤ c ∧ OL wr ao l := by
  rcases h.own.2 with ⟨rfl, h0⟩ | ⟨g, cap, cur, rfl, hg, hh, hn, hm, hs, ht⟩
  · exact ⟨none, 0, by rw [h0], by omega, .inl (List.eq_nil_of_length_eq_zero h0), fun x hx => (h.ws x hx).at⟩
  · refine ⟨_, cap, rfl, hn, .inr ⟨g, 0, rfl, (Array.getElem?_eq_some_iff.1 hh).1, fun i x hx => ?_⟩, fun x hx => (h.ws x hx).at⟩
    have hi : i < l.length := (List.getElem?_eq_some_iff.1 hx).1
    have key : ∀ j, j < 3 → wr.cell? ⟨g, i * 3 + j, none⟩ = x.cs[j]? := fun j hj => by
      rw [h.own.cellAt (i * 3 + j) (by omega), flat_get l i j x hx hj]
    refine ⟨?_, ?_, ?_⟩
    · have := key 0 (by decide); simpa [Ov.cs] using this
    · have := key 1 (by decide); simpa [Ov.cs] using this
    · have := key 2 (by decide); simpa [Ov.cs] using this
end Go.Proofs.YtmomidkodjihjaaDoor
