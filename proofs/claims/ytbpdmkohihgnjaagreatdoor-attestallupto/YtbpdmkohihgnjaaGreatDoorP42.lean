import Derived.Test.YtbpdmkohihgnjaaGreatDoorP41
import Derived.Laws.CopyRow
import Derived.Test.YtbpdmkohihgnjaaGreatDoorP01
import Derived.Test.YtbpdmkohihgnjaaGreatDoorP28
namespace Go.Proofs.YtbpdmkohihgnjaaGreatDoor
open Go.RowKit
set_option maxHeartbeats 4000000
set_option maxRecDepth 100000
structure PQ (W : World) (g2 g3 : Nat) (v0 v : Value) (ot : Bool) (n : Nat) (C : List Value) (w : World) : Prop where
  bl : Below W.heap.size W w
  c2 : Cel w g2 24 [.slice none 0 0, .bool false]
  c3 : Cel w g3 24 [v0, .bool ot]
  o : w.ownsRow W.heap.size 63 10 v n C
  h2 : W.heap.size ≤ g2
  h3 : W.heap.size ≤ g3
  ne : g2 ≠ g3
theorem PQ.on {W : World} {g2 g3 : Nat} {v0 v : Value} {ot : Bool} {n : Nat} {C : List Value} {w w' : World} (h : PQ W g2 g3 v0 v ot n C w) (hb : Below w.heap.size w w') : PQ W g2 g3 v0 v ot n C w' :=
  ⟨below_on h.bl hb, h.c2.on hb, h.c3.on hb, L.own_below h.o hb, h.h2, h.h3, h.ne⟩
theorem PQ.app {W : World} {g2 g3 : Nat} {v0 v v' : Value} {ot : Bool} {n m : Nat} {C ys : List Value} {w w' : World} (h : PQ W g2 g3 v0 v ot n C w) (ha : Y.Two2 w w' W.heap.size 63 10 v v' n m ys) : PQ W g2 g3 v0 v' ot (n + m) ys w' := by
  rcases ha with ⟨b, cap, rfl, rfl, ho, hb⟩ | ⟨ho, hb⟩
  · have n2 : g2 ≠ b := fun e => own_ap h.o h.c2 (by decide) (by rw [e]; rfl)
    have n3 : g3 ≠ b := fun e => own_ap h.o h.c3 (by decide) (by rw [e]; rfl)
    have hk : W.heap.size ≤ b := (h.o.lt b rfl).1
    exact ⟨h.bl.trans (hb.below hk h.bl.size), h.c2.but hb n2, h.c3.but hb n3, ho, h.h2, h.h3, h.ne⟩
  · exact ⟨below_on h.bl hb, h.c2.on hb, h.c3.on hb, L.own_mono ho h.bl.size, h.h2, h.h3, h.ne⟩
theorem PQ.put {W : World} {g2 g3 : Nat} {v0 v : Value} {ot : Bool} {n : Nat} {C : List Value} {w : World} (h : PQ W g2 g3 v0 v ot n C w) : PQ W g2 g3 v v ot n C (w.setCell ⟨g3, 0, none⟩ v) :=
  ⟨Below.put h.bl h.h3 0 _, h.c2.setO h.ne 0 _, h.c3.setC 0 _, own_setO h.o (own_ap h.o h.c3 (by decide)) 0 _, h.h2, h.h3, h.ne⟩
theorem PQ.fin {W : World} {g2 g3 : Nat} {v0 v : Value} {ot : Bool} {n : Nat} {C cs : List Value} {w w' : World} (h : PQ W g2 g3 v0 v ot n C w) (hc : Cel w' g2 24 cs) (hb : But g2 w w') : Cel w' g2 24 cs ∧ Below W.heap.size W w' ∧ w'.ownsRow W.heap.size 63 10 v n C :=
  ⟨hc, h.bl.trans (hb.below h.h2 h.bl.size), own_but h.o hb (own_ap h.o h.c2 (by decide))⟩
def spR : Rl := ⟨false, ⟨#[115, 112, 97, 114, 101]⟩, [0, 0, 0, 0, 0, 0, 0, 0]⟩
theorem built24o (ot : Bool) : Tryz.prog.built 24 [(1, .bool ot)] = some #[.slice none 0 0, .bool ot] := by kernel_rfl
theorem built63s : Tryz.prog.built 63 [(1, .string ⟨#[115, 112, 97, 114, 101]⟩)] = some #[.bool false, .string ⟨#[115, 112, 97, 114, 101]⟩, .int .u32 0, .int .u32 0, .int .u32 0, .int .u32 0, .int .u32 0, .int .u32 0, .int .u32 0, .int .u32 0] := by kernel_rfl
theorem rcs_app (A B : List Rl) : rcs (A ++ B) = rcs A ++ rcs B := by simp [rcs, List.flatMap_append]
theorem rep_succ (R : List Rl) (k : Nat) : rcs (R ++ List.replicate (k + 1) spR) = rcs (R ++ List.replicate k spR) ++ spR.cs := by
  rw [List.replicate_succ', ← List.append_assoc, rcs_snoc]
attribute [-simp] Tryz.isAgg24 Tryz.zeroValue24 Tryz.isAgg63 Tryz.zeroValue63
theorem lent_any (W : World) (ap : Option Addr) (n cp : Nat) (ot : Bool) (R : List Rl) (hn : R.length = n) (hr : RulesAt W ap R) (ml : ∀ r ∈ R, r.ms.length = 8) (hmax : n ≤ 2000000) :
    Calls Tryz.prog 20 #[.agg #[.slice ap n cp, .bool ot]] W fun e W' => ∃ a c, e = .returned (.agg #[.slice a (n + 120) c, .bool ot]) ∧ W'.ownsRow W.heap.size 63 10 (.slice a (n + 120) c) (n + 120) (rcs (R ++ List.replicate 120 spR)) ∧ Below W.heap.size W W' := by
  have hz24 : ∀ w, (zeroValue 24).run Tryz.prog w = .ok (.agg #[.slice none 0 0, .bool false]) w := fun w => by rw [Tryz.zeroValue24]
  have hz63 : ∀ w, (zeroValue 63).run Tryz.prog w = .ok (.agg #[.bool false, .string ⟨#[]⟩, .int .u32 0, .int .u32 0, .int .u32 0, .int .u32 0, .int .u32 0, .int .u32 0, .int .u32 0, .int .u32 0]) w := fun w => by rw [Tryz.zeroValue63]
  have hb24 : ∀ w, (Instr.build 24 #[(1, .bool ot)]).run Tryz.prog w = .ok (.agg #[.slice none 0 0, .bool ot]) w := fun w => run_build w 24 _ _ (built24o ot)
  have hb63 : ∀ w, (Instr.build 63 #[(1, .string ⟨#[115, 112, 97, 114, 101]⟩)]).run Tryz.prog w = .ok (.agg #[.bool false, .string ⟨#[115, 112, 97, 114, 101]⟩, .int .u32 0, .int .u32 0, .int .u32 0, .int .u32 0, .int .u32 0, .int .u32 0, .int .u32 0, .int .u32 0]) w := fun w => run_build w 63 _ _ built63s
  obtain ⟨X, hX⟩ : ∃ X, X = (W.alloc (Obj.cells #[.slice ap n cp, .bool ot] 24)).alloc (Obj.cells #[.slice none 0 0, .bool false] 24) := ⟨_, rfl⟩
  have HX : Hid (Below W.heap.size W X ∧ Cel X W.heap.size 24 [.slice ap n cp, .bool ot] ∧ Cel X (W.heap.size + 1) 24 [.slice none 0 0, .bool false] ∧ X.heap.size = W.heap.size + 1 + 1) := hid (by
    refine ⟨by rw [hX]; exact below_on (below_one W _) (below_one _ _), ?_, ?_, by rw [hX]; simp⟩
    · rw [hX]; exact Cel.on (heap_alloc_new _ _) (below_one _ _)
    · rw [hX]; exact heap_alloc_new' (by simp) _)
  have c1 : X.cell? ⟨W.heap.size, 1, none⟩ = some (.bool ot) := HX.out.2.1.cell 1
  have HRu := hid hr
  have HM := hid ml
  have HLn := hid (show (rcs R).length = n * 10 by rw [rcs_len ml, hn])
  clear hr ml
  go_enter Tryz.func20, Tryz.ntmps20
  go_upto_region 1 with fail
  rw [← hX]
  clear hX
  go_upto_region 2 with (first | (refine wpList_store_st rfl 24 _ _ rfl X.heap.size [.slice none 0 0, .bool ot] rfl rfl (heap_alloc_new X (.cells #[.slice none 0 0, .bool false] 24)) size36 rfl rfl ?_; intro w2 hc hb hs; have Y0 : Hid (PQ W (W.heap.size + 1) X.heap.size (.slice none 0 0) (.slice none 0 0) ot 0 [] w2 ∧ Cel w2 W.heap.size 24 [.slice ap n cp, .bool ot]) := hid ⟨⟨below_on HX.out.1 (but_box hb), HX.out.2.2.1.on (but_box hb), hc, World.ownsRow_nil _ _ _ _, by omega, by rw [HX.out.2.2.2]; omega, by rw [HX.out.2.2.2]; omega⟩, HX.out.2.1.on (but_box hb)⟩; clear hc hb hs HX c1))
  generalize X.heap.size = g3 at *
  have c0 : w2.cell? ⟨W.heap.size, 0, none⟩ = some (.slice ap n cp) := Y0.out.2.cell 0
  have d0 : w2.cell? ⟨g3, 0, none⟩ = some (.slice none 0 0) := Y0.out.1.c3.cell 0
  go_upto_region 4 with (at_builtin; refine Y.wpList_append_s rfl _ _ 22 63 rfl Tryz.underlying22 Tryz.info63 rfl (by decide) (by decide) rfl Y0.out.1.o Y0.out.1.bl.size rfl HLn.out (rules_lie (HRu.out.on Y0.out.1.bl) HM.out) (rcs_one R) (by omega) ?_; intro v3 w3 hal; obtain ⟨a3, q3, rfl⟩ := Y.two_frm hal (by decide); have Y1 : Hid (PQ W (W.heap.size + 1) g3 (.slice none 0 0) (.slice a3 n q3) ot n (rcs R) w3) := hid (by have := Y0.out.1.app hal; simpa using this); have e0 : w3.cell? ⟨g3, 0, none⟩ = some (.slice none 0 0) := Y1.out.c3.cell 0; have e1 := Y1.out.c3.free 0; clear hal Y0 c0 d0)
  have Y2 : Hid (PQ W (W.heap.size + 1) g3 (.slice a3 n q3) (.slice a3 n q3) ot (n + 0) (rcs (R ++ List.replicate 0 spR)) (w3.setCell ⟨g3, 0, none⟩ (.slice a3 n q3))) := hid (by have := Y1.out.put; simpa using this)
  clear Y1 e0 e1
  generalize World.setCell _ _ _ = w4 at *
  go_loopw [4] (fun i wr => ∃ (k : Nat) (v : Value), k ≤ 120 ∧ i = .int .i64 k ∧ PQ W (W.heap.size + 1) g3 v v ot (n + k) (rcs (R ++ List.replicate k spR)) wr) (fun i _ => 120 - (intOf i).toNat)
  case atStart => exact ⟨0, _, by decide, rfl, Y2.out⟩
  case round =>
    clear Y2
    obtain ⟨k, v, hk, rfl, hs⟩ := hrel
    have Y3 := hid hs
    clear hs
    obtain ⟨av, cv, rfl⟩ := L.own_form Y3.out.o
    by_cases hlt : k < 120
    · have i3 : (k : Int) < 120 := by omega
      have HN := hid (show k + 1 ≤ 120 by omega)
      have d0 : wr.cell? ⟨g3, 0, none⟩ = some (.slice av (n + k) cv) := Y3.out.c3.cell 0
      clear hk hlt
      go_wp2_with (at_builtin; refine Y.wpList_append_s rfl _ _ 22 63 rfl Tryz.underlying22 Tryz.info63 rfl (by decide) (by decide) rfl (L.own_below Y3.out.o (below_one _ _)) (by have := Y3.out.bl.size; simp; omega) rfl rfl (Cel.lie (g := wr.heap.size) (e := 63) (cs := spR.cs) (heap_alloc_new wr _)) (List.all_eq_true.1 spR.one) (by have := HN.out; omega) ?_; intro v6 w6 hal; obtain ⟨aq, cq, rfl⟩ := Y.two_frm hal (by decide); have Y6 := hid ((Y3.out.on (below_one wr _)).app hal); clear hal d0 Y3; have e0 : w6.cell? ⟨g3, 0, none⟩ = some (.slice av (n + k) cv) := Y6.out.c3.cell 0; have e1 := Y6.out.c3.free 0)
      go_roundw
      case rel => exact ⟨k + 1, _, HN.out, by go_num, by have := Y6.out.put; rw [← rep_succ] at this; exact this⟩
      case measure => have := HN.out; simp [intOf]; omega
    · obtain rfl : k = 120 := by omega
      clear hk hlt
      go_wp2_with (first | (refine wpList_load_mid rfl 24 _ rfl g3 0 rfl [.slice av (n + 120) cv, .bool ot] _ (cel_range Y3.out.c3) Tryz.underlying24 rfl size36 ?_) | (refine wpList_store_st rfl 24 _ _ rfl (W.heap.size + 1) [.slice av (n + 120) cv, .bool ot] rfl rfl Y3.out.c2 size36 rfl rfl ?_; intro w4 hc4 hb4 hs4; have Y4 := hid (Y3.out.fin hc4 hb4); clear hc4 hb4 hs4))
      refine ret_q1 rfl rfl (W.heap.size + 1) [.slice av (n + 120) cv, .bool ot] rfl Y4.out.1 Tryz.underlying24 rfl size36 ?_
      exact ⟨av, cv, rfl, Y4.out.2.2, Y4.out.2.1⟩
end Go.Proofs.YtbpdmkohihgnjaaGreatDoor
namespace Go.Proofs.YtbpdmkohihgnjaaGreatDoor
open Go.RowKit
set_option maxHeartbeats 4000000
set_option maxRecDepth 100000
theorem run_store_own {w : World} {B : Nat} {e : TypeId} {st : Nat} (hsz : (Tryz.prog.info? e).map (·.size) = some st) {g n c : Nat} {xs : List Value} (hown : w.ownsRow B e st (.slice (some ⟨g, 0, none⟩) n c) n xs) (j : Nat) (hj : j < n) (cs : List Value) (hcs : cs.length = st) (h1 : ∀ u ∈ cs, u.oneCell' = true) :
    ∃ w', (storeVar e ⟨g, j * st, none⟩ (.agg cs.toArray)).run Tryz.prog w = .ok () w' ∧ w'.ownsRow B e st (.slice (some ⟨g, 0, none⟩) n c) n (xs.take (j * st) ++ cs ++ xs.drop (j * st + st)) ∧ But g w w' := by
  have hxl : xs.length = n * st := hown.1
  rcases hown.2 with ⟨hv, _⟩ | ⟨g', cap, cur, hv, hB, hg, k1, k2, k3, k4⟩
  · cases hv
  · cases hv
    have hle : j * st + st ≤ n * st := by
      have := Nat.mul_le_mul_right st (show j + 1 ≤ n by omega)
      rw [Nat.add_mul, Nat.one_mul] at this
      exact this
    have hcn : n * st ≤ c * st := Nat.mul_le_mul_right _ k1
    have hcl : n * st ≤ cur.toList.length := by rw [Array.length_toList, k3]; exact hcn
    have hst := run_storeCells_at (P := Tryz.prog) g (j * st) e cs 0 cur w hg (by have : cur.size = c * st := k3; omega) h1
    simp only [Nat.add_zero, hcs] at hst
    obtain ⟨i0, hi, his⟩ := Option.map_eq_some_iff.1 hsz
    have hrun : (storeVar e ⟨g, j * st, none⟩ (.agg cs.toArray)).run Tryz.prog w = .ok () (w.setRow g (cur.toList.take (j * st) ++ cs ++ cur.toList.drop (j * st + st)).toArray) := by
      have hl5 : cs.length = i0.size := by rw [hcs]; exact his.symm
      simp [storeVar, sizeOf, typeInfo, hi, Value.cells, hl5, hst]
    have hp : (cur.toList.take (j * st) ++ cs ++ cur.toList.drop (j * st + st)).take (n * st) = xs.take (j * st) ++ cs ++ xs.drop (j * st + st) := by
      rw [← k4, List.take_take, Nat.min_eq_left (by omega), List.take_append, List.take_of_length_le (by simp [hcs]; omega), List.drop_take]
      congr 2
      simp [hcs]
      omega
    refine ⟨_, hrun, ⟨by simp [hcs]; omega, .inr ⟨g, c, _, rfl, hB, setRow_heap w g _ _ e _ hg, k1, k2, ?_, hp⟩⟩, but_setRow _ _ _⟩
    rw [List.size_toArray, List.length_append, List.length_append, List.length_take, List.length_drop, Array.length_toList, k3, hcs]
    omega
theorem wpList_store_own {w : World} {B : Nat} {e : TypeId} {st : Nat} {ops : Array Oper} {rest : List Oper} {o : Oper} {a : Act} {Q : Exit → Act → World → Prop} (hgd : o.guard = none) (x y : Operand) (ho : o.op = .store e x y) (hsz : (Tryz.prog.info? e).map (·.size) = some st) {g n c : Nat} {xs : List Value} (hown : w.ownsRow B e st (.slice (some ⟨g, 0, none⟩) n c) n xs) (j : Nat) (hj : j < n) (cs : List Value) (hcs : cs.length = st) (h1 : ∀ u ∈ cs, u.oneCell' = true) (hx : a.eval x = .pointer (some ⟨g, j * st, none⟩)) (hy : a.eval y = .agg cs.toArray)
    (h : ∀ w', w'.ownsRow B e st (.slice (some ⟨g, 0, none⟩) n c) n (xs.take (j * st) ++ cs ++ xs.drop (j * st + st)) → But g w w' → wpList Tryz.prog ops Q rest (a.put o.dst undef) w') : wpList Tryz.prog ops Q (o :: rest) a w := by
  obtain ⟨w', hrun, hk, hb⟩ := run_store_own hsz hown j hj cs hcs h1
  refine wpList_plain hgd fun K hK2 => ?_
  have := h _ hk hb
  unfold Oper.wp execOp
  simp only [ho, hx, hy, Instr.storeAt, Instr.sureAddr, Sem.run_bind, Sem.run_pure, Result.andThen_ok, hrun]
  exact hK2 _ _ this
def mkR (m : ByteArray) : Rl := ⟨false, m, [0, 0, 0, 0, 0, 0, 0, 0]⟩
theorem rcs_rep (n : Nat) (r : Rl) : rcs (List.replicate n r) = Y.rp n r.cs := by
  induction n with
  | zero => rfl
  | succ n ih => rw [Y.rp_succ, ← ih, List.replicate_succ', rcs_snoc]
theorem mk_ml (n : Nat) (m : ByteArray) : ∀ r ∈ List.replicate n (mkR m), r.ms.length = 8 := fun r hr => by rw [List.eq_of_mem_replicate hr]; rfl
theorem grow_refl (w : World) (b : Option Nat) : w.grownBy w b := ⟨rfl, rfl, rfl, Nat.le_refl _, fun _ _ _ => rfl⟩
theorem grow_but {w a b : World} {ob : Option Nat} {g : Nat} (h : w.grownBy a ob) (hb : But g a b) (hg : some g = ob ∨ w.heap.size ≤ g) : w.grownBy b ob :=
  ⟨hb.os.trans h.os, hb.tape.trans h.tape, hb.output.trans h.output, Nat.le_trans h.size hb.size, fun k hk hne => (hb.block k (Nat.lt_of_lt_of_le hk h.size) (fun e => by
    rcases hg with hg | hg
    · exact hne (by rw [e]; exact hg)
    · omega)).trans (h.block k hk hne)⟩
theorem grow_below {w a b : World} {ob : Option Nat} (h : w.grownBy a ob) (hb : Below a.heap.size a b) : w.grownBy b ob :=
  ⟨hb.os.trans h.os, hb.tape.trans h.tape, hb.output.trans h.output, Nat.le_trans h.size hb.size, fun k hk hne => (hb.block k (Nat.lt_of_lt_of_le hk h.size)).trans (h.block k hk hne)⟩
attribute [-simp] Tryz.isAgg63 Tryz.zeroValue63
theorem marked_any (W : World) (B : Nat) (ao : Option Addr) (n c : Nat) (R : List Rl) (m : ByteArray) (hn : R.length = n) (hrow : W.ownsRow B 63 10 (.slice ao n c) n (rcs R)) (hmax : n ≤ 2000000) :
    Calls Tryz.prog 8 #[.slice ao n c, .string m] W fun e W' => e = .returned (.slice ao n c) ∧ W'.ownsRow B 63 10 (.slice ao n c) n (rcs (List.replicate n (mkR m))) ∧ W.grownBy W' (Value.slice ao n c).ownBlock := by
  have hz63 : ∀ w, (zeroValue 63).run Tryz.prog w = .ok (.agg #[.bool false, .string ⟨#[]⟩, .int .u32 0, .int .u32 0, .int .u32 0, .int .u32 0, .int .u32 0, .int .u32 0, .int .u32 0, .int .u32 0]) w := fun w => by rw [Tryz.zeroValue63]
  have H0 : Hid (W.ownsRow B 63 10 (.slice ao n c) n (Y.fls (mkR m).cs 10 (rcs R) 0)) := hid (by rw [Y.fls_0]; exact hrow)
  have HL := hid hrow.1
  clear hrow
  go_enter Tryz.func8, Tryz.ntmps8
  go_upto_region 2 with fail
  go_loopw [5] (fun i wr => ∃ k : Nat, k ≤ n ∧ i = .int .i64 k ∧ wr.ownsRow B 63 10 (.slice ao n c) n (Y.fls (mkR m).cs 10 (rcs R) k) ∧ W.grownBy wr (Value.slice ao n c).ownBlock) (fun i _ => n - (intOf i).toNat)
  case atStart => exact ⟨0, Nat.zero_le _, rfl, H0.out, grow_refl _ _⟩
  case round =>
    clear H0
    obtain ⟨k, hk, rfl, hrow, hg⟩ := hrel
    have Y1 := hid hrow
    have G1 := hid hg
    clear hrow hg
    by_cases hlt : k < n
    · obtain ⟨g, rfl⟩ := Y.own_some Y1.out (by omega)
      have i3 : (k : Int) < (n : Int) := by omega
      have i4 : (k : Int) ≤ 2000000 := by omega
      have HK := hid hlt
      clear hk hlt
      go_wp2_with (first | (refine wpList_store_own rfl _ _ rfl size42 Y1.out k HK.out (mkR m).cs rfl (List.all_eq_true.1 (mkR m).one) rfl rfl ?_; intro w2 ho2 hb2; have Y2 : Hid (w2.ownsRow B 63 10 (.slice (some ⟨g, 0, none⟩) n c) n (Y.fls (mkR m).cs 10 (rcs R) (k + 1)) ∧ W.grownBy w2 (Value.slice (some ⟨g, 0, none⟩) n c).ownBlock) := hid ⟨by rw [Y.fls_succ (mkR m).cs 10 (rcs R) rfl k] at ho2; exact ho2, grow_but G1.out hb2 (.inl rfl)⟩; clear ho2 hb2 Y1 G1))
      go_roundw
      case rel => exact ⟨k + 1, HK.out, by go_num, Y2.out.1, Y2.out.2⟩
      case measure => have := HK.out; simp [intOf]; omega
    · obtain rfl : k = n := by omega
      have h2 := Y1.out
      rw [Y.fls_all (mkR m).cs 10 k (rcs R) HL.out, ← rcs_rep] at h2
      have Y2 := hid h2
      clear hk hlt h2
      go_wp2_with fail
      go_ret
      exact ⟨rfl, Y2.out, G1.out⟩
theorem rules_but {w w' : World} {g ga off : Nat} {R : List Rl} (h : RulesAt w (some ⟨ga, off, none⟩) R) (hb : But g w w') (hne : ga ≠ g) : RulesAt w' (some ⟨ga, off, none⟩) R := by
  rcases h with h | ⟨b, of2, e, hl, hra⟩
  · exact .inl h
  · cases e
    exact .inr ⟨ga, off, rfl, Nat.lt_of_lt_of_le hl hb.size, fun t r hr j v hv => (World.cell?_of_block (a := ⟨ga, off + t * 10 + j, none⟩) (hb.block ga hl hne)).trans (hra t r hr j v hv)⟩
theorem rules_less {w : World} {a : Option Addr} {r : Rl} {n m : Nat} (h : RulesAt w a (List.replicate m r)) (hnm : n ≤ m) : RulesAt w a (List.replicate n r) := by
  rcases h with h | ⟨b, off, e, hl, hra⟩
  · left
    have := congrArg List.length h
    simp at this
    have : n = 0 := by omega
    rw [this]; rfl
  · exact .inr ⟨b, off, e, hl, fun t x hx => hra t x (by
      rw [List.getElem?_replicate] at hx ⊢
      split at hx
      · rw [if_pos (by omega)]; exact hx
      · cases hx)⟩
structure GW (W : World) (B : Nat) (ao : Option Addr) (n c : Nat) (r : Rl) (k : Nat) (v : Value) (w : World) : Prop where
  own : w.ownsRow B 63 10 v (n + k) (rcs (List.replicate (n + k) r))
  ru : RulesAt w ao (List.replicate n r)
  gr : W.grownBy w (Value.slice ao n c).ownBlock
  ob : ∀ g, v.ownBlock = some g → some g = (Value.slice ao n c).ownBlock ∨ W.heap.size ≤ g
theorem GW.app {W : World} {B : Nat} {ao : Option Addr} {n c : Nat} {r : Rl} {k : Nat} {v v' : Value} {w w' : World} (hao : n = 0 ∨ ∃ g, ao = some ⟨g, 0, none⟩) (ml : r.ms.length = 8) (h : GW W B ao n c r k v w) (hB : B ≤ w.heap.size) (ha : Y.Two2 w w' B 63 10 v v' (n + k) 1 (rcs (List.replicate (n + k) r) ++ r.cs)) : GW W B ao n c r (k + 1) v' w' := by
  have e : rcs (List.replicate (n + k) r) ++ r.cs = rcs (List.replicate (n + (k + 1)) r) := by rw [← Nat.add_assoc, List.replicate_succ', rcs_snoc]
  rw [e] at ha
  rcases ha with ⟨g, cap, rfl, rfl, ho, hb⟩ | ⟨ho, hb⟩
  · have hob := h.ob g rfl
    refine ⟨ho, ?_, grow_but h.gr hb hob, fun g' hg' => by cases hg'; exact hob⟩
    rcases hao with h0 | ⟨ga, rfl⟩
    · exact .inl (by rw [h0]; rfl)
    · by_cases hga : ga = g
      · subst hga
        exact rules_less (m := n + (k + 1)) (own_rulesE (by rw [List.length_replicate]; exact ho) (fun x hx => by rw [List.eq_of_mem_replicate hx]; exact ml)) (by omega)
      · exact rules_but h.ru hb hga
  · exact ⟨L.own_mono ho hB, h.ru.on hb, grow_below h.gr hb, fun g hg => .inr (Nat.le_trans h.gr.size (ho.lt g hg).1)⟩
theorem GW.on {W : World} {B : Nat} {ao : Option Addr} {n c : Nat} {r : Rl} {k : Nat} {v : Value} {w w' : World} (h : GW W B ao n c r k v w) (hb : Below w.heap.size w w') : GW W B ao n c r k v w' := ⟨L.own_below h.own hb, h.ru.on hb, grow_below h.gr hb, h.ob⟩
theorem grown_any (W : World) (B : Nat) (ao : Option Addr) (n c : Nat) (m : ByteArray) (hrow : W.ownsRow B 63 10 (.slice ao n c) n (rcs (List.replicate n (mkR m)))) (hB : B ≤ W.heap.size) (hmax : n ≤ 2000000) :
    Calls Tryz.prog 9 #[.slice ao n c, .string m] W fun e W' => ∃ a2 c2, e = .returned (.slice a2 (n + 80) c2) ∧ RulesAt W' a2 (List.replicate (n + 80) (mkR m)) ∧ RulesAt W' ao (List.replicate n (mkR m)) ∧ W.grownBy W' (Value.slice ao n c).ownBlock ∧ (∀ g, (Value.slice a2 (n + 80) c2).ownBlock = some g → some g = (Value.slice ao n c).ownBlock ∨ W.heap.size ≤ g) := by
  have hz63 : ∀ w, (zeroValue 63).run Tryz.prog w = .ok (.agg #[.bool false, .string ⟨#[]⟩, .int .u32 0, .int .u32 0, .int .u32 0, .int .u32 0, .int .u32 0, .int .u32 0, .int .u32 0, .int .u32 0]) w := fun w => by rw [Tryz.zeroValue63]
  have Y0 : Hid (GW W B ao n c (mkR m) 0 (.slice ao n c) W) := hid ⟨hrow, own_rulesE (by rw [List.length_replicate]; exact hrow) (mk_ml n m), grow_refl _ _, fun g hg => .inl hg.symm⟩
  have HA : Hid (n = 0 ∨ ∃ g, ao = some ⟨g, 0, none⟩) := hid (by
    rcases Nat.eq_zero_or_pos n with h | h
    · exact .inl h
    · exact .inr (Y.own_some hrow h))
  clear hrow
  obtain ⟨r, hr⟩ : ∃ r, r = mkR m := ⟨_, rfl⟩
  go_enter Tryz.func9, Tryz.ntmps9
  go_upto_region 2 with fail
  go_loopw [0, 5] (fun sv i wr => ∃ (k : Nat) (v : Value), k ≤ 80 ∧ sv = v ∧ i = .int .i64 k ∧ GW W B ao n c (mkR m) k v wr) (fun _ i _ => 80 - (intOf i).toNat)
  case atStart => exact ⟨0, _, by decide, rfl, rfl, Y0.out⟩
  case round =>
    clear Y0
    obtain ⟨k, v, hk, rfl, rfl, hs⟩ := hrel
    have Y1 := hid hs
    clear hs
    obtain ⟨av, cv, rfl⟩ := L.own_form Y1.out.own
    have HBw := hid (Nat.le_trans hB Y1.out.gr.size)
    by_cases hlt : k < 80
    · have i3 : (k : Int) < 80 := by omega
      have HN := hid (show k + 1 ≤ 80 by omega)
      clear hk hlt
      go_wp2_with (at_builtin; refine Y.wpList_append_s rfl _ _ 22 63 rfl Tryz.underlying22 Tryz.info63 rfl (by decide) (by decide) rfl (L.own_below Y1.out.own (below_one _ _)) (by have := HBw.out; simp; omega) rfl rfl (Cel.lie (g := wr.heap.size) (e := 63) (cs := (mkR m).cs) (heap_alloc_new wr _)) (List.all_eq_true.1 (mkR m).one) (by have := HN.out; omega) ?_; intro v6 w6 hal; obtain ⟨aq, cq, rfl⟩ := Y.two_frm hal (by decide); have Y6 := hid ((Y1.out.on (below_one wr _)).app HA.out rfl (by have := HBw.out; simp; omega) hal); clear hal Y1)
      go_roundw
      case rel => exact ⟨k + 1, _, HN.out, rfl, by go_num, Y6.out⟩
      case measure => have := HN.out; simp [intOf]; omega
    · obtain rfl : k = 80 := by omega
      clear hk hlt
      go_wp2_with fail
      go_ret
      exact ⟨av, cv, rfl, own_rulesE (by rw [List.length_replicate]; exact Y1.out.own) (mk_ml _ m), Y1.out.ru, Y1.out.gr, Y1.out.ob⟩
theorem bears_any (W : World) (ao : Option Addr) (n c : Nat) (m : ByteArray) (h : RulesAt W ao (List.replicate n (mkR m))) (hmax : n ≤ 3000000) :
    Calls Tryz.prog 10 #[.slice ao n c, .string m] W fun e W' => e = .returned (.bool true) ∧ W' = W := by
  have HR := hid h
  clear h
  go_enter Tryz.func10, Tryz.ntmps10
  go_upto_region 2 with fail
  go_loopw [5] (fun i wr => ∃ k : Nat, k ≤ n ∧ i = .int .i64 k ∧ wr = W) (fun i _ => n - (intOf i).toNat)
  case atStart => exact ⟨0, Nat.zero_le _, rfl, rfl⟩
  case round =>
    obtain ⟨k, hk, rfl, rfl⟩ := hrel
    by_cases hlt : k < n
    · obtain ⟨b, off, rfl⟩ := rules_row HR.out (k := k) (by rw [List.length_replicate]; exact hlt)
      have hk1 : (List.replicate n (mkR m))[k]? = some (mkR m) := by rw [List.getElem?_replicate, if_pos hlt]
      have c1 : wr.cell? ⟨b, off + k * 10 + 1, none⟩ = some (.string m) := (rules_one HR.out hk1).2.1
      have i3 : (k : Int) < (n : Int) := by omega
      have i4 : (k : Int) ≤ 3000000 := by omega
      have HN := hid (show k + 1 ≤ n by omega)
      clear hk hlt hk1
      go_wp2_with fail
      go_roundw
      case rel => exact ⟨k + 1, HN.out, by go_num, by first | trivial | rfl⟩
      case measure => have := HN.out; simp [intOf]; omega
    · obtain rfl : k = n := by omega
      clear hk hlt
      go_wp2_with fail
      go_ret
      exact ⟨rfl, rfl⟩
end Go.Proofs.YtbpdmkohihgnjaaGreatDoor
namespace Go.Proofs.YtbpdmkohihgnjaaGreatDoor
open Go.RowKit
set_option maxHeartbeats 4000000
set_option maxRecDepth 100000
def flR : List Rl → List Rl
  | [] => []
  | r :: R => ⟨!r.al, r.nm, r.ms.set 7 (bits .xor .u32 (r.ms.getD 7 0) 1)⟩ :: R
theorem flR_len (R : List Rl) : (flR R).length = R.length := by cases R <;> rfl
theorem PQ.set {W : World} {g2 g3 : Nat} {v0 : Value} {ot : Bool} {gq n c : Nat} {C : List Value} {w : World} (h : PQ W g2 g3 v0 (.slice (some ⟨gq, 0, none⟩) n c) ot n C w) (j : Nat) (u : Value) : PQ W g2 g3 v0 (.slice (some ⟨gq, 0, none⟩) n c) ot n (C.set j u) (w.setCell ⟨gq, j, none⟩ u) :=
  ⟨Below.put h.bl (h.o.lt gq rfl).1 j u, h.c2.setO (fun e => own_ap h.o h.c2 (by decide) (by rw [e]; rfl)) j u, h.c3.setO (fun e => own_ap h.o h.c3 (by decide) (by rw [e]; rfl)) j u, Y.own_setc h.o j u, h.h2, h.h3, h.ne⟩
attribute [-simp] Tryz.isAgg24 Tryz.zeroValue24 Tryz.isAgg63 Tryz.zeroValue63
theorem turned_any (W : World) (ap : Option Addr) (n cp : Nat) (ot : Bool) (R : List Rl) (hn : R.length = n) (hr : RulesAt W ap R) (ml : ∀ r ∈ R, r.ms.length = 8) (hmax : n ≤ 2000000) :
    Calls Tryz.prog 12 #[.agg #[.slice ap n cp, .bool ot]] W fun e W' => ∃ a c, e = .returned (.agg #[.slice a n c, .bool (!ot)]) ∧ W'.ownsRow W.heap.size 63 10 (.slice a n c) n (rcs (flR R)) ∧ Below W.heap.size W W' := by
  have hz24 : ∀ w, (zeroValue 24).run Tryz.prog w = .ok (.agg #[.slice none 0 0, .bool false]) w := fun w => by rw [Tryz.zeroValue24]
  have hb24 : ∀ w, (Instr.build 24 #[(1, .bool (!ot))]).run Tryz.prog w = .ok (.agg #[.slice none 0 0, .bool (!ot)]) w := fun w => run_build w 24 _ _ (built24o (!ot))
  obtain ⟨X, hX⟩ : ∃ X, X = (W.alloc (Obj.cells #[.slice ap n cp, .bool ot] 24)).alloc (Obj.cells #[.slice none 0 0, .bool false] 24) := ⟨_, rfl⟩
  have HX : Hid (Below W.heap.size W X ∧ Cel X W.heap.size 24 [.slice ap n cp, .bool ot] ∧ Cel X (W.heap.size + 1) 24 [.slice none 0 0, .bool false] ∧ X.heap.size = W.heap.size + 1 + 1) := hid (by
    refine ⟨by rw [hX]; exact below_on (below_one W _) (below_one _ _), ?_, ?_, by rw [hX]; simp⟩
    · rw [hX]; exact Cel.on (heap_alloc_new _ _) (below_one _ _)
    · rw [hX]; exact heap_alloc_new' (by simp) _)
  have c1 : X.cell? ⟨W.heap.size, 1, none⟩ = some (.bool ot) := HX.out.2.1.cell 1
  have HRu := hid hr
  have HM := hid ml
  have HLn := hid (show (rcs R).length = n * 10 by rw [rcs_len ml, hn])
  obtain ⟨FR, hFR⟩ : ∃ F, F = rcs (flR R) := ⟨_, rfl⟩
  rw [← hFR]
  have HFR := hid hFR
  clear hr ml hFR
  generalize hno : (!ot) = no at *
  go_enter Tryz.func12, Tryz.ntmps12
  go_upto_region 1 with fail
  rw [← hX]
  clear hX
  go_upto_region 2 with (first | (refine wpList_store_st rfl 24 _ _ rfl X.heap.size [.slice none 0 0, .bool no] rfl rfl (heap_alloc_new X (.cells #[.slice none 0 0, .bool false] 24)) size36 rfl rfl ?_; intro w2 hc hb hs; have Y0 : Hid (PQ W (W.heap.size + 1) X.heap.size (.slice none 0 0) (.slice none 0 0) no 0 [] w2 ∧ Cel w2 W.heap.size 24 [.slice ap n cp, .bool ot]) := hid ⟨⟨below_on HX.out.1 (but_box hb), HX.out.2.2.1.on (but_box hb), hc, World.ownsRow_nil _ _ _ _, by omega, by rw [HX.out.2.2.2]; omega, by rw [HX.out.2.2.2]; omega⟩, HX.out.2.1.on (but_box hb)⟩; clear hc hb hs HX c1))
  generalize X.heap.size = g3 at *
  have c0 : w2.cell? ⟨W.heap.size, 0, none⟩ = some (.slice ap n cp) := Y0.out.2.cell 0
  have d0 : w2.cell? ⟨g3, 0, none⟩ = some (.slice none 0 0) := Y0.out.1.c3.cell 0
  go_upto_region 3 with (at_builtin; refine Y.wpList_append_s rfl _ _ 22 63 rfl Tryz.underlying22 Tryz.info63 rfl (by decide) (by decide) rfl Y0.out.1.o Y0.out.1.bl.size rfl HLn.out (rules_lie (HRu.out.on Y0.out.1.bl) HM.out) (rcs_one R) (by omega) ?_; intro v3 w3 hal; obtain ⟨ax, qx, rfl⟩ := Y.two_frm hal (by decide); have Y1 : Hid (PQ W (W.heap.size + 1) g3 (.slice none 0 0) (.slice ax n qx) no n (rcs R) w3) := hid (by have := Y0.out.1.app hal; simpa using this); have e0 : w3.cell? ⟨g3, 0, none⟩ = some (.slice none 0 0) := Y1.out.c3.cell 0; have e1 := Y1.out.c3.free 0; clear hal Y0 c0 d0)
  have Y2 := hid Y1.out.put
  clear Y1 e0 e1
  generalize World.setCell _ _ _ = w4 at *
  have f0 : w4.cell? ⟨g3, 0, none⟩ = some (.slice ax n qx) := Y2.out.c3.cell 0
  cases hRc : R with
  | nil =>
    have hn0 : n = 0 := by rw [← hn, hRc]; rfl
    have HF : Hid (FR = rcs R) := hid (by rw [HFR.out, hRc]; rfl)
    subst hn0
    clear hRc
    go_wp2_with (first | (refine wpList_load_mid rfl 24 _ rfl g3 0 rfl [.slice ax 0 qx, .bool no] _ (cel_range Y2.out.c3) Tryz.underlying24 rfl size36 ?_) | (refine wpList_store_st rfl 24 _ _ rfl (W.heap.size + 1) [.slice ax 0 qx, .bool no] rfl rfl Y2.out.c2 size36 rfl rfl ?_; intro w5 hc4 hb4 hs4; have Y4 := hid (Y2.out.fin hc4 hb4); clear hc4 hb4 hs4))
    refine ret_q1 rfl rfl (W.heap.size + 1) [.slice ax 0 qx, .bool no] rfl Y4.out.1 Tryz.underlying24 rfl size36 ?_
    exact ⟨ax, qx, rfl, by rw [HF.out]; exact Y4.out.2.2, Y4.out.2.1⟩
  | cons r R2 =>
    have hml := HM.out r (by rw [hRc]; exact List.mem_cons_self)
    have hn1 : R2.length + 1 = n := by rw [← hn, hRc]; rfl
    obtain ⟨al, nm, ms⟩ := r
    match ms, hml with
    | [a0, a1, a2, a3, a4, a5, a6, a7], _ =>
    have Y2' : Hid (PQ W (W.heap.size + 1) g3 (.slice ax n qx) (.slice ax n qx) no n (([.bool al, .string nm, .int .u32 a0, .int .u32 a1, .int .u32 a2, .int .u32 a3, .int .u32 a4, .int .u32 a5, .int .u32 a6, .int .u32 a7] : List Value) ++ rcs R2) w4) := hid (by have := Y2.out; rw [hRc] at this; exact this)
    have HFl : Hid (((([.bool al, .string nm, .int .u32 a0, .int .u32 a1, .int .u32 a2, .int .u32 a3, .int .u32 a4, .int .u32 a5, .int .u32 a6, .int .u32 a7] : List Value) ++ rcs R2).set 0 (.bool (!al))).set 9 (.int .u32 (bits .xor .u32 a7 1)) = FR) := hid (by rw [HFR.out, hRc]; rfl)
    clear Y2 hRc
    have Y2 := Y2'
    clear Y2'
    have i1 : (0 : Int) < (n : Int) := by omega
    obtain ⟨gq, rfl⟩ := Y.own_some Y2.out.o (by omega)
    clear HLn
    go_upto_region 4 with fail
    clear f0
    have Y3 := hid (Y2.out.on (Below.refl _ _).drew)
    clear Y2
    refine wp_region_held_drew (S := fun w => Cel w g3 24 [.slice (some ⟨gq, 0, none⟩) n qx, .bool no]) (by kernel_rfl) Y3.out.c3 (fun hHeld => ?_)
    generalize World.drew _ = wz at *
    refine tk 0 ⟨some 18, .fieldAddr 24 (.tmp 3) 0, 0, "law.go:156", #[], none⟩ (.pointer (some ⟨g3, 0, none⟩)) ?_
    simp only [Act.put, List.setIfInBounds_toArray, List.set_cons_zero, List.set_cons_succ]
    refine tk 1 ⟨some 19, .load 22 (.tmp 18), 22, "law.go:156", #[⟨0, .data⟩], none⟩ (.slice (some ⟨gq, 0, none⟩) n qx) ?_ (hy := Or.inl ⟨by rfl, by intro w hSw; have y0 : w.cell? ⟨g3, 0, none⟩ = some (.slice (some ⟨gq, 0, none⟩) n qx) := hSw.cell 0; go_simp⟩)
    simp only [Act.put, List.setIfInBounds_toArray, List.set_cons_zero, List.set_cons_succ]
    refine tk 2 ⟨some 20, .fieldAddr 24 (.tmp 3) 0, 0, "law.go:156", #[], none⟩ (.pointer (some ⟨g3, 0, none⟩)) ?_
    simp only [Act.put, List.setIfInBounds_toArray, List.set_cons_zero, List.set_cons_succ]
    refine tk 3 ⟨some 21, .load 22 (.tmp 20), 22, "law.go:156", #[⟨2, .data⟩], none⟩ (.slice (some ⟨gq, 0, none⟩) n qx) ?_ (hy := Or.inl ⟨by rfl, by intro w hSw; have y0 : w.cell? ⟨g3, 0, none⟩ = some (.slice (some ⟨gq, 0, none⟩) n qx) := hSw.cell 0; go_simp⟩)
    simp only [Act.put, List.setIfInBounds_toArray, List.set_cons_zero, List.set_cons_succ]
    refine tk 4 ⟨some 22, .indexAddr 22 (.tmp 21) (.const (.int .i64 0)), 0, "law.go:156", #[⟨3, .data⟩], none⟩ (.pointer (some ⟨gq, 0, none⟩)) ?_
    simp only [Act.put, List.setIfInBounds_toArray, List.set_cons_zero, List.set_cons_succ]
    refine tk 5 ⟨some 23, .fieldAddr 63 (.tmp 22) 0, 0, "law.go:156", #[⟨4, .data⟩], none⟩ (.pointer (some ⟨gq, 0, none⟩)) ?_
    simp only [Act.put, List.setIfInBounds_toArray, List.set_cons_zero, List.set_cons_succ]
    refine wpAnyH_ready (rs := [6]) (by kernel_rfl) (by simp) (AllReadyH.cons (o := ⟨some 24, .load 4 (.tmp 23), 4, "law.go:156", #[⟨5, .data⟩], none⟩) rfl (fun KQ hK => ?_) AllReadyH.nil)
    have y0 : (wz : World).cell? ⟨gq, 0, none⟩ = some (.bool al) := (Y.own_rng Y3.out.o) 0 _ rfl
    go_simp
    clear y0
    refine hK.out _ _ Y3.out.c3 (fun hHeld => ?_)
    clear hK KQ
    try simp only [Act.put, List.setIfInBounds_toArray, List.set_cons_zero, List.set_cons_succ]
    refine tk 7 ⟨some 25, .unOp .not 4 (.tmp 24), 4, "law.go:156", #[⟨6, .data⟩], none⟩ (.bool (!al)) ?_
    simp only [Act.put, List.setIfInBounds_toArray, List.set_cons_zero, List.set_cons_succ]
    refine tk 8 ⟨some 26, .indexAddr 22 (.tmp 19) (.const (.int .i64 0)), 0, "law.go:156", #[⟨1, .data⟩, ⟨0, .phase⟩, ⟨1, .phase⟩, ⟨2, .phase⟩, ⟨3, .phase⟩, ⟨4, .phase⟩, ⟨5, .phase⟩, ⟨6, .phase⟩, ⟨7, .phase⟩], none⟩ (.pointer (some ⟨gq, 0, none⟩)) ?_
    simp only [Act.put, List.setIfInBounds_toArray, List.set_cons_zero, List.set_cons_succ]
    refine tk 9 ⟨some 27, .fieldAddr 63 (.tmp 26) 0, 0, "law.go:156", #[⟨8, .data⟩, ⟨0, .phase⟩, ⟨1, .phase⟩, ⟨2, .phase⟩, ⟨3, .phase⟩, ⟨4, .phase⟩, ⟨5, .phase⟩, ⟨6, .phase⟩, ⟨7, .phase⟩], none⟩ (.pointer (some ⟨gq, 0, none⟩)) ?_
    simp only [Act.put, List.setIfInBounds_toArray, List.set_cons_zero, List.set_cons_succ]
    refine wpAnyH_ready (rs := [10]) (by kernel_rfl) (by simp) (AllReadyH.cons (o := ⟨none, .store 4 (.tmp 27) (.tmp 25), 0, "law.go:156", #[⟨9, .data⟩, ⟨7, .data⟩, ⟨0, .phase⟩, ⟨1, .phase⟩, ⟨2, .phase⟩, ⟨3, .phase⟩, ⟨4, .phase⟩, ⟨5, .phase⟩, ⟨6, .phase⟩, ⟨7, .phase⟩], none⟩) rfl (fun KQ hK => ?_) AllReadyH.nil)
    have y1 : (wz : World).cell? ⟨gq, 0, none⟩ = some (.bool al) := by have := (Y.own_rng Y3.out.o) 0 _ rfl; rwa [Nat.zero_add] at this
    have y2 := Y.own_free Y3.out.o 0
    go_simp
    clear y1 y2
    have Y4 := hid (Y3.out.set 0 (.bool (!al)))
    clear Y3
    refine hK.out _ _ Y4.out.c3 (fun hHeld => ?_)
    clear hK KQ
    try simp only [Act.put]
    refine wpAnyH_done (by kernel_rfl) ?_ _
    go_upto_region 5 with fail
    have Y5 := hid (Y4.out.on (Below.refl _ _).drew)
    clear Y4
    refine wp_region_held_drew (S := fun w => Cel w g3 24 [.slice (some ⟨gq, 0, none⟩) n qx, .bool no]) (by kernel_rfl) Y5.out.c3 (fun hHeld => ?_)
    generalize World.drew _ = wy at *
    refine tk 0 ⟨some 28, .fieldAddr 24 (.tmp 3) 0, 0, "law.go:157", #[], none⟩ (.pointer (some ⟨g3, 0, none⟩)) ?_
    simp only [Act.put, List.setIfInBounds_toArray, List.set_cons_zero, List.set_cons_succ]
    refine tk 1 ⟨some 29, .load 22 (.tmp 28), 22, "law.go:157", #[⟨0, .data⟩], none⟩ (.slice (some ⟨gq, 0, none⟩) n qx) ?_ (hy := Or.inl ⟨by rfl, by intro w hSw; have y0 : w.cell? ⟨g3, 0, none⟩ = some (.slice (some ⟨gq, 0, none⟩) n qx) := hSw.cell 0; go_simp⟩)
    simp only [Act.put, List.setIfInBounds_toArray, List.set_cons_zero, List.set_cons_succ]
    refine tk 2 ⟨some 30, .fieldAddr 24 (.tmp 3) 0, 0, "law.go:157", #[], none⟩ (.pointer (some ⟨g3, 0, none⟩)) ?_
    simp only [Act.put, List.setIfInBounds_toArray, List.set_cons_zero, List.set_cons_succ]
    refine tk 3 ⟨some 31, .load 22 (.tmp 30), 22, "law.go:157", #[⟨2, .data⟩], none⟩ (.slice (some ⟨gq, 0, none⟩) n qx) ?_ (hy := Or.inl ⟨by rfl, by intro w hSw; have y0 : w.cell? ⟨g3, 0, none⟩ = some (.slice (some ⟨gq, 0, none⟩) n qx) := hSw.cell 0; go_simp⟩)
    simp only [Act.put, List.setIfInBounds_toArray, List.set_cons_zero, List.set_cons_succ]
    refine tk 4 ⟨some 32, .indexAddr 22 (.tmp 31) (.const (.int .i64 0)), 0, "law.go:157", #[⟨3, .data⟩], none⟩ (.pointer (some ⟨gq, 0, none⟩)) ?_
    simp only [Act.put, List.setIfInBounds_toArray, List.set_cons_zero, List.set_cons_succ]
    refine tk 5 ⟨some 33, .fieldAddr 63 (.tmp 32) 2, 0, "law.go:157", #[⟨4, .data⟩], none⟩ (.pointer (some ⟨gq, 2, none⟩)) ?_
    simp only [Act.put, List.setIfInBounds_toArray, List.set_cons_zero, List.set_cons_succ]
    refine tk 6 ⟨some 34, .indexAddr 26 (.tmp 33) (.const (.int .i64 7)), 0, "law.go:157", #[⟨5, .data⟩], none⟩ (.pointer (some ⟨gq, 9, none⟩)) ?_
    simp only [Act.put, List.setIfInBounds_toArray, List.set_cons_zero, List.set_cons_succ]
    refine tk 9 ⟨some 37, .indexAddr 22 (.tmp 29) (.const (.int .i64 0)), 0, "law.go:157", #[⟨1, .data⟩], none⟩ (.pointer (some ⟨gq, 0, none⟩)) ?_
    simp only [Act.put, List.setIfInBounds_toArray, List.set_cons_zero, List.set_cons_succ]
    refine tk 10 ⟨some 38, .fieldAddr 63 (.tmp 37) 2, 0, "law.go:157", #[⟨9, .data⟩], none⟩ (.pointer (some ⟨gq, 2, none⟩)) ?_
    simp only [Act.put, List.setIfInBounds_toArray, List.set_cons_zero, List.set_cons_succ]
    refine wpAnyH_ready (rs := [7]) (by kernel_rfl) (by simp) (AllReadyH.cons (o := ⟨some 35, .load 25 (.tmp 34), 25, "law.go:157", #[⟨6, .data⟩], none⟩) rfl (fun KQ hK => ?_) AllReadyH.nil)
    have y0 : (wy : World).cell? ⟨gq, 9, none⟩ = some (.int .u32 a7) := by have := (Y.own_rng Y5.out.o) 9 _ rfl; rwa [Nat.zero_add] at this
    go_simp
    clear y0
    refine hK.out _ _ Y5.out.c3 (fun hHeld => ?_)
    clear hK KQ
    try simp only [Act.put, List.setIfInBounds_toArray, List.set_cons_zero, List.set_cons_succ]
    refine tk 8 ⟨some 36, .binOp .xor 25 (.tmp 35) (.const (.int .u32 1)) 25, 25, "law.go:157", #[⟨7, .data⟩], none⟩ (.int .u32 (bits .xor .u32 a7 1)) ?_
    simp only [Act.put, List.setIfInBounds_toArray, List.set_cons_zero, List.set_cons_succ]
    refine tk 11 ⟨some 39, .indexAddr 26 (.tmp 38) (.const (.int .i64 7)), 0, "law.go:157", #[⟨10, .data⟩, ⟨0, .phase⟩, ⟨1, .phase⟩, ⟨2, .phase⟩, ⟨3, .phase⟩, ⟨4, .phase⟩, ⟨5, .phase⟩, ⟨6, .phase⟩, ⟨7, .phase⟩, ⟨8, .phase⟩], none⟩ (.pointer (some ⟨gq, 9, none⟩)) ?_
    simp only [Act.put, List.setIfInBounds_toArray, List.set_cons_zero, List.set_cons_succ]
    refine wpAnyH_ready (rs := [12]) (by kernel_rfl) (by simp) (AllReadyH.cons (o := ⟨none, .store 25 (.tmp 39) (.tmp 36), 0, "law.go:157", #[⟨11, .data⟩, ⟨8, .data⟩, ⟨0, .phase⟩, ⟨1, .phase⟩, ⟨2, .phase⟩, ⟨3, .phase⟩, ⟨4, .phase⟩, ⟨5, .phase⟩, ⟨6, .phase⟩, ⟨7, .phase⟩, ⟨8, .phase⟩], none⟩) rfl (fun KQ hK => ?_) AllReadyH.nil)
    have y1 : (wy : World).cell? ⟨gq, 9, none⟩ = some (.int .u32 a7) := by have := (Y.own_rng Y5.out.o) 9 _ rfl; rwa [Nat.zero_add] at this
    have y2 := Y.own_free Y5.out.o 9
    go_simp
    clear y1 y2
    have Y6 := hid (Y5.out.set 9 (.int .u32 (bits .xor .u32 a7 1)))
    clear Y5
    refine hK.out _ _ Y6.out.c3 (fun hHeld => ?_)
    clear hK KQ
    try simp only [Act.put]
    refine wpAnyH_done (by kernel_rfl) ?_ _
    rw [HFl.out] at Y6
    go_wp2_with (first | (refine wpList_load_mid rfl 24 _ rfl g3 0 rfl [.slice (some ⟨gq, 0, none⟩) n qx, .bool no] _ (cel_range Y6.out.c3) Tryz.underlying24 rfl size36 ?_) | (refine wpList_store_st rfl 24 _ _ rfl (W.heap.size + 1) [.slice (some ⟨gq, 0, none⟩) n qx, .bool no] rfl rfl Y6.out.c2 size36 rfl rfl ?_; intro w9 hc4 hb4 hs4; have Y7 := hid (Y6.out.fin hc4 hb4); clear hc4 hb4 hs4))
    refine ret_q1 rfl rfl (W.heap.size + 1) [.slice (some ⟨gq, 0, none⟩) n qx, .bool no] rfl Y7.out.1 Tryz.underlying24 rfl size36 ?_
    exact ⟨some ⟨gq, 0, none⟩, qx, rfl, Y7.out.2.2, Y7.out.2.1⟩
end Go.Proofs.YtbpdmkohihgnjaaGreatDoor
namespace Go.Proofs.YtbpdmkohihgnjaaGreatDoor
open Go.RowKit
set_option maxHeartbeats 4000000
set_option maxRecDepth 100000
theorem built24q (b n c : Nat) (o : Nat) (ot : Bool) : Tryz.prog.built 24 [(0, .slice (some ⟨b, o, none⟩) n c), (1, .bool ot)] = some #[.slice (some ⟨b, o, none⟩) n c, .bool ot] := by kernel_rfl
attribute [-simp] Tryz.isAgg24 Tryz.zeroValue24 Tryz.isAgg63 Tryz.zeroValue63
theorem pieced_any (W : World) (gq n cq : Nat) (ot : Bool) (hc : n + 120 ≤ cq) (hmax : n ≤ 2000000) :
    Calls Tryz.prog 30 #[.agg #[.slice (some ⟨gq, 0, none⟩) (n + 120) cq, .bool ot]] W fun e W' => e = .returned (.agg #[.slice (some ⟨gq, 0, none⟩) n cq, .bool ot]) ∧ Below W.heap.size W W' := by
  have hz24 : ∀ w, (zeroValue 24).run Tryz.prog w = .ok (.agg #[.slice none 0 0, .bool false]) w := fun w => by rw [Tryz.zeroValue24]
  have hb24 : ∀ w, (Instr.build 24 #[(0, .slice (some ⟨gq, 0, none⟩) n cq), (1, .bool ot)]).run Tryz.prog w = .ok (.agg #[.slice (some ⟨gq, 0, none⟩) n cq, .bool ot]) w := fun w => run_build w 24 _ _ (built24q gq n cq 0 ot)
  obtain ⟨X, hX⟩ : ∃ X, X = (W.alloc (Obj.cells #[.slice (some ⟨gq, 0, none⟩) (n + 120) cq, .bool ot] 24)).alloc (Obj.cells #[.slice none 0 0, .bool false] 24) := ⟨_, rfl⟩
  have Y3 : Hid (Below W.heap.size W X.drew ∧ Cel X.drew W.heap.size 24 [.slice (some ⟨gq, 0, none⟩) (n + 120) cq, .bool ot] ∧ Cel X.drew (W.heap.size + 1) 24 [.slice none 0 0, .bool false]) := hid (by
    refine ⟨by rw [hX]; exact (below_on (below_one W _) (below_one _ _)).drew, ?_, ?_⟩
    · rw [hX]; exact Cel.on (Cel.on (heap_alloc_new _ _) (below_one _ _)) (Below.refl _ _).drew
    · rw [hX]; exact Cel.on (heap_alloc_new' (by simp) _) (Below.refl _ _).drew)
  have i1 : (n : Int) ≤ 2000000 := by omega
  have i2 : (n : Int) + 120 ≤ (cq : Int) := by omega
  have i3 : (n : Int) ≤ (cq : Int) := by omega
  have i4 : n ≤ cq := by omega
  have hw := wrap_om (n : Int) (by omega) (by omega)
  go_enter Tryz.func30, Tryz.ntmps30
  go_upto_region 1 with fail
  rw [← hX]
  clear hX
  refine wp_region_held_drew (S := fun w => Cel w W.heap.size 24 [.slice (some ⟨gq, 0, none⟩) (n + 120) cq, .bool ot]) (by kernel_rfl) Y3.out.2.1 (fun hHeld => ?_)
  generalize World.drew _ = wz at *
  refine tk 0 ⟨some 3, .fieldAddr 24 (.tmp 1) 0, 0, "law.go:66", #[], none⟩ (.pointer (some ⟨W.heap.size, 0, none⟩)) ?_
  simp only [Act.put, List.setIfInBounds_toArray, List.set_cons_zero, List.set_cons_succ]
  refine tk 1 ⟨some 4, .load 22 (.tmp 3), 22, "law.go:66", #[⟨0, .data⟩], none⟩ (.slice (some ⟨gq, 0, none⟩) (n + 120) cq) ?_ (hy := Or.inl ⟨by rfl, by intro w hSw; have y0 : w.cell? ⟨W.heap.size, 0, none⟩ = some (.slice (some ⟨gq, 0, none⟩) (n + 120) cq) := hSw.cell 0; go_simp⟩)
  simp only [Act.put, List.setIfInBounds_toArray, List.set_cons_zero, List.set_cons_succ]
  refine tk 2 ⟨some 5, .fieldAddr 24 (.tmp 1) 0, 0, "law.go:66", #[], none⟩ (.pointer (some ⟨W.heap.size, 0, none⟩)) ?_
  simp only [Act.put, List.setIfInBounds_toArray, List.set_cons_zero, List.set_cons_succ]
  refine tk 3 ⟨some 6, .load 22 (.tmp 5), 22, "law.go:66", #[⟨2, .data⟩], none⟩ (.slice (some ⟨gq, 0, none⟩) (n + 120) cq) ?_ (hy := Or.inl ⟨by rfl, by intro w hSw; have y0 : w.cell? ⟨W.heap.size, 0, none⟩ = some (.slice (some ⟨gq, 0, none⟩) (n + 120) cq) := hSw.cell 0; go_simp⟩)
  simp only [Act.put, List.setIfInBounds_toArray, List.set_cons_zero, List.set_cons_succ]
  refine tk 4 ⟨some 7, .call { callee := .builtin .len, args := #[.tmp 6], argTypes := #[22] }, 3, "law.go:66", #[⟨3, .data⟩], none⟩ (.int .i64 ((n : Int) + 120)) ?_
  simp only [Act.put, List.setIfInBounds_toArray, List.set_cons_zero, List.set_cons_succ]
  refine tk 5 ⟨some 8, .binOp .sub 3 (.tmp 7) (.const (.int .i64 120)) 3, 3, "law.go:66", #[⟨4, .data⟩], none⟩ (.int .i64 (n : Int)) ?_
  simp only [Act.put, List.setIfInBounds_toArray, List.set_cons_zero, List.set_cons_succ]
  refine tk 6 ⟨some 9, .slice 22 (.tmp 4) none (some (.tmp 8)) none, 22, "law.go:66", #[⟨1, .data⟩, ⟨5, .data⟩], none⟩ (.slice (some ⟨gq, 0, none⟩) n cq) ?_
  simp only [Act.put, List.setIfInBounds_toArray, List.set_cons_zero, List.set_cons_succ]
  refine tk 7 ⟨some 10, .fieldAddr 24 (.tmp 1) 1, 0, "law.go:66", #[], none⟩ (.pointer (some ⟨W.heap.size, 1, none⟩)) ?_
  simp only [Act.put, List.setIfInBounds_toArray, List.set_cons_zero, List.set_cons_succ]
  refine tk 8 ⟨some 11, .load 4 (.tmp 10), 4, "law.go:66", #[⟨7, .data⟩], none⟩ (.bool ot) ?_ (hy := Or.inl ⟨by rfl, by intro w hSw; have y0 : w.cell? ⟨W.heap.size, 1, none⟩ = some (.bool ot) := hSw.cell 1; go_simp⟩)
  simp only [Act.put, List.setIfInBounds_toArray, List.set_cons_zero, List.set_cons_succ]
  refine tk 9 ⟨some 12, .build 24 #[(0, .tmp 9), (1, .tmp 11)], 24, "law.go:66", #[⟨6, .data⟩, ⟨8, .data⟩], none⟩ (.agg #[.slice (some ⟨gq, 0, none⟩) n cq, .bool ot]) ?_
  simp only [Act.put, List.setIfInBounds_toArray, List.set_cons_zero, List.set_cons_succ]
  refine wpAnyH_ready (rs := [10]) (by kernel_rfl) (by simp) (AllReadyH.cons (o := ⟨none, .store 24 (.tmp 2) (.tmp 12), 0, "law.go:66", #[⟨9, .data⟩, ⟨0, .phase⟩, ⟨1, .phase⟩, ⟨2, .phase⟩, ⟨3, .phase⟩, ⟨4, .phase⟩, ⟨5, .phase⟩, ⟨6, .phase⟩, ⟨7, .phase⟩, ⟨8, .phase⟩, ⟨9, .phase⟩], none⟩) rfl (fun KQ hK => ?_) AllReadyH.nil)
  rw [if_pos (by rfl)]
  refine wp_store_st 24 _ _ rfl (W.heap.size + 1) [.slice (some ⟨gq, 0, none⟩) n cq, .bool ot] rfl rfl Y3.out.2.2 size36 rfl rfl ?_
  intro w5 hc5 hb5 hs5
  have Y4 : Hid (Cel w5 (W.heap.size + 1) 24 [.slice (some ⟨gq, 0, none⟩) n cq, .bool ot] ∧ Below W.heap.size W w5 ∧ Cel w5 W.heap.size 24 [.slice (some ⟨gq, 0, none⟩) (n + 120) cq, .bool ot]) := hid ⟨hc5, Y3.out.1.trans (hb5.below (by omega) Y3.out.1.size), Y3.out.2.1.but hb5 (by omega)⟩
  clear hc5 hb5 hs5 Y3
  refine hK.out _ _ Y4.out.2.2 (fun hHeld => ?_)
  clear hK KQ
  try simp only [Act.put]
  refine wpAnyH_done (by kernel_rfl) ?_ _
  go_wp2_with fail
  refine ret_q1 rfl rfl (W.heap.size + 1) [.slice (some ⟨gq, 0, none⟩) n cq, .bool ot] rfl Y4.out.1 Tryz.underlying24 rfl size36 ?_
  exact ⟨rfl, Y4.out.2.1⟩
structure K40 (W : World) (aq : Option Addr) (cq : Nat) (ap : Option Addr) (cp n : Nat) (ot : Bool) (w : World) : Prop where
  bl : Below W.heap.size W w
  p1 : Cel w W.heap.size 24 [.slice aq (n + 120) cq, .bool ot]
  p2 : Cel w (W.heap.size + 1) 24 [.slice ap n cp, .bool ot]
theorem K40.on {W : World} {aq : Option Addr} {cq : Nat} {ap : Option Addr} {cp n : Nat} {ot : Bool} {w w' : World} (h : K40 W aq cq ap cp n ot w) (hb : Below w.heap.size w w') : K40 W aq cq ap cp n ot w' := ⟨below_on h.bl hb, h.p1.on hb, h.p2.on hb⟩
theorem sp_at (R : List Rl) {k : Nat} (h1 : R.length ≤ k) (h2 : k < R.length + 120) : (R ++ List.replicate 120 spR)[k]? = some spR := by
  rw [List.getElem?_append_right h1, List.getElem?_replicate, if_pos (by omega)]
attribute [-go_sem] run_equalIn_agg
theorem kept_any (W : World) (gq oq cq : Nat) (ap : Option Addr) (n cp : Nat) (ot : Bool) (R : List Rl) (hn : R.length = n) (h1 : RulesAt W (some ⟨gq, oq, none⟩) (R ++ List.replicate 120 spR)) (h2 : RulesAt W ap R) (ml : ∀ r ∈ R, r.ms.length = 8) (hmax : n ≤ 2000000) :
    Calls Tryz.prog 40 #[.agg #[.slice (some ⟨gq, oq, none⟩) (n + 120) cq, .bool ot], .agg #[.slice ap n cp, .bool ot]] W fun e W' => e = .returned (.bool true) ∧ Below W.heap.size W W' := by
  obtain ⟨X, hX⟩ : ∃ X, X = (W.alloc (Obj.cells #[.slice (some ⟨gq, oq, none⟩) (n + 120) cq, .bool ot] 24)).alloc (Obj.cells #[.slice ap n cp, .bool ot] 24) := ⟨_, rfl⟩
  have Y0 : Hid (K40 W (some ⟨gq, oq, none⟩) cq ap cp n ot X) := hid (by
    refine ⟨by rw [hX]; exact below_on (below_one W _) (below_one _ _), ?_, ?_⟩
    · rw [hX]; exact Cel.on (heap_alloc_new _ _) (below_one _ _)
    · rw [hX]; exact heap_alloc_new' (by simp) _)
  have hz63 : ∀ w, (zeroValue 63).run Tryz.prog w = .ok (.agg #[.bool false, .string ⟨#[]⟩, .int .u32 0, .int .u32 0, .int .u32 0, .int .u32 0, .int .u32 0, .int .u32 0, .int .u32 0, .int .u32 0]) w := fun w => by rw [Tryz.zeroValue63]
  have hb63 : ∀ w, (Instr.build 63 #[(1, .string ⟨#[115, 112, 97, 114, 101]⟩)]).run Tryz.prog w = .ok (.agg #[.bool false, .string ⟨#[115, 112, 97, 114, 101]⟩, .int .u32 0, .int .u32 0, .int .u32 0, .int .u32 0, .int .u32 0, .int .u32 0, .int .u32 0, .int .u32 0]) w := fun w => run_build w 63 _ _ built63s
  have H1 := hid h1
  have H2 := hid h2
  have HM := hid ml
  clear h1 h2 ml
  go_enter Tryz.func40, Tryz.ntmps40
  go_upto_region 2 with fail
  rw [← hX]
  clear hX
  go_loopw [5] (fun i wr => ∃ k : Nat, k ≤ n ∧ i = .int .i64 k ∧ K40 W (some ⟨gq, oq, none⟩) cq ap cp n ot wr) (fun i _ => n - (intOf i).toNat)
  case atStart => exact ⟨0, Nat.zero_le _, rfl, Y0.out⟩
  case round =>
    clear Y0
    obtain ⟨k, hk, rfl, hs⟩ := hrel
    have Y1 := hid hs
    clear hs
    have d0 : wr.cell? ⟨W.heap.size + 1, 0, none⟩ = some (.slice ap n cp) := Y1.out.p2.cell 0
    by_cases hlt : k < n
    · have hkR : k < R.length := by omega
      obtain ⟨b2, o2, rfl⟩ := rules_row H2.out hkR
      have hRk : R[k]? = some R[k] := List.getElem?_eq_getElem hkR
      have hml := HM.out _ (List.getElem_mem hkR)
      have hRs : (R ++ List.replicate 120 spR)[k]? = some R[k] := by rw [List.getElem?_append_left hkR]; exact hRk
      generalize R[k] = r at *
      have hlr := r.len hml
      have HC1 := hid (fun (w : World) (h : Below W.heap.size W w) => rules_at (H1.out.on h) hRs)
      have HC2 := hid (fun (w : World) (h : Below W.heap.size W w) => rules_at (H2.out.on h) hRk)
      have HML := hid hml
      have i3 : (k : Int) < (n : Int) := by omega
      have i4 : (k : Int) ≤ 2000000 := by omega
      have i5 : (k : Int) < (n : Int) + 120 := by omega
      have HN := hid (show k + 1 ≤ n by omega)
      clear hRk hRs hml hkR hlt
      go_upto_region 4 with fail
      clear d0
      have Y3 := hid (Y1.out.on (Below.refl _ _).drew)
      clear Y1
      refine wp_region_held_drew (S := fun w => K40 W (some ⟨gq, oq, none⟩) cq (some ⟨b2, o2, none⟩) cp n ot w) (by kernel_rfl) Y3.out (fun hHeld => ?_)
      generalize World.drew _ = wz at *
      refine tk 0 ⟨some 14, .fieldAddr 24 (.tmp 2) 0, 0, "law.go:52", #[], none⟩ (.pointer (some ⟨W.heap.size, 0, none⟩)) ?_
      simp only [Act.put, List.setIfInBounds_toArray, List.set_cons_zero, List.set_cons_succ]
      refine tk 1 ⟨some 15, .load 22 (.tmp 14), 22, "law.go:52", #[⟨0, .data⟩], none⟩ (.slice (some ⟨gq, oq, none⟩) (n + 120) cq) ?_ (hy := Or.inl ⟨by rfl, by intro w hSw; have hc : w.cell? ⟨W.heap.size, 0, none⟩ = some (.slice (some ⟨gq, oq, none⟩) (n + 120) cq) := hSw.p1.cell 0; go_simp⟩)
      simp only [Act.put, List.setIfInBounds_toArray, List.set_cons_zero, List.set_cons_succ]
      refine tk 2 ⟨some 16, .move (.tmp 5), 3, "law.go:52", #[], none⟩ (.int .i64 (k : Int)) ?_
      simp only [Act.put, List.setIfInBounds_toArray, List.set_cons_zero, List.set_cons_succ]
      refine tk 3 ⟨some 17, .indexAddr 22 (.tmp 15) (.tmp 16), 0, "law.go:52", #[⟨1, .data⟩, ⟨2, .data⟩], none⟩ (.pointer (some ⟨gq, oq + k * 10, none⟩)) ?_
      simp only [Act.put, List.setIfInBounds_toArray, List.set_cons_zero, List.set_cons_succ]
      refine tk 4 ⟨some 18, .load 63 (.tmp 17), 63, "law.go:52", #[⟨3, .data⟩], none⟩ (.agg r.cs.toArray) ?_ (hy := yieldsIf_load_mid (by rfl) _ _ rfl _ _ rfl _ _ (fun w hSw => HC1.out w hSw.bl) Tryz.underlying63 rfl (by rw [hlr]; exact size42))
      simp only [Act.put, List.setIfInBounds_toArray, List.set_cons_zero, List.set_cons_succ]
      refine tk 5 ⟨some 19, .fieldAddr 24 (.tmp 3) 0, 0, "law.go:52", #[], none⟩ (.pointer (some ⟨W.heap.size + 1, 0, none⟩)) ?_
      simp only [Act.put, List.setIfInBounds_toArray, List.set_cons_zero, List.set_cons_succ]
      refine tk 6 ⟨some 20, .load 22 (.tmp 19), 22, "law.go:52", #[⟨5, .data⟩], none⟩ (.slice (some ⟨b2, o2, none⟩) n cp) ?_ (hy := Or.inl ⟨by rfl, by intro w hSw; have hc : w.cell? ⟨W.heap.size + 1, 0, none⟩ = some (.slice (some ⟨b2, o2, none⟩) n cp) := hSw.p2.cell 0; go_simp⟩)
      simp only [Act.put, List.setIfInBounds_toArray, List.set_cons_zero, List.set_cons_succ]
      refine tk 7 ⟨some 21, .move (.tmp 5), 3, "law.go:52", #[], none⟩ (.int .i64 (k : Int)) ?_
      simp only [Act.put, List.setIfInBounds_toArray, List.set_cons_zero, List.set_cons_succ]
      refine tk 8 ⟨some 22, .indexAddr 22 (.tmp 20) (.tmp 21), 0, "law.go:52", #[⟨6, .data⟩, ⟨7, .data⟩], none⟩ (.pointer (some ⟨b2, o2 + k * 10, none⟩)) ?_
      simp only [Act.put, List.setIfInBounds_toArray, List.set_cons_zero, List.set_cons_succ]
      refine tk 9 ⟨some 23, .load 63 (.tmp 22), 63, "law.go:52", #[⟨8, .data⟩], none⟩ (.agg r.cs.toArray) ?_ (hy := yieldsIf_load_mid (by rfl) _ _ rfl _ _ rfl _ _ (fun w hSw => HC2.out w hSw.bl) Tryz.underlying63 rfl (by rw [hlr]; exact size42))
      simp only [Act.put, List.setIfInBounds_toArray, List.set_cons_zero, List.set_cons_succ]
      refine tk 10 ⟨some 24, .binOp .neq 63 (.tmp 18) (.tmp 23) 63, 4, "law.go:52", #[⟨4, .data⟩, ⟨9, .data⟩], none⟩ (.bool false) ?_ (hy := Or.inl ⟨by rfl, by intro w hSw; have hq := eq42 w r HML.out; go_simp⟩)
      simp only [Act.put, List.setIfInBounds_toArray, List.set_cons_zero, List.set_cons_succ]
      refine wpAnyH_done (by kernel_rfl) ?_ _
      have y0 : wz.cell? ⟨W.heap.size + 1, 0, none⟩ = some (.slice (some ⟨b2, o2, none⟩) n cp) := Y3.out.p2.cell 0
      go_wp2_with fail
      go_roundw
      case rel => exact ⟨k + 1, HN.out, by go_num, Y3.out⟩
      case measure => have := HN.out; simp [intOf]; omega
    · obtain rfl : k = n := by omega
      clear hk hlt
      go_upto_region 7 with fail
      clear d0
      go_loopw [6] (fun i wr => ∃ j : Nat, j ≤ 120 ∧ i = .int .i64 ((k + j : Nat) : Int) ∧ K40 W (some ⟨gq, oq, none⟩) cq ap cp k ot wr) (fun i _ => k + 120 - (intOf i).toNat)
      case atStart => exact ⟨0, by decide, rfl, Y1.out⟩
      case round =>
        clear Y1
        obtain ⟨j, hj, rfl, hs⟩ := hrel
        have Y1 := hid hs
        clear hs
        have d0 : wr.cell? ⟨W.heap.size, 0, none⟩ = some (.slice (some ⟨gq, oq, none⟩) (k + 120) cq) := Y1.out.p1.cell 0
        by_cases hlt : j < 120
        · have HS := hid (rules_at (H1.out.on Y1.out.bl) (sp_at R (k := k + j) (by omega) (by omega)))
          have i3 : (k : Int) + (j : Int) < (k : Int) + 120 := by omega
          have i4 : (k : Int) + (j : Int) ≤ 3000000 := by omega
          have HN := hid (show j + 1 ≤ 120 by omega)
          have hq : ∀ w, (Op.equalIn 10000 63 (.agg spR.cs.toArray) (.agg #[.bool false, .string ⟨#[115, 112, 97, 114, 101]⟩, .int .u32 0, .int .u32 0, .int .u32 0, .int .u32 0, .int .u32 0, .int .u32 0, .int .u32 0, .int .u32 0])).run Tryz.prog w = .ok true w := fun w => eq42 w spR rfl
          clear hj hlt
          go_wp2_with (first | (refine wpList_load_mid rfl 63 _ rfl gq (oq + (k + j) * 10) rfl spR.cs _ HS.out Tryz.underlying63 rfl size42 ?_))
          go_roundw
          case rel => exact ⟨j + 1, HN.out, by push_cast; go_num, Y1.out⟩
          case measure => have := HN.out; simp [intOf]; omega
        · obtain rfl : j = 120 := by omega
          clear hj hlt
          go_wp2_with fail
          go_ret
          exact ⟨rfl, Y1.out.bl⟩
end Go.Proofs.YtbpdmkohihgnjaaGreatDoor
