import Derived.Test.YtdfnbcbnmiohnaaGreatDoorP29
import Derived.Test.YtdfnbcbnmiohnaaGreatDoorP01
import Derived.MapKept
namespace Go.Proofs.YtdfnbcbnmiohnaaGreatDoor
open Go.RowKit
set_option maxRecDepth 100000
set_option maxHeartbeats 4000000
def fnv (k : Nat) : Value := .func (.func k) #[] #[]
theorem underM : Tryz.prog.underlying 124 = some (.map 27 123) := by kernel_rfl
theorem underK : Tryz.prog.underlying 27 = some (.int .i64) := by kernel_rfl
theorem upd_run (w : World) (r clk : Nat) (es : Array MapEntry) (k : Int) (v : Value) (hb : w.heap[r]? = some (.map es clk)) (hf : Instr.findNow (.int .i64) (.int .i64 k) es.toList 0 = some none) :
    (Instr.mapUpdate 124 (.map (some r)) (.int .i64 k) v).run Tryz.prog w = .ok () { w with heap := w.heap.setIfInBounds r (.map (es.push { key := .int .i64 k, val := v, born := clk }) (clk + 1)) } := by
  have hc : (Instr.checkKey false 10000 27 (.int .i64 k)).run Tryz.prog w = .ok () w := MapKept.run_checkKey (k := .int .i64 k) underK (by simp [MapKept.IsKey]) false 9999
  simp [Instr.mapUpdate, run_underlying underM, MapKept.run_getObj_map hb, hc, MapKept.run_findKey underK hf, MapKept.run_setObj_map _ hb, Result.andThen]
theorem look_run (w : World) (r clk : Nat) (es : Array MapEntry) (k : Int) (v : Value) (i : Nat) (hb : w.heap[r]? = some (.map es clk)) (hf : Instr.findNow (.int .i64) (.int .i64 k) es.toList 0 = some (some (i, v))) :
    (Instr.lookup 124 (.map (some r)) (.int .i64 k) false).run Tryz.prog w = .ok v w := by
  have hc : ∀ b, (Instr.checkKey b 10000 27 (.int .i64 k)).run Tryz.prog w = .ok () w := fun b => MapKept.run_checkKey (k := .int .i64 k) underK (by simp [MapKept.IsKey]) b 9999
  simp [Instr.lookup, run_underlying underM, MapKept.run_getObj_map hb, hc, MapKept.run_findKey underK hf, Result.andThen]
theorem heap_ins {w : World} {r : Nat} {o o' : Obj} (hb : w.heap[r]? = some o) : ({ w with heap := w.heap.setIfInBounds r o' } : World).heap[r]? = some o' ∧ ButL [r] w { w with heap := w.heap.setIfInBounds r o' } :=
  ⟨(MapKept.heap_set hb).1, rfl, rfl, rfl, by simp, fun k _ hk => (MapKept.heap_set hb).2 k (fun e => hk (by simp [e]))⟩
theorem wpList_ins {ops : Array Oper} {rest : List Oper} {o : Oper} {a : Act} {w : World} {Q : Exit → Act → World → Prop} (hgd : o.guard = none) (m x v : Operand) (ho : o.op = .insert 124 m x v)
    (g clk : Nat) (es : Array MapEntry) (k : Int) (y : Value) (hm : a.eval m = .map (some g)) (hx : a.eval x = .int .i64 k) (hy : a.eval v = y) (hb : w.heap[g]? = some (.map es clk)) (hf : Instr.findNow (.int .i64) (.int .i64 k) es.toList 0 = some none)
    (hK : ∀ w', w'.heap[g]? = some (.map (es.push { key := .int .i64 k, val := y, born := clk }) (clk + 1)) → ButL [g] w w' → wpList Tryz.prog ops Q rest (a.put o.dst undef) w') : wpList Tryz.prog ops Q (o :: rest) a w := by
  refine wpList_plain hgd fun K' hK' => ?_
  have hr := upd_run w g clk es k y hb hf
  unfold Oper.wp
  simp [execOp, ho, hm, hx, hy, hr, Result.andThen]
  have := heap_ins (o' := .map (es.push { key := .int .i64 k, val := y, born := clk }) (clk + 1)) hb
  exact hK' _ _ (hK _ this.1 this.2)
def rulE (k : Int) (f n : Nat) : MapEntry := { key := .int .i64 k, val := fnv f, born := n }
def rul : Array MapEntry := #[rulE 0 114 0, rulE 1 115 1, rulE 2 116 2, rulE 3 116 3, rulE 4 116 4, rulE 5 116 5, rulE 6 117 6]
theorem rules_any (W : World) : Calls Tryz.prog 69 #[] W fun e W' => ∃ g, e = .returned (.map (some g)) ∧ W'.heap[g]? = some (.map rul 7) ∧ Below W.heap.size W W' := by
  have hmm := @run_makeMap Tryz.prog
  have h0 := hid (And.intro (heap_alloc_new W (.map #[] 0)) (below_one W (.map #[] 0)))
  go_enter Tryz.func69, Tryz.ntmps69
  go_upto_region 1 with fail
  go_wp2_with (first
    | (revert h0; intro h0; refine wpList_ins rfl _ _ _ rfl W.heap.size 0 #[] 0 (fnv 114) rfl rfl rfl h0.out.1 rfl ?_; intro w1 hh hb; have h1 := hid (And.intro hh (h0.out.2.trans (hb.below (by simp) h0.out.2.size))); clear hh hb h0)
    | (revert h1; intro h1; refine wpList_ins rfl _ _ _ rfl W.heap.size 1 #[rulE 0 114 0] 1 (fnv 115) rfl rfl rfl h1.out.1 rfl ?_; intro w2 hh hb; have h2 := hid (And.intro hh (h1.out.2.trans (hb.below (by simp) h1.out.2.size))); clear hh hb h1)
    | (revert h2; intro h2; refine wpList_ins rfl _ _ _ rfl W.heap.size 2 #[rulE 0 114 0, rulE 1 115 1] 2 (fnv 116) rfl rfl rfl h2.out.1 rfl ?_; intro w3 hh hb; have h3 := hid (And.intro hh (h2.out.2.trans (hb.below (by simp) h2.out.2.size))); clear hh hb h2)
    | (revert h3; intro h3; refine wpList_ins rfl _ _ _ rfl W.heap.size 3 #[rulE 0 114 0, rulE 1 115 1, rulE 2 116 2] 3 (fnv 116) rfl rfl rfl h3.out.1 rfl ?_; intro w4 hh hb; have h4 := hid (And.intro hh (h3.out.2.trans (hb.below (by simp) h3.out.2.size))); clear hh hb h3)
    | (revert h4; intro h4; refine wpList_ins rfl _ _ _ rfl W.heap.size 4 #[rulE 0 114 0, rulE 1 115 1, rulE 2 116 2, rulE 3 116 3] 4 (fnv 116) rfl rfl rfl h4.out.1 rfl ?_; intro w5 hh hb; have h5 := hid (And.intro hh (h4.out.2.trans (hb.below (by simp) h4.out.2.size))); clear hh hb h4)
    | (revert h5; intro h5; refine wpList_ins rfl _ _ _ rfl W.heap.size 5 #[rulE 0 114 0, rulE 1 115 1, rulE 2 116 2, rulE 3 116 3, rulE 4 116 4] 5 (fnv 116) rfl rfl rfl h5.out.1 rfl ?_; intro w6 hh hb; have h6 := hid (And.intro hh (h5.out.2.trans (hb.below (by simp) h5.out.2.size))); clear hh hb h5)
    | (revert h6; intro h6; refine wpList_ins rfl _ _ _ rfl W.heap.size 6 #[rulE 0 114 0, rulE 1 115 1, rulE 2 116 2, rulE 3 116 3, rulE 4 116 4, rulE 5 116 5] 6 (fnv 117) rfl rfl rfl h6.out.1 rfl ?_; intro w7 hh hb; have h7 := hid (And.intro hh (h6.out.2.trans (hb.below (by simp) h6.out.2.size))); clear hh hb h6)
    )
  go_returns
  exact ⟨_, rfl, h7.out.1, h7.out.2⟩
theorem asFree_any (W : World) (g : Nat) (t o r s : Int) (e : Bool) : Calls Tryz.prog 114 #[.agg #[ptr g, .int .i64 t, .int .i64 o, .int .i64 r, .int .i64 s, .bool e]] W fun x W' => x = .returned (.int .u32 23) ∧ Below W.heap.size W W' := by
  simp only [ptr]
  go_enter Tryz.func114, Tryz.ntmps114
  go_wp2_with fail
  go_ret
  exact ⟨rfl, below_one _ _⟩
theorem asSpare_any (W : World) (g : Nat) (t o r s : Int) (e : Bool) : Calls Tryz.prog 117 #[.agg #[ptr g, .int .i64 t, .int .i64 o, .int .i64 r, .int .i64 s, .bool e]] W fun x W' => x = .returned (.int .u32 0) ∧ Below W.heap.size W W' := by
  simp only [ptr]
  go_enter Tryz.func117, Tryz.ntmps117
  go_wp2_with fail
  go_ret
  exact ⟨rfl, below_one _ _⟩
def spcC (s r : Int) : Int := if s = 3 then (if 0 < r then 14 else 0) else 8
theorem asSpace_any (W : World) (g : Nat) (t o r s : Int) (e : Bool) : Calls Tryz.prog 115 #[.agg #[ptr g, .int .i64 t, .int .i64 o, .int .i64 r, .int .i64 s, .bool e]] W fun x W' => x = .returned (.int .u32 (spcC s r)) ∧ Below W.heap.size W W' := by
  unfold spcC
  simp only [ptr]
  by_cases hs : s = 3
  · subst hs
    rw [if_pos rfl]
    by_cases hr : 0 < r
    · rw [if_pos hr]
      go_enter Tryz.func115, Tryz.ntmps115
      go_wp2_with fail
      go_ret
      exact ⟨rfl, below_one _ _⟩
    · rw [if_neg hr]
      go_enter Tryz.func115, Tryz.ntmps115
      go_wp2_with fail
      go_ret
      exact ⟨rfl, below_one _ _⟩
  · rw [if_neg hs]
    have hs' : (s != 3) = true := by simpa using hs
    clear hs
    go_enter Tryz.func115, Tryz.ntmps115
    go_wp2_with fail
    go_ret
    exact ⟨rfl, below_one _ _⟩
def prtC (s : Int) : Int := if s = 3 then 0 else 8
theorem asPart_any (W : World) (p : Dp) (d : DS) (h : DB W p d) (t o r s : Int) (e : Bool) : Calls Tryz.prog 116 #[.agg #[ptr p.g, .int .i64 t, .int .i64 o, .int .i64 r, .int .i64 s, .bool e]] W fun x W' => x = .returned (.int .u32 (prtC (d.ent o).s)) ∧ Below W.heap.size W W' := by
  have B0 := hid (bag_one W 127 [.pointer (some ⟨p.g, 0, none⟩), .int .i64 t, .int .i64 o, .int .i64 r, .int .i64 s, .bool e])
  have HX := hid (h.on (below_one W (.cells #[.pointer (some ⟨p.g, 0, none⟩), .int .i64 t, .int .i64 o, .int .i64 r, .int .i64 s, .bool e] 127)))
  have HE := hid (fun u (hw : DB u p d) => entry_any u p d hw o)
  clear h
  unfold prtC
  generalize d.entE o = xe at *
  generalize d.ent o = D at *
  obtain ⟨t', o', r', s', e'⟩ := D
  simp only [ptr, En.v, En.cs] at HE ⊢
  by_cases hs : s' = 3
  · subst hs
    rw [if_pos rfl]
    go_enter Tryz.func116, Tryz.ntmps116
    go_upto_region 1 with fail
    generalize W.alloc _ = X at *
    generalize W.heap.size = g1 at *
    have c0 := (B0.out.get 0 rfl).cell 0
    have c2 := (B0.out.get 0 rfl).cell 2
    simp only [tqG, tqH] at c0 c2
    go_upto_region 2 with (first | (go_at_call 45; refine (HE.out _ HX.out).mono ?_; rintro e w1 ⟨rfl, hb⟩; have B1 := hid (B0.out.on hb); clear hb c0 c2) | (refine wpList_store_st rfl 30 _ _ rfl w1.heap.size [.int .i64 t', .int .i64 o', .int .i64 r', .int .i64 3, .bool e'] rfl rfl (Cel.new w1 30 En.zero.cs) sizeE rfl rfl ?_; intro w2 hc hb hs; have B2 := hid (B1.out.add hc hb); clear hc hb hs))
    generalize w1.heap.size = g8 at *
    have c3 := (B2.out.get 0 rfl).cell 3
    simp only [tqG, tqH] at c3
    go_wp2_with fail
    go_ret
    exact ⟨rfl, B2.out.below⟩
  · rw [if_neg hs]
    have hs' : (s' != 3) = true := by simpa using hs
    clear hs
    go_enter Tryz.func116, Tryz.ntmps116
    go_upto_region 1 with fail
    generalize W.alloc _ = X at *
    generalize W.heap.size = g1 at *
    have c0 := (B0.out.get 0 rfl).cell 0
    have c2 := (B0.out.get 0 rfl).cell 2
    simp only [tqG, tqH] at c0 c2
    go_upto_region 2 with (first | (go_at_call 45; refine (HE.out _ HX.out).mono ?_; rintro e w1 ⟨rfl, hb⟩; have B1 := hid (B0.out.on hb); clear hb c0 c2) | (refine wpList_store_st rfl 30 _ _ rfl w1.heap.size [.int .i64 t', .int .i64 o', .int .i64 r', .int .i64 s', .bool e'] rfl rfl (Cel.new w1 30 En.zero.cs) sizeE rfl rfl ?_; intro w2 hc hb hs; have B2 := hid (B1.out.add hc hb); clear hc hb hs))
    generalize w1.heap.size = g8 at *
    have c3 := (B2.out.get 0 rfl).cell 3
    simp only [tqG, tqH] at c3
    go_wp2_with fail
    go_ret
    exact ⟨rfl, B2.out.below⟩
end Go.Proofs.YtdfnbcbnmiohnaaGreatDoor
