import Derived.Test.YtgbpbfnpeeciaaaP24
import Derived.Test.YtgbpbfnpeeciaaaP05
import Derived.Test.YtgbpbfnpeeciaaaP04
import Derived.Test.YtgbpbfnpeeciaaaP11
namespace Go.Proofs.Ytgbpbfnpeeciaaa
open Go.RowKit
set_option maxRecDepth 100000
set_option maxHeartbeats 4000000
def plC (f : Fp) (pg off : Int) : List Value := [ptr f.gm, .int .i64 pg, .int .i64 off]
def plV (f : Fp) (pg off : Int) : Value := .agg #[ptr f.gm, .int .i64 pg, .int .i64 off]
def tbC (p : Dp) (s t : Int) : List Value := [ptr p.g, .int .i64 s, .int .i64 t]
def tbV (p : Dp) (s t : Int) : Value := .agg #[ptr p.g, .int .i64 s, .int .i64 t]
theorem under97 : Try.prog.underlying 97 = some (.struct (Try.prog.fieldsOf 97)) := by kernel_rfl
theorem size97 : (Try.prog.info? 97).map (·.size) = some 3 := by kernel_rfl
theorem under90 : Try.prog.underlying 90 = some (.struct (Try.prog.fieldsOf 90)) := by kernel_rfl
theorem size90 : (Try.prog.info? 90).map (·.size) = some 3 := by kernel_rfl
theorem built_z97 : Try.prog.built 97 [] = some #[.pointer none, .int .i64 0, .int .i64 0] := by kernel_rfl
theorem built_z90 : Try.prog.built 90 [] = some #[.pointer none, .int .i64 0, .int .i64 0] := by kernel_rfl
theorem wpList_build_z97 {ops : Array Oper} {rest : List Oper} {o : Oper} {a : Act} {w : World} {Q : Exit → Act → World → Prop} (hgd : o.guard = none) (ho : o.op = .build 97 #[])
    (h : wpList Try.prog ops Q rest (a.put o.dst (.agg #[.pointer none, .int .i64 0, .int .i64 0])) w) : wpList Try.prog ops Q (o :: rest) a w :=
  wpList_build_f hgd 97 _ ho #[] (by simp) _ built_z97 h
theorem wpList_build_z90 {ops : Array Oper} {rest : List Oper} {o : Oper} {a : Act} {w : World} {Q : Exit → Act → World → Prop} (hgd : o.guard = none) (ho : o.op = .build 90 #[])
    (h : wpList Try.prog ops Q rest (a.put o.dst (.agg #[.pointer none, .int .i64 0, .int .i64 0])) w) : wpList Try.prog ops Q (o :: rest) a w :=
  wpList_build_f hgd 90 _ ho #[] (by simp) _ built_z90 h
theorem readp_any (W : World) (f : Fp) (m : MS) (h : Mem W f m) (pg off : Int) :
    Calls Try.prog 38 #[plV f pg off] W fun x W' => x = .returned (.int .u32 (m.word true pg off)) ∧ Mem W' f (m.read true pg off) ∧ ButL f.w W W' := by
  have HR := hid (read_any _ f m (h.on (below_one W (.cells (plC f pg off).toArray 97))) true pg off)
  have HC := hid (Cel.new W 97 (plC f pg off))
  have HB := hid (below_one W (.cells (plC f pg off).toArray 97))
  have c0 := HC.out.cell 0
  have c1 := HC.out.cell 1
  have c2 := HC.out.cell 2
  simp only [plC, List.getElem?_cons_zero, List.getElem?_cons_succ] at c0 c1 c2
  simp only [plC, fr, plV, ptr] at *
  clear h HC
  generalize m.word true pg off = x at *
  generalize m.err true pg off = e at *
  go_enter Try.func38, Try.ntmps38
  go_upto_region 1 with fail
  generalize hX : W.alloc _ = X at *
  clear hX
  go_wp2_with (first | (go_at_call 80; refine HR.out.mono ?_; rintro y w2 ⟨rfl, hm, hb⟩; have HM := hid hm; have HE := hid ((ButL.of (G := f.w) HB.out).trans hb); clear hm hb))
  go_returns
  exact ⟨rfl, HM.out, HE.out⟩
theorem layp_any (W : World) (f : Fp) (m : MS) (h : Mem W f m) (pg off v : Int) :
    Calls Try.prog 43 #[plV f pg off, .int .u32 v] W fun x W' => x = .returned (.tuple #[]) ∧ Mem W' f (m.write true pg off v) ∧ ButL f.w W W' := by
  have HR := hid (write_any _ f m (h.on (below_one W (.cells (plC f pg off).toArray 97))) true pg off v)
  have HC := hid (Cel.new W 97 (plC f pg off))
  have HB := hid (below_one W (.cells (plC f pg off).toArray 97))
  have c0 := HC.out.cell 0
  have c1 := HC.out.cell 1
  have c2 := HC.out.cell 2
  simp only [plC, List.getElem?_cons_zero, List.getElem?_cons_succ] at c0 c1 c2
  simp only [plC, fr, plV, ptr] at *
  clear h HC
  generalize m.err true pg off = e at *
  go_enter Try.func43, Try.ntmps43
  go_upto_region 1 with fail
  generalize hX : W.alloc _ = X at *
  clear hX
  go_wp2_with (first | (go_at_call 67; refine HR.out.mono ?_; rintro y w2 ⟨rfl, hm, hb⟩; have HM := hid hm; have HE := hid ((ButL.of (G := f.w) HB.out).trans hb); clear hm hb))
  go_returns
  exact ⟨rfl, HM.out, HE.out⟩
def DS.own (d : DS) (s pg k : Int) : Bool := (d.ent pg).t == k && (d.ent pg).o == s
theorem owns_any (W : World) (p : Dp) (d : DS) (h : DB W p d) (s t pg k : Int) :
    Calls Try.prog 73 #[tbV p s t, .int .i64 pg, .int .i64 k] W fun x W' => x = .returned (.bool (d.own s pg k)) ∧ Below W.heap.size W W' := by
  have HX := hid (h.on (below_one W (.cells (tbC p s t).toArray 90)))
  have B0 := hid (bag_one W 90 (tbC p s t))
  have HE := hid (fun w (hw : DB w p d) => entry_any w p d hw pg)
  unfold DS.own
  clear h
  generalize d.ent pg = D at *
  generalize d.entE pg = DE at *
  simp only [tbC, tbV, ptr, En.v] at *
  have c0 := (B0.out.get 0 rfl).cell 0
  simp only [List.getElem?_cons_zero] at c0
  go_enter Try.func73, Try.ntmps73
  go_upto_region 1 with fail
  generalize W.alloc _ = X at *
  generalize hg : W.heap.size = g3 at B0 c0 ⊢
  clear hg
  go_upto_region 2 with (first | (go_at_call 69; refine (HE.out _ HX.out).mono ?_; rintro x w2 ⟨rfl, hb⟩; have B1 := hid (B0.out.on hb); clear hb) | (refine wpList_store_st rfl 136 _ _ rfl w2.heap.size D.cs rfl rfl (Cel.new w2 136 En.zero.cs) sizeE rfl rfl ?_; intro w3 hc hb hs; have B2 := hid (B1.out.add hc hb); clear hc hb hs))
  generalize w2.heap.size = g7 at *
  have d0 := (B2.out.get 0 rfl).cell 0
  have d1 := (B2.out.get 0 rfl).cell 1
  have d3 := (B2.out.get 1 rfl).cell 1
  simp only [En.cs, List.getElem?_cons_zero, List.getElem?_cons_succ] at d0 d1 d3
  clear c0
  by_cases e1 : D.t = k
  · by_cases e2 : D.o = s
    · go_wp2_with fail
      go_returns
      exact ⟨by simp [e1, e2], B2.out.below⟩
    · go_wp2_with fail
      go_returns
      exact ⟨by simp [e1], B2.out.below⟩
  · go_wp2_with fail
    go_returns
    exact ⟨by simp [e1], B2.out.below⟩
theorem placep_any (W : World) (p : Dp) (d : DS) (h : DB W p d) (s t pg off : Int) :
    Calls Try.prog 74 #[tbV p s t, .int .i64 pg, .int .i64 off] W fun x W' => x = .returned (plV p.f pg off) ∧ Below W.heap.size W W' := by
  have HX := hid ((h.on (below_one W (.cells (tbC p s t).toArray 90))).on (below_one _ (.cells #[.pointer none, .int .i64 0, .int .i64 0] 97)))
  have B0 := hid (Bag.two W 90 97 (tbC p s t) [.pointer none, .int .i64 0, .int .i64 0])
  have HM := hid (fun w (hw : DB w p d) => memory_any w p d hw)
  clear h
  simp only [tbC, tbV, plV, ptr] at *
  have c0 := (B0.out.get 1 rfl).cell 0
  simp only [List.getElem?_cons_zero] at c0
  go_enter Try.func74, Try.ntmps74
  go_upto_region 1 with fail
  generalize (World.alloc _ _).alloc _ = X at *
  generalize hg : W.heap.size = g3 at B0 c0 ⊢
  have HG := hid hg
  clear hg
  go_wp2_with (first | (go_at_call 21; refine (HM.out _ HX.out).mono ?_; rintro x w1 ⟨rfl, rfl⟩) | (refine wpList_store_st rfl 97 _ _ rfl (g3 + 1) (plC p.f pg off) rfl rfl (B0.out.get 0 rfl) size97 rfl rfl ?_; intro w4 hc hb hs; have HE := hid (And.intro hc (B0.out.below.trans (hb.below (by have := HG.out; simp; omega) B0.out.below.size))); clear hc hb hs))
  exact ret_st rfl rfl (g3 + 1) _ rfl HE.out.1 under97 rfl (by rw [size97]; rfl) ⟨rfl, HE.out.2⟩
end Go.Proofs.Ytgbpbfnpeeciaaa
namespace Go.Proofs.Ytgbpbfnpeeciaaa
open Go.RowKit
set_option maxHeartbeats 8000000
set_option maxRecDepth 100000
theorem MS.U.wkS {m : MS} (h : m.U) (l va : Int) : (m.wkS l va).U := by
  unfold MS.wkS
  split
  · split
    · exact (h.read _ _ _).read _ _ _
    · exact h.read _ _ _
  · exact h
end Go.Proofs.Ytgbpbfnpeeciaaa
