import Derived.Test.YtgbpbfnpeeciaaaGreatP23
import Derived.Test.YtgbpbfnpeeciaaaGreatP22
import Derived.Test.YtgbpbfnpeeciaaaGreatP15
import Derived.Test.YtgbpbfnpeeciaaaGreatP04
namespace Go.Proofs.YtgbpbfnpeeciaaaGreat
open Go.RowKit
def MS.U (m : MS) : Prop := ∀ k j, 0 ≤ wd (m.p k) j ∧ wd (m.p k) j < 4294967296
theorem MS.U.word {m : MS} (h : m.U) (s : Bool) (p off : Int) : 0 ≤ m.word s p off ∧ m.word s p off < 4294967296 := by
  unfold MS.word
  split
  · decide
  · split
    · exact h _ _
    · decide
end Go.Proofs.YtgbpbfnpeeciaaaGreat
namespace Go.Proofs.YtgbpbfnpeeciaaaGreat
open Go.RowKit
set_option maxRecDepth 100000
set_option maxHeartbeats 4000000
def plC (f : Fp) (pg off : Int) : List Value := [ptr f.gm, .int .i64 pg, .int .i64 off]
def plV (f : Fp) (pg off : Int) : Value := .agg #[ptr f.gm, .int .i64 pg, .int .i64 off]
def tbC (p : Dp) (s t : Int) : List Value := [ptr p.g, .int .i64 s, .int .i64 t]
def tbV (p : Dp) (s t : Int) : Value := .agg #[ptr p.g, .int .i64 s, .int .i64 t]
theorem under97 : Tryz.prog.underlying 147 = some (.struct (Tryz.prog.fieldsOf 147)) := by kernel_rfl
theorem size97 : (Tryz.prog.info? 147).map (·.size) = some 3 := by kernel_rfl
theorem under90 : Tryz.prog.underlying 139 = some (.struct (Tryz.prog.fieldsOf 139)) := by kernel_rfl
theorem size90 : (Tryz.prog.info? 139).map (·.size) = some 3 := by kernel_rfl
theorem built_z97 : Tryz.prog.built 147 [] = some #[.pointer none, .int .i64 0, .int .i64 0] := by kernel_rfl
theorem built_z90 : Tryz.prog.built 139 [] = some #[.pointer none, .int .i64 0, .int .i64 0] := by kernel_rfl
theorem wpList_build_z97 {ops : Array Oper} {rest : List Oper} {o : Oper} {a : Act} {w : World} {Q : Exit → Act → World → Prop} (hgd : o.guard = none) (ho : o.op = .build 147 #[])
    (h : wpList Tryz.prog ops Q rest (a.put o.dst (.agg #[.pointer none, .int .i64 0, .int .i64 0])) w) : wpList Tryz.prog ops Q (o :: rest) a w :=
  wpList_build_f hgd 147 _ ho #[] (by simp) _ built_z97 h
theorem wpList_build_z90 {ops : Array Oper} {rest : List Oper} {o : Oper} {a : Act} {w : World} {Q : Exit → Act → World → Prop} (hgd : o.guard = none) (ho : o.op = .build 139 #[])
    (h : wpList Tryz.prog ops Q rest (a.put o.dst (.agg #[.pointer none, .int .i64 0, .int .i64 0])) w) : wpList Tryz.prog ops Q (o :: rest) a w :=
  wpList_build_f hgd 139 _ ho #[] (by simp) _ built_z90 h
theorem readp_any (W : World) (f : Fp) (m : MS) (h : Mem W f m) (pg off : Int) :
    Calls Tryz.prog 79 #[plV f pg off] W fun x W' => x = .returned (.int .u32 (m.word true pg off)) ∧ Mem W' f (m.read true pg off) ∧ ButL f.w W W' := by
  have HR := hid (read_any _ f m (h.on (below_one W (.cells (plC f pg off).toArray 147))) true pg off)
  have HC := hid (Cel.new W 147 (plC f pg off))
  have HB := hid (below_one W (.cells (plC f pg off).toArray 147))
  have c0 := HC.out.cell 0
  have c1 := HC.out.cell 1
  have c2 := HC.out.cell 2
  simp only [plC, List.getElem?_cons_zero, List.getElem?_cons_succ] at c0 c1 c2
  simp only [plC, fr, plV, ptr] at *
  clear h HC
  generalize m.word true pg off = x at *
  generalize m.err true pg off = e at *
  go_enter Tryz.func79, Tryz.ntmps79
  go_upto_region 1 with fail
  generalize hX : W.alloc _ = X at *
  clear hX
  go_wp2_with (first | (go_at_call 108; refine HR.out.mono ?_; rintro y w2 ⟨rfl, hm, hb⟩; have HM := hid hm; have HE := hid ((ButL.of (G := f.w) HB.out).trans hb); clear hm hb))
  go_returns
  exact ⟨rfl, HM.out, HE.out⟩
theorem layp_any (W : World) (f : Fp) (m : MS) (h : Mem W f m) (pg off v : Int) :
    Calls Tryz.prog 80 #[plV f pg off, .int .u32 v] W fun x W' => x = .returned (.tuple #[]) ∧ Mem W' f (m.write true pg off v) ∧ ButL f.w W W' := by
  have HR := hid (write_any _ f m (h.on (below_one W (.cells (plC f pg off).toArray 147))) true pg off v)
  have HC := hid (Cel.new W 147 (plC f pg off))
  have HB := hid (below_one W (.cells (plC f pg off).toArray 147))
  have c0 := HC.out.cell 0
  have c1 := HC.out.cell 1
  have c2 := HC.out.cell 2
  simp only [plC, List.getElem?_cons_zero, List.getElem?_cons_succ] at c0 c1 c2
  simp only [plC, fr, plV, ptr] at *
  clear h HC
  generalize m.err true pg off = e at *
  go_enter Tryz.func80, Tryz.ntmps80
  go_upto_region 1 with fail
  generalize hX : W.alloc _ = X at *
  clear hX
  go_wp2_with (first | (go_at_call 25; refine HR.out.mono ?_; rintro y w2 ⟨rfl, hm, hb⟩; have HM := hid hm; have HE := hid ((ButL.of (G := f.w) HB.out).trans hb); clear hm hb))
  go_returns
  exact ⟨rfl, HM.out, HE.out⟩
def DS.own (d : DS) (s pg k : Int) : Bool := (d.ent pg).t == k && (d.ent pg).o == s
theorem owns_any (W : World) (p : Dp) (d : DS) (h : DB W p d) (s t pg k : Int) :
    Calls Tryz.prog 76 #[tbV p s t, .int .i64 pg, .int .i64 k] W fun x W' => x = .returned (.bool (d.own s pg k)) ∧ Below W.heap.size W W' := by
  have HX := hid (h.on (below_one W (.cells (tbC p s t).toArray 139)))
  have B0 := hid (bag_one W 139 (tbC p s t))
  have HE := hid (fun w (hw : DB w p d) => entry_any w p d hw pg)
  unfold DS.own
  clear h
  generalize d.ent pg = D at *
  generalize d.entE pg = DE at *
  simp only [tbC, tbV, ptr, En.v] at *
  have c0 := (B0.out.get 0 rfl).cell 0
  simp only [List.getElem?_cons_zero] at c0
  go_enter Tryz.func76, Tryz.ntmps76
  go_upto_region 1 with fail
  generalize W.alloc _ = X at *
  generalize hg : W.heap.size = g3 at B0 c0 ⊢
  clear hg
  go_upto_region 2 with (first | (go_at_call 62; refine (HE.out _ HX.out).mono ?_; rintro x w2 ⟨rfl, hb⟩; have B1 := hid (B0.out.on hb); clear hb) | (refine wpList_store_st rfl 125 _ _ rfl w2.heap.size D.cs rfl rfl (Cel.new w2 125 En.zero.cs) sizeE rfl rfl ?_; intro w3 hc hb hs; have B2 := hid (B1.out.add hc hb); clear hc hb hs))
  generalize w2.heap.size = g7 at *
  have d0 := (B2.out.get 0 rfl).cell 0
  have d1 := (B2.out.get 0 rfl).cell 1
  have d3 := (B2.out.get 1 rfl).cell 1
  simp only [En.cs, List.getElem?_cons_zero, List.getElem?_cons_succ] at d0 d1 d3
  clear c0
  by_cases e1 : D.t = k
  · by_cases e2 : D.o = s
    · go_wp2_with fail
      go_returns
      exact ⟨by simp [e1, e2], B2.out.below⟩
    · go_wp2_with fail
      go_returns
      exact ⟨by simp [e1], B2.out.below⟩
  · go_wp2_with fail
    go_returns
    exact ⟨by simp [e1], B2.out.below⟩
theorem placep_any (W : World) (p : Dp) (d : DS) (h : DB W p d) (s t pg off : Int) :
    Calls Tryz.prog 77 #[tbV p s t, .int .i64 pg, .int .i64 off] W fun x W' => x = .returned (plV p.f pg off) ∧ Below W.heap.size W W' := by
  have HX := hid ((h.on (below_one W (.cells (tbC p s t).toArray 139))).on (below_one _ (.cells #[.pointer none, .int .i64 0, .int .i64 0] 147)))
  have B0 := hid (Bag.two W 139 147 (tbC p s t) [.pointer none, .int .i64 0, .int .i64 0])
  have HM := hid (fun w (hw : DB w p d) => memory_any w p d hw)
  clear h
  simp only [tbC, tbV, plV, ptr] at *
  have c0 := (B0.out.get 1 rfl).cell 0
  simp only [List.getElem?_cons_zero] at c0
  go_enter Tryz.func77, Tryz.ntmps77
  go_upto_region 1 with fail
  generalize (World.alloc _ _).alloc _ = X at *
  generalize hg : W.heap.size = g3 at B0 c0 ⊢
  have HG := hid hg
  clear hg
  go_wp2_with (first | (go_at_call 92; refine (HM.out _ HX.out).mono ?_; rintro x w1 ⟨rfl, rfl⟩) | (refine wpList_store_st rfl 147 _ _ rfl (g3 + 1) (plC p.f pg off) rfl rfl (B0.out.get 0 rfl) size97 rfl rfl ?_; intro w4 hc hb hs; have HE := hid (And.intro hc (B0.out.below.trans (hb.below (by have := HG.out; simp; omega) B0.out.below.size))); clear hc hb hs))
  exact ret_st rfl rfl (g3 + 1) _ rfl HE.out.1 under97 rfl (by rw [size97]; rfl) ⟨rfl, HE.out.2⟩
end Go.Proofs.YtgbpbfnpeeciaaaGreat
namespace Go.Proofs.YtgbpbfnpeeciaaaGreat
open Go.RowKit
theorem MS.read_at (m : MS) (s : Bool) (p off : Int) (s' : Bool) (p' : Int) : (m.read s p off).at s' p' = m.at s' p' := by
  unfold MS.read
  split
  · rfl
  · split <;> rfl
theorem MS.read_p (m : MS) (s : Bool) (p off : Int) (k : Nat) : (m.read s p off).p k = m.p k := by
  unfold MS.read
  split
  · rfl
  · split <;> rfl
theorem MS.read_word (m : MS) (s : Bool) (p off : Int) (s' : Bool) (p' o' : Int) : (m.read s p off).word s' p' o' = m.word s' p' o' := by
  unfold MS.word
  rw [MS.read_at]
  split
  · rfl
  · rw [MS.read_p]
theorem MS.U.read {m : MS} (h : m.U) (s : Bool) (p off : Int) : (m.read s p off).U := fun k j => by rw [MS.read_p]; exact h k j
theorem wd_set (L : List Int) (i j : Nat) (v : Int) : wd (L.set i v) j = if i = j ∧ j < L.length then v else wd L j := by
  unfold wd
  simp only [List.getD_eq_getElem?_getD, List.getElem?_set]
  split
  · rename_i h
    subst h
    by_cases hl : i < L.length
    · simp [hl]
    · simp [hl]
  · rename_i h
    simp [h]
theorem MS.write_p (m : MS) (s : Bool) (p o v : Int) (k j : Nat) : wd ((m.write s p o v).p k) j = v ∨ wd ((m.write s p o v).p k) j = wd (m.p k) j := by
  unfold MS.write
  split
  · exact .inr rfl
  · rename_i q hq
    split
    · simp only [MS.p, List.getD_eq_getElem?_getD, List.getElem?_set]
      split
      · split
        · rename_i h1 h2
          subst h1
          simp only [Option.getD_some]
          rw [wd_set]
          split
          · exact .inl rfl
          · exact .inr rfl
        · rename_i h1 h2
          refine .inr ?_
          subst h1
          rw [List.getElem?_eq_none (by omega)]
      · exact .inr rfl
    · exact .inr rfl
theorem MS.U.write {m : MS} (h : m.U) (s : Bool) (p o v : Int) (h0 : 0 ≤ v) (h1 : v < 4294967296) : (m.write s p o v).U := fun k j => by
  rcases m.write_p s p o v k j with e | e <;> rw [e]
  · exact ⟨h0, h1⟩
  · exact h k j
theorem MS.U.new (s n : Nat) : (MS.new s n).U := fun k j => by
  unfold MS.new MS.p
  simp only [List.getD_eq_getElem?_getD, List.getElem?_replicate]
  have hz : wd zs j = 0 := by unfold wd zs; rw [List.getD_eq_getElem?_getD, List.getElem?_replicate]; split <;> rfl
  split
  · simp only [Option.getD_some]; rw [hz]; decide
  · simp [wd]
theorem NewMem.write {W w w' : World} {f : Fp} {m m' : MS} (h : NewMem W w f m) (hm : Mem w' f m') (hb : ButL f.w w w') : NewMem W w' f m' :=
  ⟨hm, h.below.trans (hb.below (fun k hk => h.new k (by simp only [Fp.w, Fp.all, List.mem_cons] at hk ⊢; rcases hk with hk | hk <;> simp [hk])) h.below.size), h.new⟩
theorem NewMem.on {W w w' : World} {f : Fp} {m : MS} (h : NewMem W w f m) (hb : Below w.heap.size w w') : NewMem W w' f m := ⟨h.mem.on hb, below_on h.below hb, h.new⟩
theorem MS.read_eq (m : MS) (s : Bool) (p o : Int) : m.read s p o = if m.err s p o = 0 then m.tick 1 else m := by
  unfold MS.read MS.err
  cases m.at s p with
  | none => rfl
  | some k => by_cases h : In o <;> simp [h]
end Go.Proofs.YtgbpbfnpeeciaaaGreat
