import Derived.Test.YtgbpbfnpeeciaaaGreatP32
import Derived.Test.YtgbpbfnpeeciaaaGreatP21
namespace Go.Proofs.YtgbpbfnpeeciaaaGreat
open Go.RowKit
set_option maxRecDepth 100000
set_option maxHeartbeats 8000000
theorem rmhas_any (w : World) (r : Rf) (m : MS) (h : RMem w r m) (s : Bool) (p : Int) :
    Calls Tryz.prog 94 #[ptr r.g, fr s p] w fun x w' => x = .returned (.bool (m.at s p).isSome) ∧ Below w.heap.size w w' := by
  have hX := h.on (below_one w (.cells #[.bool s, .int .i64 p] 72))
  have hB := hid (below_one w (.cells #[.bool s, .int .i64 p] 72))
  have HF := hid (rplace_any _ r m hX s p)
  clear h hX
  generalize hr : m.at s p = o at *
  clear hr
  cases o with
  | none =>
    simp only [fr, ptr, pl, Option.isSome] at *
    go_enter Tryz.func94, Tryz.ntmps94
    go_wp2_with fail
    refine HF.out.mono ?_
    rintro x w1 ⟨rfl, hb1⟩
    have HB1 := hid (below_on hB.out hb1)
    clear hb1
    go_wp2_with fail
    go_ret
    exact ⟨rfl, HB1.out⟩
  | some k =>
    simp only [fr, ptr, pl, Option.isSome] at *
    go_enter Tryz.func94, Tryz.ntmps94
    go_wp2_with fail
    refine HF.out.mono ?_
    rintro x w1 ⟨rfl, hb1⟩
    have HB1 := hid (below_on hB.out hb1)
    clear hb1
    go_wp2_with fail
    go_ret
    exact ⟨ret_bool (by simp), HB1.out⟩
theorem cel75 (W : World) (m : Gm) : Cel (W.alloc (.cells #[.int .u32 m.va, .bool m.wr, .bool m.ex] 75)) W.heap.size 75 [.int .u32 m.va, .bool m.wr, .bool m.ex] := heap_alloc_new _ _
theorem rword_any (W : World) (m : Gm) (h0 : 0 ≤ m.va) (h1 : m.va < 4294967296) :
    Calls Tryz.prog 27 #[m.v] W fun x W' => x = .returned (.tuple #[.int .u32 m.w, .int .i64 m.e]) ∧ Below W.heap.size W W' := by
  have HC := hid (cel75 W m)
  have HB := hid (below_one W (.cells #[.int .u32 m.va, .bool m.wr, .bool m.ex] 75))
  obtain ⟨va, wr, ex⟩ := m
  unfold Gm.w Gm.e Gm.v
  simp only at *
  have c0 := HC.out.cell 0
  have c1 := HC.out.cell 1
  have c2 := HC.out.cell 2
  simp only [List.getElem?_cons_zero, List.getElem?_cons_succ] at c0 c1 c2
  by_cases hm : va % 4096 = 0
  · by_cases hl : va < 1073741824
    · have e1 : IntKind.u32.wrap (va + 1) = va + 1 := by rw [IntKind.wrap_u32]; omega
      have e3 : IntKind.u32.wrap (va + 1 + 2) = va + 1 + 2 := by rw [IntKind.wrap_u32]; omega
      have e5 : IntKind.u32.wrap (va + 1 + 4) = va + 1 + 4 := by rw [IntKind.wrap_u32]; omega
      have e7 : IntKind.u32.wrap (va + 1 + 2 + 4) = va + 1 + 2 + 4 := by rw [IntKind.wrap_u32]; omega
      rw [if_pos ⟨hm, hl⟩, if_pos ⟨hm, hl⟩]
      cases wr <;> cases ex
      all_goals
        simp only [b2, if_true, Int.add_zero, Bool.false_eq_true, if_false]
        go_enter Tryz.func27, Tryz.ntmps27
        go_upto_region 1 with fail
        generalize hX : W.alloc _ = X at *
        clear hX
        go_wp2_with fail
        go_ret2
        exact ⟨rfl, HB.out⟩
    · have hl2 : 1073741824 ≤ va := by omega
      rw [if_neg (fun h => hl h.2), if_neg (fun h => hl h.2)]
      go_enter Tryz.func27, Tryz.ntmps27
      go_upto_region 1 with fail
      generalize hX : W.alloc _ = X at *
      clear hX
      go_wp2_with fail
      go_ret2
      exact ⟨rfl, HB.out⟩
  · have hm2 : (va % 4096 == 0) = false := by simpa using hm
    rw [if_neg (fun h => hm h.1), if_neg (fun h => hm h.1)]
    go_enter Tryz.func27, Tryz.ntmps27
    go_upto_region 1 with fail
    generalize hX : W.alloc _ = X at *
    clear hX
    go_wp2_with fail
    go_ret2
    exact ⟨rfl, HB.out⟩
end Go.Proofs.YtgbpbfnpeeciaaaGreat
namespace Go.Proofs.YtgbpbfnpeeciaaaGreat
open Go.RowKit
set_option maxRecDepth 100000
set_option maxHeartbeats 8000000
theorem underM : Tryz.prog.underlying 75 = some (.struct (Tryz.prog.fieldsOf 75)) := by kernel_rfl
theorem sizeM : (Tryz.prog.info? 75).map (·.size) = some 3 := by kernel_rfl
theorem built_zM : Tryz.prog.built 75 [] = some #[.int .u32 0, .bool false, .bool false] := by kernel_rfl
theorem wpList_build_zM {ops : Array Oper} {rest : List Oper} {o : Oper} {a : Act} {w : World} {Q : Exit → Act → World → Prop} (hgd : o.guard = none) (ho : o.op = .build 75 #[])
    (h : wpList Tryz.prog ops Q rest (a.put o.dst (.agg #[.int .u32 0, .bool false, .bool false])) w) : wpList Tryz.prog ops Q (o :: rest) a w :=
  wpList_build_f hgd 75 _ ho #[] (by simp) _ built_zM h
theorem rparse_any (W : World) (w : Int) (h0 : 0 ≤ w) (h1 : w < 4294967296) :
    Calls Tryz.prog 28 #[.int .u32 w] W fun x W' => x = .returned (.tuple #[(gP w).v, .int .i64 (gPE w)]) ∧ Below W.heap.size W W' := by
  have B0 := hid (bag_one W 75 Gm.z.cs)
  have e2 : IntKind.u32.wrap (w - w % 4096) = w - w % 4096 := by rw [IntKind.wrap_u32]; omega
  have e4 : (0 : Int) = 0 := rfl
  have n2 : ((w / 2 % 2) == 1) = decide (w / 2 % 2 = 1) := by simp [BEq.beq]
  have n4 : ((w / 4 % 2) == 1) = decide (w / 4 % 2 = 1) := by simp [BEq.beq]
  have HW := hid (fun W => rword_any W (gG w) (by simp only [gG]; omega) (by simp only [gG]; omega))
  have hi := gG_iff w h0 h1
  have ev : w - w % 4096 = (gG w).va := rfl
  rw [show decide (w / 2 % 2 = 1) = (gG w).wr from rfl] at n2
  rw [show decide (w / 4 % 2 = 1) = (gG w).ex from rfl] at n4
  have HP := hid (@gP_pos w)
  generalize gG w = m at *
  generalize m.e = A at *
  generalize m.w = V at *
  unfold Gm.v at HW
  simp only [Gm.cs, Gm.z] at B0
  go_enter Tryz.func28, Tryz.ntmps28
  go_upto_region 1 with fail
  generalize W.alloc _ = X at *
  generalize hg : W.heap.size = g2 at B0 ⊢
  have HG := hid hg
  clear hg
  go_upto_region 2 with fail
  try simp only [n2, n4]
  have B1 := hid (B0.out.new 75 m.cs)
  simp only [Gm.cs] at B1
  clear B0 e2 e4 n2 n4 ev h0 h1
  generalize X.alloc _ = X1 at *
  generalize X.heap.size = g4 at *
  go_upto_region 3 with (first | (go_at_call 27; refine (HW.out _).mono ?_; rintro x w2 ⟨rfl, hb⟩; have B2 := hid (B1.out.on hb); clear hb) | (refine wpList_load_mid rfl 75 _ rfl g4 0 rfl _ _ ((B1.out.get 0 rfl).range) underM rfl (by rw [sizeM]; rfl) ?_))
  clear B1 HW
  by_cases hA0 : A = 0
  · by_cases hV0 : V = w
    · have hw := hi.1 ⟨hA0, hV0⟩
      go_wp2_with (first | (refine wpList_load_mid rfl 75 _ rfl g4 0 rfl _ _ ((B2.out.get 0 rfl).range) underM rfl (by rw [sizeM]; rfl) ?_) | (refine wpList_store_st rfl 75 _ _ rfl g2 m.cs rfl rfl (B2.out.get 1 rfl) sizeM rfl rfl ?_; intro w4 hc hb hs; have HE := hid (And.intro hc (B2.out.below.trans (hb.below (by have := HG.out; simp; omega) B2.out.below.size))); clear hc hb hs))
      exact ret_st2 rfl rfl g2 _ rfl HE.out.1 underM rfl sizeM ⟨by rw [HP.out hw, gPE, if_pos hw]; rfl, HE.out.2⟩
    · have hw : ¬ Gw w := fun h => hV0 (hi.2 h).2
      go_wp2_with (first | (refine wpList_build_zM rfl rfl ?_) | (refine wpList_store_st rfl 75 _ _ rfl g2 Gm.z.cs rfl rfl (B2.out.get 1 rfl) sizeM rfl rfl ?_; intro w4 hc hb hs; have HE := hid (And.intro hc (B2.out.below.trans (hb.below (by have := HG.out; simp; omega) B2.out.below.size))); clear hc hb hs))
      exact ret_st2 rfl rfl g2 _ rfl HE.out.1 underM rfl sizeM ⟨by rw [gP_neg hw, gPE, if_neg hw]; rfl, HE.out.2⟩
  · have hw : ¬ Gw w := fun h => hA0 (hi.2 h).1
    go_wp2_with (first | (refine wpList_build_zM rfl rfl ?_) | (refine wpList_store_st rfl 75 _ _ rfl g2 Gm.z.cs rfl rfl (B2.out.get 1 rfl) sizeM rfl rfl ?_; intro w4 hc hb hs; have HE := hid (And.intro hc (B2.out.below.trans (hb.below (by have := HG.out; simp; omega) B2.out.below.size))); clear hc hb hs))
    exact ret_st2 rfl rfl g2 _ rfl HE.out.1 underM rfl sizeM ⟨by rw [gP_neg hw, gPE, if_neg hw]; rfl, HE.out.2⟩
end Go.Proofs.YtgbpbfnpeeciaaaGreat
