/- space's Parse 9. -/
import Derived.Test.YtgbpbfnpeeciaaaX0
import Derived.Test.YtgbpbfnpeeciaaaD2
namespace Go.Proofs.Ytgbpbfnpeeciaaa
open Go.RowKit
set_option maxRecDepth 100000
set_option maxHeartbeats 4000000
theorem under26 : Try.prog.underlying 26 = some (.struct (Try.prog.fieldsOf 26)) := by kernel_rfl
theorem size26 : (Try.prog.info? 26).map (·.size) = some 3 := by kernel_rfl
theorem built_z26 : Try.prog.built 26 [] = some #[.int .u32 0, .bool false, .bool false] := by kernel_rfl
theorem wpList_build_z26 {ops : Array Oper} {rest : List Oper} {o : Oper} {a : Act} {w : World} {Q : Exit → Act → World → Prop} (hgd : o.guard = none) (ho : o.op = .build 26 #[])
    (h : wpList Try.prog ops Q rest (a.put o.dst (.agg #[.int .u32 0, .bool false, .bool false])) w) : wpList Try.prog ops Q (o :: rest) a w :=
  wpList_build_f hgd 26 _ ho #[] (by simp) _ built_z26 h
theorem Bag.new {W w : World} {L : List (Nat × TypeId × List Value)} (h : Bag W w L) (u : TypeId) (es : List Value) : Bag W (w.alloc (.cells es.toArray u)) ((w.heap.size, u, es) :: L) := h.add (ds := es) (Cel.new w u es) (.refl _ _)
theorem gP_pos {w : Int} (h : Gw w) : gP w = gG w := by rw [gP, if_pos h]; rfl
theorem gP_neg {w : Int} (h : ¬ Gw w) : gP w = Gm.z := by rw [gP, if_neg h]
theorem parse_any (W : World) (w : Int) (h0 : 0 ≤ w) (h1 : w < 4294967296) :
    Calls Try.prog 9 #[.int .u32 w] W fun x W' => x = .returned (.tuple #[(gP w).v, .int .i64 (gPE w)]) ∧ Below W.heap.size W W' := by
  have B0 := hid (bag_one W 26 Gm.z.cs)
  have e2 := and_two w h0 h1
  have e4 := and_four w h0 h1
  have n2 := b_ne (w / 2) 2 (by decide)
  have n4 := b_ne (w / 4) 4 (by decide)
  have HW := hid (fun W => word_any W (gG w) (by simp only [gG]; omega) (by simp only [gG]; omega))
  have hi := gG_iff w h0 h1
  have ev : w - w % 4096 = (gG w).va := rfl
  rw [show decide (w / 2 % 2 = 1) = (gG w).wr from rfl] at n2
  rw [show decide (w / 4 % 2 = 1) = (gG w).ex from rfl] at n4
  have HP := hid (@gP_pos w)
  generalize gG w = m at *
  generalize m.e = A at *
  generalize m.w = V at *
  unfold Gm.v at HW
  simp only [Gm.cs, Gm.z] at B0
  go_enter Try.func9, Try.ntmps9
  go_upto_region 1 with fail
  generalize W.alloc _ = X at *
  generalize hg : W.heap.size = g2 at B0 ⊢
  have HG := hid hg
  clear hg
  go_upto_region 2 with fail
  try simp only [n2, n4]
  have B1 := hid (B0.out.new 26 m.cs)
  simp only [Gm.cs] at B1
  clear B0 e2 e4 n2 n4 ev h0 h1
  generalize X.alloc _ = X1 at *
  generalize X.heap.size = g4 at *
  go_upto_region 3 with (first | (go_at_call 8; refine (HW.out _).mono ?_; rintro x w2 ⟨rfl, hb⟩; have B2 := hid (B1.out.on hb); clear hb) | (refine wpList_load_mid rfl 26 _ rfl g4 0 rfl _ _ ((B1.out.get 0 rfl).range) under26 rfl (by rw [size26]; rfl) ?_))
  clear B1 HW
  by_cases hA0 : A = 0
  · by_cases hV0 : V = w
    · have hw := hi.1 ⟨hA0, hV0⟩
      go_wp2_with (first | (refine wpList_load_mid rfl 26 _ rfl g4 0 rfl _ _ ((B2.out.get 0 rfl).range) under26 rfl (by rw [size26]; rfl) ?_) | (refine wpList_store_st rfl 26 _ _ rfl g2 m.cs rfl rfl (B2.out.get 1 rfl) size26 rfl rfl ?_; intro w4 hc hb hs; have HE := hid (And.intro hc (B2.out.below.trans (hb.below (by have := HG.out; simp; omega) B2.out.below.size))); clear hc hb hs))
      exact ret_st2 rfl rfl g2 _ rfl HE.out.1 under26 rfl size26 ⟨by rw [HP.out hw, gPE, if_pos hw]; rfl, HE.out.2⟩
    · have hw : ¬ Gw w := fun h => hV0 (hi.2 h).2
      go_wp2_with (first | (refine wpList_build_z26 rfl rfl ?_) | (refine wpList_store_st rfl 26 _ _ rfl g2 Gm.z.cs rfl rfl (B2.out.get 1 rfl) size26 rfl rfl ?_; intro w4 hc hb hs; have HE := hid (And.intro hc (B2.out.below.trans (hb.below (by have := HG.out; simp; omega) B2.out.below.size))); clear hc hb hs))
      exact ret_st2 rfl rfl g2 _ rfl HE.out.1 under26 rfl size26 ⟨by rw [gP_neg hw, gPE, if_neg hw]; rfl, HE.out.2⟩
  · have hw : ¬ Gw w := fun h => hA0 (hi.2 h).1
    go_wp2_with (first | (refine wpList_build_z26 rfl rfl ?_) | (refine wpList_store_st rfl 26 _ _ rfl g2 Gm.z.cs rfl rfl (B2.out.get 1 rfl) size26 rfl rfl ?_; intro w4 hc hb hs; have HE := hid (And.intro hc (B2.out.below.trans (hb.below (by have := HG.out; simp; omega) B2.out.below.size))); clear hc hb hs))
    exact ret_st2 rfl rfl g2 _ rfl HE.out.1 under26 rfl size26 ⟨by rw [gP_neg hw, gPE, if_neg hw]; rfl, HE.out.2⟩
end Go.Proofs.Ytgbpbfnpeeciaaa
