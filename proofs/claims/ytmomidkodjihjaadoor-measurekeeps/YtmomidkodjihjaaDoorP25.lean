import Derived.Test.YtmomidkodjihjaaDoorP20
import Derived.Test.YtmomidkodjihjaaDoorP24
namespace Go.Proofs.YtmomidkodjihjaaDoor
open Go.RowKit
open H
set_option maxHeartbeats 4000000
set_option maxRecDepth 100000
attribute [-simp] Tryd.isAgg44 Tryd.sizeOf44 Tryd.zeroValue44
theorem size52 : (Tryd.prog.info? 52).map (·.size) = some 2 := by kernel_rfl
theorem ret_pair {P : Program} {fn : Func} {p q : Tmp} {ty e : TypeId} {d : TypeDesc} {a : Act} {w : World} {post : Ending → World → Prop} (hr : fn.results = #[.cell p ty, .tmp q]) (hd : a.defers = []) (g : Nat) (cs : List Value)
    (hp : a.tmps.getD p undef = .pointer (some ⟨g, 0, none⟩)) (hb : Cel w g e cs) (hu : P.underlying ty = some d) (hdd : (match d with | .struct _ | .array _ _ => true | _ => false) = true) (hi : (P.info? ty).map (·.size) = some cs.length) (h : post (.returned (.tuple #[.agg cs.toArray, a.tmps.getD q undef])) w) :
    bodyPost P fn post .ret a w := by
  refine bodyPost_ret (v := .tuple #[.agg cs.toArray, a.tmps.getD q undef]) ?_ hd h
  have hp' : a.tmps[p]?.getD undef = .pointer (some ⟨g, 0, none⟩) := by simpa using hp
  have := run_loadVar_row (P := P) w g e ty _ (0, 0) _ hb hu hdd (by rw [hi]; simp)
  simp [results, hr, hp', asAddr, this]
def nil2 : List Value := [.slice none 0 0, .slice none 0 0]
def EncOk (W : World) (ao : Option Addr) (n c N : Nat) (E : List Int) : Prop := ∀ w, Below W.heap.size W w → Calls Tryd.prog 10 #[.slice ao n c] w fun e W' => ∃ p cp, e = .returned (.tuple #[.slice p N cp, .int .i64 0]) ∧ Holds w W' .u32 24 (.slice p N cp) E
def EncNo (W : World) (ao : Option Addr) (n c : Nat) (er : Int) : Prop := ∀ w, Below W.heap.size W w → Calls Tryd.prog 10 #[.slice ao n c] w fun e W' => e = .returned (.tuple #[.slice none 0 0, .int .i64 er]) ∧ Below w.heap.size w W'
theorem co_two (W : World) (hT : Tab W) (h2 : 1 < W.heap.size) (ao bo : Option Addr) (n c m d N M : Nat) (E F : List Int) (hN : E.length = N) (hM : F.length = M) (lN : N ≤ 262144) (lM : M ≤ 262144) (HA : EncOk W ao n c N E) (HB : EncOk W bo m d M F) :
    Calls Tryd.prog 46 #[.slice ao n c, .slice bo m d, .func (.func 20) #[] #[]] W fun e W' => (E = F ∨ sumW E ≠ sumW F) ∧ e = .returned (.tuple #[.agg nil2.toArray, .int .i64 1]) ∧ Below W.heap.size W W' ∨
      (E ≠ F ∧ sumW E = sumW F) ∧ ∃ p cp q cq, e = .returned (.tuple #[.agg #[.slice p N cp, .slice q M cq], .int .i64 0]) ∧ Holds W W' .u32 24 (.slice p N cp) E ∧ Holds W W' .u32 24 (.slice q M cq) F := by
  have B1 := hid (below_one W (.cells #[.slice none 0 0, .slice none 0 0] 52))
  have C1 : Hid (Cel (W.alloc (.cells #[.slice none 0 0, .slice none 0 0] 52)) W.heap.size 52 nil2) := hid (heap_alloc_new _ _)
  have HE := hid HA
  have HF := hid HB
  have HQ := hid (fun w p cp q cq (hp : At w .u32 p E) (hq : At w .u32 q F) => equal_any w p q N M cp cq E F hN hM hp hq (by omega))
  have HSE : Hid (∀ w p cp, Below W.heap.size W w → At w .u32 p E → Calls Tryd.prog 20 #[.slice p N cp] w fun e W' => e = .returned (.agg ((sumW E).map (Value.int .u32)).toArray) ∧ Below w.heap.size w W') := hid (fun w p cp hw hp => sumW_any w (hT.below hw h2) (by have := hw.size; omega) p N cp E hN hp (by omega))
  have HSF : Hid (∀ w p cp, Below W.heap.size W w → At w .u32 p F → Calls Tryd.prog 20 #[.slice p M cp] w fun e W' => e = .returned (.agg ((sumW F).map (Value.int .u32)).toArray) ∧ Below w.heap.size w W') := hid (fun w p cp hw hp => sumW_any w (hT.below hw h2) (by have := hw.size; omega) p M cp F hM hp (by omega))
  have heq := eq27 (sumW E) (sumW F) (sumW_length _) (sumW_length _)
  clear HA HB hT h2 hN hM lN lM
  unfold EncOk at HE HF
  by_cases hEF : E = F
  · rw [decide_eq_true hEF] at HQ
    have HC := hid hEF
    clear hEF heq HSE HSF
    go_enter Tryd.func46, Tryd.ntmps46
    go_upto_region 4 with (go_at_call 10; refine (HE.out _ B1.out).mono ?_; rintro e w1 ⟨p1, c1, rfl, hh⟩; have B2 := hid (below_on B1.out hh.below); have C2 := hid (C1.out.on hh.below); have A2 := hid (holds_at' hh).1; clear hh)
    go_upto_region 7 with (go_at_call 10; refine (HF.out _ B2.out).mono ?_; rintro e w2 ⟨p2, c2, rfl, hh⟩; have B3 := hid (below_on B2.out hh.below); have C3 := hid (C2.out.on hh.below); have A3 := hid (And.intro (A2.out.below hh.below) (holds_at' hh).1); clear hh)
    go_wp2_with (first | (go_at_call 63; refine (HQ.out _ _ _ _ _ A3.out.1 A3.out.2).mono ?_; rintro e w4 ⟨rfl, hb⟩; have B4 := hid (below_on B3.out hb); have C4 := hid (C3.out.on hb); clear hb) | (revert C4; intro C4; refine wpList_store_st rfl 52 _ _ rfl W.heap.size nil2 rfl rfl C4.out size52 rfl rfl ?_; intro w5 hc5 hb5 hs5; have X5 := hid (And.intro (B4.out.trans (hb5.below (Nat.le_refl _) B4.out.size)) hc5); clear hc5 hb5 hs5 C4))
    refine ret_pair rfl rfl W.heap.size nil2 rfl X5.out.2 Tryd.underlying52 rfl size52 (.inl ⟨.inl HC.out, rfl, X5.out.1⟩)
  · rw [decide_eq_false hEF] at HQ
    have HC := hid hEF
    clear hEF
    by_cases hs : sumW E = sumW F
    · rw [decide_eq_true hs] at heq
      have HS := hid hs
      clear hs
      go_enter Tryd.func46, Tryd.ntmps46
      go_upto_region 4 with (go_at_call 10; refine (HE.out _ B1.out).mono ?_; rintro e w1 ⟨p1, c1, rfl, hh⟩; have B2 := hid (holds_base hh B1.out); have C2 := hid (C1.out.on hh.below); clear hh)
      go_upto_region 7 with (go_at_call 10; refine (HF.out _ B2.out.below).mono ?_; rintro e w2 ⟨p2, c2, rfl, hh⟩; have B3 := hid (And.intro (holds_on B2.out hh.below) (holds_base hh B2.out.below)); have C3 := hid (C2.out.on hh.below); clear hh)
      go_wp2_with (first | (go_at_call 63; refine (HQ.out _ _ _ _ _ (holds_at' B3.out.1).1 (holds_at' B3.out.2).1).mono ?_; rintro e w4 ⟨rfl, hb⟩; have B4 := hid (And.intro (holds_on B3.out.1 hb) (holds_on B3.out.2 hb)); have C4 := hid (C3.out.on hb); clear hb C3) | (go_at_call 20; refine (HSE.out _ _ _ B4.out.1.below (holds_at' B4.out.1).1).mono ?_; rintro e w5 ⟨rfl, hb⟩; have B5 := hid (And.intro (holds_on B4.out.1 hb) (holds_on B4.out.2 hb)); have C5 := hid (C4.out.on hb); clear hb C4 B4) | (go_at_call 20; refine (HSF.out _ _ _ B5.out.1.below (holds_at' B5.out.2).1).mono ?_; rintro e w6 ⟨rfl, hb⟩; have B6 := hid (And.intro (holds_on B5.out.1 hb) (holds_on B5.out.2 hb)); have C6 := hid (C5.out.on hb); clear hb C5 B5) | (revert C6; intro C6; refine wpList_store_st rfl 52 _ _ rfl W.heap.size [.slice p1 N c1, .slice p2 M c2] rfl rfl C6.out size52 rfl rfl ?_; intro w7 hc7 hb7 hs7; have X7 : Hid (Holds W w7 .u32 24 (.slice p1 N c1) E ∧ Holds W w7 .u32 24 (.slice p2 M c2) F ∧ Cel w7 W.heap.size 52 [.slice p1 N c1, .slice p2 M c2]) := hid ⟨holds_but B6.out.1 hb7 (Nat.le_refl _) (fun e => cel_ty B6.out.1.own C6.out (by decide) _ e rfl), holds_but B6.out.2 hb7 (Nat.le_refl _) (fun e => cel_ty B6.out.2.own C6.out (by decide) _ e rfl), hc7⟩; clear hc7 hb7 hs7 C6))
      refine ret_pair rfl rfl W.heap.size [.slice p1 N c1, .slice p2 M c2] rfl X7.out.2.2 Tryd.underlying52 rfl size52 (.inr ⟨⟨HC.out, HS.out⟩, p1, c1, p2, c2, rfl, X7.out.1, X7.out.2.1⟩)
    · rw [decide_eq_false hs] at heq
      have HS := hid hs
      clear hs
      go_enter Tryd.func46, Tryd.ntmps46
      go_upto_region 4 with (go_at_call 10; refine (HE.out _ B1.out).mono ?_; rintro e w1 ⟨p1, c1, rfl, hh⟩; have B2 := hid (holds_base hh B1.out); have C2 := hid (C1.out.on hh.below); clear hh)
      go_upto_region 7 with (go_at_call 10; refine (HF.out _ B2.out.below).mono ?_; rintro e w2 ⟨p2, c2, rfl, hh⟩; have B3 := hid (And.intro (holds_on B2.out hh.below) (holds_base hh B2.out.below)); have C3 := hid (C2.out.on hh.below); clear hh)
      go_wp2_with (first | (go_at_call 63; refine (HQ.out _ _ _ _ _ (holds_at' B3.out.1).1 (holds_at' B3.out.2).1).mono ?_; rintro e w4 ⟨rfl, hb⟩; have B4 := hid (And.intro (holds_on B3.out.1 hb) (holds_on B3.out.2 hb)); have C4 := hid (C3.out.on hb); clear hb C3) | (go_at_call 20; refine (HSE.out _ _ _ B4.out.1.below (holds_at' B4.out.1).1).mono ?_; rintro e w5 ⟨rfl, hb⟩; have B5 := hid (And.intro (holds_on B4.out.1 hb) (holds_on B4.out.2 hb)); have C5 := hid (C4.out.on hb); clear hb C4 B4) | (go_at_call 20; refine (HSF.out _ _ _ B5.out.1.below (holds_at' B5.out.2).1).mono ?_; rintro e w6 ⟨rfl, hb⟩; have B6 := hid (And.intro (holds_on B5.out.1 hb) (holds_on B5.out.2 hb)); have C6 := hid (C5.out.on hb); clear hb C5 B5) | (revert C6; intro C6; refine wpList_store_st rfl 52 _ _ rfl W.heap.size nil2 rfl rfl C6.out size52 rfl rfl ?_; intro w7 hc7 hb7 hs7; have X7 := hid (And.intro (B6.out.1.below.trans (hb7.below (Nat.le_refl _) B6.out.1.below.size)) hc7); clear hc7 hb7 hs7 C6))
      refine ret_pair rfl rfl W.heap.size nil2 rfl X7.out.2 Tryd.underlying52 rfl size52 (.inl ⟨.inr HS.out, rfl, X7.out.1⟩)
end Go.Proofs.YtmomidkodjihjaaDoor
