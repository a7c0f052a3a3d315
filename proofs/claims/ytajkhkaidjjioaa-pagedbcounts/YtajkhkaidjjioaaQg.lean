/- The law's laid 27. -/
import Derived.Test.YtajkhkaidjjioaaQf
namespace Go.Proofs.Ytajkhkaidjjioaa
open Go.RowKit
set_option maxHeartbeats 4000000
set_option maxRecDepth 100000
structure L2 (W x : World) (f : Fp) (m : MS) (g : Fp) (n : MS) (L : List (Nat × TypeId × List Value)) : Prop where
  a : Mem x f m
  b : Mem x g n
  bag : Bag W x L
theorem L2.on {W x x' : World} {f g : Fp} {m n : MS} {L : List (Nat × TypeId × List Value)} (h : L2 W x f m g n L) (hb : Below x.heap.size x x') : L2 W x' f m g n L := ⟨h.a.on hb, h.b.on hb, h.bag.on hb⟩
theorem L2.add {W x x2 : World} {f g : Fp} {m n : MS} {L : List (Nat × TypeId × List Value)} {u : TypeId} {ds es : List Value} (h : L2 W x f m g n L) (hc : Cel x2 x.heap.size u es) (hb : ButL [x.heap.size] (x.alloc (.cells ds.toArray u)) x2) : L2 W x2 f m g n ((x.heap.size, u, es) :: L) := by
  have h1 := h.on (below_one x (.cells ds.toArray u))
  exact ⟨h1.a.frame hb (fun k hk hm => by rw [List.mem_singleton] at hm; have := h.a.lt k hk; omega), h1.b.frame hb (fun k hk hm => by rw [List.mem_singleton] at hm; have := h.b.lt k hk; omega), h.bag.add hc hb⟩
def wantL (n : MS) (o : Oq) (done : Bool) (births p off : Int) : Int :=
  if done = true ∧ p = o.a ∧ o.k = 1 ∧ off < 3 then (if off = 0 then o.b % 4294967296 else if off = 1 then births % 4294967296 else 0) else if done = true ∧ p = o.a ∧ (o.k = 3 ∨ o.k = 4) then 0 else n.word true p off
theorem built54 (p : Int) : Try.prog.built 54 [(0, .bool true), (1, .int .i64 p)] = some #[.bool true, .int .i64 p] := by kernel_rfl
theorem size54 : (Try.prog.info? 54).map (·.size) = some 2 := by kernel_rfl
theorem under54 : Try.prog.underlying 54 = some (.struct (Try.prog.fieldsOf 54)) := by kernel_rfl
theorem laid_any (W : World) (f g : Fp) (m n : MS) (hm : Mem W f m) (hn : Mem W g n) (p : Int) (o : Oq) (done : Bool) (births : Int) (h : ∀ off : Nat, off < 1024 → m.word true p (off : Int) = wantL n o done births p (off : Int)) :
    Calls Try.prog 27 #[ptr f.gm, ptr g.gm, .int .i64 p, o.val, .bool done, .int .i64 births] W fun e W' => e = .returned (.bool true) ∧ Below W.heap.size W W' := by
  have L0 : Hid (L2 W (W.alloc (.cells o.cs.toArray 29)) f m g n [(W.heap.size, 29, o.cs)]) := hid ⟨hm.on (below_one _ _), hn.on (below_one _ _), bag_one _ _ _⟩
  have HPm := hid (fun x (hx : Mem x f m) (off : Int) => peek_any x f m hx true p off)
  have HPn := hid (fun x (hx : Mem x g n) (off : Int) => peek_any x g n hx true p off)
  have HH := hid h
  clear hm hn h
  obtain ⟨k, dd, a, b, t, on, off0, v⟩ := o
  unfold wantL at HH
  simp only [Oq.val, Oq.cs, ptr, fr] at *
  cases done
  · have HW0 : Hid (∀ off : Nat, off < 1024 → m.word true p (off : Int) = n.word true p (off : Int)) := hid (fun off h => by have hh := HH.out off h; simpa  using hh)
    clear HH
    go_enter Try.func27, Try.ntmps27
    go_upto_region 1 with fail
    generalize W.alloc _ = X at *
    generalize hg9 : W.heap.size = g9 at L0 ⊢
    clear hg9
    go_upto_region 2 with (first | (refine wpList_build_f rfl 54 _ rfl #[(0, .bool true), (1, .int .i64 p)] (by rfl) _ (built54 p) ?_) | (refine wpList_store_st rfl 54 _ _ rfl X.heap.size [.bool true, .int .i64 p] rfl rfl (Cel.new X 54 [.bool false, .int .i64 0]) size54 rfl rfl ?_; intro w1 hc hb hs; have L1 := hid (L0.out.add hc hb); clear hc hb hs))
    clear L0
    generalize X.heap.size = g13 at *
    go_wp2_with fail
    go_loopw [14] (fun i wr => ∃ j : Nat, j ≤ 1024 ∧ i = .int .i64 (j : Int) ∧ Hid (L2 W wr f m g n [(g13, 54, [.bool true, .int .i64 p]), (g9, 29, [.int .i64 k, .int .i64 dd, .int .i64 a, .int .i64 b, .int .i64 t, .bool on, .int .i64 off0, .int .u32 v])])) (fun i _ => 1024 - (intOf i).toNat)
    case atStart => exact ⟨0, Nat.zero_le _, rfl, L1⟩
    case round =>
      obtain ⟨j, hj, rfl, HQ⟩ := hrel
      clear L1
      by_cases hlt : j < 1024
      · have q1 : (j : Int) < 1024 := by omega
        have HJ : Hid (j < 1024) := hid hlt
        clear hlt hj
        have T0 : Hid True := hid trivial
        go_upto_region 6 with (first | (revert T0; intro T0; refine wpList_load_mid rfl 54 _ rfl g13 0 rfl _ _ ((HQ.out.bag.get 0 rfl).range) under54 rfl (by rw [size54]; rfl) ?_; clear T0 ; have T1 : Hid True := hid trivial) | (go_at_call 40; revert T1; intro T1; refine (HPn.out _ HQ.out.b (j : Int)).mono ?_; rintro e w2 ⟨rfl, hb⟩; have HQ2 := hid (HQ.out.on hb); clear hb; clear T1 ; have T2 : Hid True := hid trivial))
        clear HQ
        have c0 := (HQ2.out.bag.get 1 rfl).cell 0
        have c2 := (HQ2.out.bag.get 1 rfl).cell 2
        have c3 := (HQ2.out.bag.get 1 rfl).cell 3
        simp only [List.getElem?_cons_zero, List.getElem?_cons_succ] at c0 c2 c3
        go_upto_region 10 with fail
        have HPj := hid (HPm.out _ HQ2.out.a (j : Int))
        rw [HW0.out j HJ.out] at HPj
        go_wp2_with (first | (revert T2; intro T2; refine wpList_load_mid rfl 54 _ rfl g13 0 rfl _ _ ((HQ2.out.bag.get 0 rfl).range) under54 rfl (by rw [size54]; rfl) ?_; clear T2 ; have T3 : Hid True := hid trivial) | (go_at_call 40; revert T3; intro T3; refine (HPj.out).mono ?_; rintro e w4 ⟨rfl, hb⟩; have HQ4 := hid (HQ2.out.on hb); clear hb; clear T3 ; have T4 : Hid True := hid trivial))
        go_roundw
        case measure => have := HJ.out; simp [intOf] <;> omega
        case rel => exact ⟨j + 1, by have := HJ.out; omega, by simp, HQ4⟩
      · have hj4 : j = 1024 := by omega
        subst hj4
        clear hlt hj
        rw [show ((1024 : Nat) : Int) = 1024 from rfl]
        go_wp2_with fail
        go_ret
        exact ⟨rfl, HQ.out.bag.below⟩
  by_cases h1 : p = a
  · subst h1
    by_cases k1 : k = 1
    · subst k1
      have HW0 : Hid (m.word true p 0 = b % 4294967296 ∧ m.word true p 1 = births % 4294967296 ∧ m.word true p 2 = 0 ∧ ∀ off : Nat, off < 1024 → 3 ≤ off → m.word true p (off : Int) = n.word true p (off : Int)) := hid ⟨by simpa using HH.out 0 (by decide), by simpa using HH.out 1 (by decide), by simpa using HH.out 2 (by decide), fun off h h3 => by have hh := HH.out off h; have e : ¬ ((off : Int) < 3) := (by omega); simpa [e] using hh⟩
      clear HH
      go_enter Try.func27, Try.ntmps27
      go_upto_region 1 with fail
      generalize W.alloc _ = X at *
      generalize hg9 : W.heap.size = g9 at L0 ⊢
      clear hg9
      go_upto_region 2 with (first | (refine wpList_build_f rfl 54 _ rfl #[(0, .bool true), (1, .int .i64 p)] (by rfl) _ (built54 p) ?_) | (refine wpList_store_st rfl 54 _ _ rfl X.heap.size [.bool true, .int .i64 p] rfl rfl (Cel.new X 54 [.bool false, .int .i64 0]) size54 rfl rfl ?_; intro w1 hc hb hs; have L1 := hid (L0.out.add hc hb); clear hc hb hs))
      clear L0
      generalize X.heap.size = g13 at *
      go_wp2_with fail
      go_loopw [14] (fun i wr => ∃ j : Nat, j ≤ 1024 ∧ i = .int .i64 (j : Int) ∧ Hid (L2 W wr f m g n [(g13, 54, [.bool true, .int .i64 p]), (g9, 29, [.int .i64 1, .int .i64 dd, .int .i64 p, .int .i64 b, .int .i64 t, .bool on, .int .i64 off0, .int .u32 v])])) (fun i _ => 1024 - (intOf i).toNat)
      case atStart => exact ⟨0, Nat.zero_le _, rfl, L1⟩
      case round =>
        obtain ⟨j, hj, rfl, HQ⟩ := hrel
        clear L1
        by_cases hlt : j < 1024
        · have q1 : (j : Int) < 1024 := by omega
          have HJ : Hid (j < 1024) := hid hlt
          by_cases h3 : j < 3
          · clear HJ q1 hj hlt
            rcases (show j = 0 ∨ j = 1 ∨ j = 2 by omega) with rfl | rfl | rfl
            · clear h3
              skip
              rw [show ((0 : Nat) : Int) = 0 from rfl]
              have T0 : Hid True := hid trivial
              go_upto_region 6 with (first | (revert T0; intro T0; refine wpList_load_mid rfl 54 _ rfl g13 0 rfl _ _ ((HQ.out.bag.get 0 rfl).range) under54 rfl (by rw [size54]; rfl) ?_; clear T0 ; have T1 : Hid True := hid trivial) | (go_at_call 40; revert T1; intro T1; refine (HPn.out _ HQ.out.b 0).mono ?_; rintro e w2 ⟨rfl, hb⟩; have HQ2 := hid (HQ.out.on hb); clear hb; clear T1 ; have T2 : Hid True := hid trivial))
              clear HQ
              have c0 := (HQ2.out.bag.get 1 rfl).cell 0
              have c2 := (HQ2.out.bag.get 1 rfl).cell 2
              have c3 := (HQ2.out.bag.get 1 rfl).cell 3
              simp only [List.getElem?_cons_zero, List.getElem?_cons_succ] at c0 c2 c3
              go_upto_region 9 with fail
              have HBn := hid (below_one w2 (.cells #[.int .u32 (b % 4294967296), .int .u32 (births % 4294967296), .int .u32 0] 27))
              have HCn := hid (Cel.new w2 27 [.int .u32 (b % 4294967296), .int .u32 (births % 4294967296), .int .u32 0])
              have HQ3 := hid (HQ2.out.on HBn.out)
              have cn := HCn.out.cell 0
              simp only [List.getElem?_cons_zero] at cn
              go_upto_region 10 with fail
              generalize w2.alloc _ = w3 at *
              have HPj := hid (HPm.out _ HQ3.out.a 0)
              rw [HW0.out.1] at HPj
              go_wp2_with (first | (revert T2; intro T2; refine wpList_load_mid rfl 54 _ rfl g13 0 rfl _ _ ((HQ3.out.bag.get 0 rfl).range) under54 rfl (by rw [size54]; rfl) ?_; clear T2 ; have T3 : Hid True := hid trivial) | (go_at_call 40; revert T3; intro T3; refine (HPj.out).mono ?_; rintro e w4 ⟨rfl, hb⟩; have HQ4 := hid (HQ3.out.on hb); clear hb; clear T3 ; have T4 : Hid True := hid trivial))
              go_roundw
              case measure => simp [intOf] <;> omega
              case rel => exact ⟨1, by decide, by simp, HQ4⟩
            · clear h3
              skip
              rw [show ((1 : Nat) : Int) = 1 from rfl]
              have T0 : Hid True := hid trivial
              go_upto_region 6 with (first | (revert T0; intro T0; refine wpList_load_mid rfl 54 _ rfl g13 0 rfl _ _ ((HQ.out.bag.get 0 rfl).range) under54 rfl (by rw [size54]; rfl) ?_; clear T0 ; have T1 : Hid True := hid trivial) | (go_at_call 40; revert T1; intro T1; refine (HPn.out _ HQ.out.b 1).mono ?_; rintro e w2 ⟨rfl, hb⟩; have HQ2 := hid (HQ.out.on hb); clear hb; clear T1 ; have T2 : Hid True := hid trivial))
              clear HQ
              have c0 := (HQ2.out.bag.get 1 rfl).cell 0
              have c2 := (HQ2.out.bag.get 1 rfl).cell 2
              have c3 := (HQ2.out.bag.get 1 rfl).cell 3
              simp only [List.getElem?_cons_zero, List.getElem?_cons_succ] at c0 c2 c3
              go_upto_region 9 with fail
              have HBn := hid (below_one w2 (.cells #[.int .u32 (b % 4294967296), .int .u32 (births % 4294967296), .int .u32 0] 27))
              have HCn := hid (Cel.new w2 27 [.int .u32 (b % 4294967296), .int .u32 (births % 4294967296), .int .u32 0])
              have HQ3 := hid (HQ2.out.on HBn.out)
              have cn := HCn.out.cell 1
              simp only [List.getElem?_cons_zero, List.getElem?_cons_succ] at cn
              go_upto_region 10 with fail
              generalize w2.alloc _ = w3 at *
              have HPj := hid (HPm.out _ HQ3.out.a 1)
              rw [HW0.out.2.1] at HPj
              go_wp2_with (first | (revert T2; intro T2; refine wpList_load_mid rfl 54 _ rfl g13 0 rfl _ _ ((HQ3.out.bag.get 0 rfl).range) under54 rfl (by rw [size54]; rfl) ?_; clear T2 ; have T3 : Hid True := hid trivial) | (go_at_call 40; revert T3; intro T3; refine (HPj.out).mono ?_; rintro e w4 ⟨rfl, hb⟩; have HQ4 := hid (HQ3.out.on hb); clear hb; clear T3 ; have T4 : Hid True := hid trivial))
              go_roundw
              case measure => simp [intOf] <;> omega
              case rel => exact ⟨2, by decide, by simp, HQ4⟩
            · clear h3
              skip
              rw [show ((2 : Nat) : Int) = 2 from rfl]
              have T0 : Hid True := hid trivial
              go_upto_region 6 with (first | (revert T0; intro T0; refine wpList_load_mid rfl 54 _ rfl g13 0 rfl _ _ ((HQ.out.bag.get 0 rfl).range) under54 rfl (by rw [size54]; rfl) ?_; clear T0 ; have T1 : Hid True := hid trivial) | (go_at_call 40; revert T1; intro T1; refine (HPn.out _ HQ.out.b 2).mono ?_; rintro e w2 ⟨rfl, hb⟩; have HQ2 := hid (HQ.out.on hb); clear hb; clear T1 ; have T2 : Hid True := hid trivial))
              clear HQ
              have c0 := (HQ2.out.bag.get 1 rfl).cell 0
              have c2 := (HQ2.out.bag.get 1 rfl).cell 2
              have c3 := (HQ2.out.bag.get 1 rfl).cell 3
              simp only [List.getElem?_cons_zero, List.getElem?_cons_succ] at c0 c2 c3
              go_upto_region 9 with fail
              have HBn := hid (below_one w2 (.cells #[.int .u32 (b % 4294967296), .int .u32 (births % 4294967296), .int .u32 0] 27))
              have HCn := hid (Cel.new w2 27 [.int .u32 (b % 4294967296), .int .u32 (births % 4294967296), .int .u32 0])
              have HQ3 := hid (HQ2.out.on HBn.out)
              have cn := HCn.out.cell 2
              simp only [List.getElem?_cons_zero, List.getElem?_cons_succ] at cn
              go_upto_region 10 with fail
              generalize w2.alloc _ = w3 at *
              have HPj := hid (HPm.out _ HQ3.out.a 2)
              rw [HW0.out.2.2.1] at HPj
              go_wp2_with (first | (revert T2; intro T2; refine wpList_load_mid rfl 54 _ rfl g13 0 rfl _ _ ((HQ3.out.bag.get 0 rfl).range) under54 rfl (by rw [size54]; rfl) ?_; clear T2 ; have T3 : Hid True := hid trivial) | (go_at_call 40; revert T3; intro T3; refine (HPj.out).mono ?_; rintro e w4 ⟨rfl, hb⟩; have HQ4 := hid (HQ3.out.on hb); clear hb; clear T3 ; have T4 : Hid True := hid trivial))
              go_roundw
              case measure => simp [intOf] <;> omega
              case rel => exact ⟨3, by decide, by simp, HQ4⟩
          · have H3 : Hid (¬ j < 3) := hid h3
            have q3 : (3 : Int) ≤ (j : Int) := by omega
            clear h3 hlt hj
            have T0 : Hid True := hid trivial
            go_upto_region 6 with (first | (revert T0; intro T0; refine wpList_load_mid rfl 54 _ rfl g13 0 rfl _ _ ((HQ.out.bag.get 0 rfl).range) under54 rfl (by rw [size54]; rfl) ?_; clear T0 ; have T1 : Hid True := hid trivial) | (go_at_call 40; revert T1; intro T1; refine (HPn.out _ HQ.out.b (j : Int)).mono ?_; rintro e w2 ⟨rfl, hb⟩; have HQ2 := hid (HQ.out.on hb); clear hb; clear T1 ; have T2 : Hid True := hid trivial))
            clear HQ
            have c0 := (HQ2.out.bag.get 1 rfl).cell 0
            have c2 := (HQ2.out.bag.get 1 rfl).cell 2
            have c3 := (HQ2.out.bag.get 1 rfl).cell 3
            simp only [List.getElem?_cons_zero, List.getElem?_cons_succ] at c0 c2 c3
            go_upto_region 10 with fail
            have HPj := hid (HPm.out _ HQ2.out.a (j : Int))
            rw [HW0.out.2.2.2 j HJ.out (by have := H3.out; omega)] at HPj
            go_wp2_with (first | (revert T2; intro T2; refine wpList_load_mid rfl 54 _ rfl g13 0 rfl _ _ ((HQ2.out.bag.get 0 rfl).range) under54 rfl (by rw [size54]; rfl) ?_; clear T2 ; have T3 : Hid True := hid trivial) | (go_at_call 40; revert T3; intro T3; refine (HPj.out).mono ?_; rintro e w4 ⟨rfl, hb⟩; have HQ4 := hid (HQ2.out.on hb); clear hb; clear T3 ; have T4 : Hid True := hid trivial))
            go_roundw
            case measure => have := HJ.out; simp [intOf] <;> omega
            case rel => exact ⟨j + 1, by have := HJ.out; omega, by simp, HQ4⟩
        · have hj4 : j = 1024 := by omega
          subst hj4
          clear hlt hj
          rw [show ((1024 : Nat) : Int) = 1024 from rfl]
          go_wp2_with fail
          go_ret
          exact ⟨rfl, HQ.out.bag.below⟩
    · by_cases k3 : k = 3
      · subst k3
        have HW0 : Hid (∀ off : Nat, off < 1024 → m.word true p (off : Int) = 0) := hid (fun off h => by have hh := HH.out off h; simpa  using hh)
        clear HH
        go_enter Try.func27, Try.ntmps27
        go_upto_region 1 with fail
        generalize W.alloc _ = X at *
        generalize hg9 : W.heap.size = g9 at L0 ⊢
        clear hg9
        go_upto_region 2 with (first | (refine wpList_build_f rfl 54 _ rfl #[(0, .bool true), (1, .int .i64 p)] (by rfl) _ (built54 p) ?_) | (refine wpList_store_st rfl 54 _ _ rfl X.heap.size [.bool true, .int .i64 p] rfl rfl (Cel.new X 54 [.bool false, .int .i64 0]) size54 rfl rfl ?_; intro w1 hc hb hs; have L1 := hid (L0.out.add hc hb); clear hc hb hs))
        clear L0
        generalize X.heap.size = g13 at *
        go_wp2_with fail
        go_loopw [14] (fun i wr => ∃ j : Nat, j ≤ 1024 ∧ i = .int .i64 (j : Int) ∧ Hid (L2 W wr f m g n [(g13, 54, [.bool true, .int .i64 p]), (g9, 29, [.int .i64 3, .int .i64 dd, .int .i64 p, .int .i64 b, .int .i64 t, .bool on, .int .i64 off0, .int .u32 v])])) (fun i _ => 1024 - (intOf i).toNat)
        case atStart => exact ⟨0, Nat.zero_le _, rfl, L1⟩
        case round =>
          obtain ⟨j, hj, rfl, HQ⟩ := hrel
          clear L1
          by_cases hlt : j < 1024
          · have q1 : (j : Int) < 1024 := by omega
            have HJ : Hid (j < 1024) := hid hlt
            clear hlt hj
            have T0 : Hid True := hid trivial
            go_upto_region 6 with (first | (revert T0; intro T0; refine wpList_load_mid rfl 54 _ rfl g13 0 rfl _ _ ((HQ.out.bag.get 0 rfl).range) under54 rfl (by rw [size54]; rfl) ?_; clear T0 ; have T1 : Hid True := hid trivial) | (go_at_call 40; revert T1; intro T1; refine (HPn.out _ HQ.out.b (j : Int)).mono ?_; rintro e w2 ⟨rfl, hb⟩; have HQ2 := hid (HQ.out.on hb); clear hb; clear T1 ; have T2 : Hid True := hid trivial))
            clear HQ
            have c0 := (HQ2.out.bag.get 1 rfl).cell 0
            have c2 := (HQ2.out.bag.get 1 rfl).cell 2
            have c3 := (HQ2.out.bag.get 1 rfl).cell 3
            simp only [List.getElem?_cons_zero, List.getElem?_cons_succ] at c0 c2 c3
            go_upto_region 10 with fail
            have HPj := hid (HPm.out _ HQ2.out.a (j : Int))
            rw [HW0.out j HJ.out] at HPj
            go_wp2_with (first | (revert T2; intro T2; refine wpList_load_mid rfl 54 _ rfl g13 0 rfl _ _ ((HQ2.out.bag.get 0 rfl).range) under54 rfl (by rw [size54]; rfl) ?_; clear T2 ; have T3 : Hid True := hid trivial) | (go_at_call 40; revert T3; intro T3; refine (HPj.out).mono ?_; rintro e w4 ⟨rfl, hb⟩; have HQ4 := hid (HQ2.out.on hb); clear hb; clear T3 ; have T4 : Hid True := hid trivial))
            go_roundw
            case measure => have := HJ.out; simp [intOf] <;> omega
            case rel => exact ⟨j + 1, by have := HJ.out; omega, by simp, HQ4⟩
          · have hj4 : j = 1024 := by omega
            subst hj4
            clear hlt hj
            rw [show ((1024 : Nat) : Int) = 1024 from rfl]
            go_wp2_with fail
            go_ret
            exact ⟨rfl, HQ.out.bag.below⟩
      · by_cases k4 : k = 4
        · subst k4
          have HW0 : Hid (∀ off : Nat, off < 1024 → m.word true p (off : Int) = 0) := hid (fun off h => by have hh := HH.out off h; simpa  using hh)
          clear HH
          go_enter Try.func27, Try.ntmps27
          go_upto_region 1 with fail
          generalize W.alloc _ = X at *
          generalize hg9 : W.heap.size = g9 at L0 ⊢
          clear hg9
          go_upto_region 2 with (first | (refine wpList_build_f rfl 54 _ rfl #[(0, .bool true), (1, .int .i64 p)] (by rfl) _ (built54 p) ?_) | (refine wpList_store_st rfl 54 _ _ rfl X.heap.size [.bool true, .int .i64 p] rfl rfl (Cel.new X 54 [.bool false, .int .i64 0]) size54 rfl rfl ?_; intro w1 hc hb hs; have L1 := hid (L0.out.add hc hb); clear hc hb hs))
          clear L0
          generalize X.heap.size = g13 at *
          go_wp2_with fail
          go_loopw [14] (fun i wr => ∃ j : Nat, j ≤ 1024 ∧ i = .int .i64 (j : Int) ∧ Hid (L2 W wr f m g n [(g13, 54, [.bool true, .int .i64 p]), (g9, 29, [.int .i64 4, .int .i64 dd, .int .i64 p, .int .i64 b, .int .i64 t, .bool on, .int .i64 off0, .int .u32 v])])) (fun i _ => 1024 - (intOf i).toNat)
          case atStart => exact ⟨0, Nat.zero_le _, rfl, L1⟩
          case round =>
            obtain ⟨j, hj, rfl, HQ⟩ := hrel
            clear L1
            by_cases hlt : j < 1024
            · have q1 : (j : Int) < 1024 := by omega
              have HJ : Hid (j < 1024) := hid hlt
              clear hlt hj
              have T0 : Hid True := hid trivial
              go_upto_region 6 with (first | (revert T0; intro T0; refine wpList_load_mid rfl 54 _ rfl g13 0 rfl _ _ ((HQ.out.bag.get 0 rfl).range) under54 rfl (by rw [size54]; rfl) ?_; clear T0 ; have T1 : Hid True := hid trivial) | (go_at_call 40; revert T1; intro T1; refine (HPn.out _ HQ.out.b (j : Int)).mono ?_; rintro e w2 ⟨rfl, hb⟩; have HQ2 := hid (HQ.out.on hb); clear hb; clear T1 ; have T2 : Hid True := hid trivial))
              clear HQ
              have c0 := (HQ2.out.bag.get 1 rfl).cell 0
              have c2 := (HQ2.out.bag.get 1 rfl).cell 2
              have c3 := (HQ2.out.bag.get 1 rfl).cell 3
              simp only [List.getElem?_cons_zero, List.getElem?_cons_succ] at c0 c2 c3
              go_upto_region 10 with fail
              have HPj := hid (HPm.out _ HQ2.out.a (j : Int))
              rw [HW0.out j HJ.out] at HPj
              go_wp2_with (first | (revert T2; intro T2; refine wpList_load_mid rfl 54 _ rfl g13 0 rfl _ _ ((HQ2.out.bag.get 0 rfl).range) under54 rfl (by rw [size54]; rfl) ?_; clear T2 ; have T3 : Hid True := hid trivial) | (go_at_call 40; revert T3; intro T3; refine (HPj.out).mono ?_; rintro e w4 ⟨rfl, hb⟩; have HQ4 := hid (HQ2.out.on hb); clear hb; clear T3 ; have T4 : Hid True := hid trivial))
              go_roundw
              case measure => have := HJ.out; simp [intOf] <;> omega
              case rel => exact ⟨j + 1, by have := HJ.out; omega, by simp, HQ4⟩
            · have hj4 : j = 1024 := by omega
              subst hj4
              clear hlt hj
              rw [show ((1024 : Nat) : Int) = 1024 from rfl]
              go_wp2_with fail
              go_ret
              exact ⟨rfl, HQ.out.bag.below⟩
        · have q1 : (k == 1) = false := by simpa using k1
          have q3 : (k == 3) = false := by simpa using k3
          have q4 : (k == 4) = false := by simpa using k4
          have HW0 : Hid (∀ off : Nat, off < 1024 → m.word true p (off : Int) = n.word true p (off : Int)) := hid (fun off h => by have hh := HH.out off h; simpa [k1, k3, k4] using hh)
          clear HH
          clear k1 k3 k4
          go_enter Try.func27, Try.ntmps27
          go_upto_region 1 with fail
          generalize W.alloc _ = X at *
          generalize hg9 : W.heap.size = g9 at L0 ⊢
          clear hg9
          go_upto_region 2 with (first | (refine wpList_build_f rfl 54 _ rfl #[(0, .bool true), (1, .int .i64 p)] (by rfl) _ (built54 p) ?_) | (refine wpList_store_st rfl 54 _ _ rfl X.heap.size [.bool true, .int .i64 p] rfl rfl (Cel.new X 54 [.bool false, .int .i64 0]) size54 rfl rfl ?_; intro w1 hc hb hs; have L1 := hid (L0.out.add hc hb); clear hc hb hs))
          clear L0
          generalize X.heap.size = g13 at *
          go_wp2_with fail
          go_loopw [14] (fun i wr => ∃ j : Nat, j ≤ 1024 ∧ i = .int .i64 (j : Int) ∧ Hid (L2 W wr f m g n [(g13, 54, [.bool true, .int .i64 p]), (g9, 29, [.int .i64 k, .int .i64 dd, .int .i64 p, .int .i64 b, .int .i64 t, .bool on, .int .i64 off0, .int .u32 v])])) (fun i _ => 1024 - (intOf i).toNat)
          case atStart => exact ⟨0, Nat.zero_le _, rfl, L1⟩
          case round =>
            obtain ⟨j, hj, rfl, HQ⟩ := hrel
            clear L1
            by_cases hlt : j < 1024
            · have q1 : (j : Int) < 1024 := by omega
              have HJ : Hid (j < 1024) := hid hlt
              clear hlt hj
              have T0 : Hid True := hid trivial
              go_upto_region 6 with (first | (revert T0; intro T0; refine wpList_load_mid rfl 54 _ rfl g13 0 rfl _ _ ((HQ.out.bag.get 0 rfl).range) under54 rfl (by rw [size54]; rfl) ?_; clear T0 ; have T1 : Hid True := hid trivial) | (go_at_call 40; revert T1; intro T1; refine (HPn.out _ HQ.out.b (j : Int)).mono ?_; rintro e w2 ⟨rfl, hb⟩; have HQ2 := hid (HQ.out.on hb); clear hb; clear T1 ; have T2 : Hid True := hid trivial))
              clear HQ
              have c0 := (HQ2.out.bag.get 1 rfl).cell 0
              have c2 := (HQ2.out.bag.get 1 rfl).cell 2
              have c3 := (HQ2.out.bag.get 1 rfl).cell 3
              simp only [List.getElem?_cons_zero, List.getElem?_cons_succ] at c0 c2 c3
              go_upto_region 10 with fail
              have HPj := hid (HPm.out _ HQ2.out.a (j : Int))
              rw [HW0.out j HJ.out] at HPj
              go_wp2_with (first | (revert T2; intro T2; refine wpList_load_mid rfl 54 _ rfl g13 0 rfl _ _ ((HQ2.out.bag.get 0 rfl).range) under54 rfl (by rw [size54]; rfl) ?_; clear T2 ; have T3 : Hid True := hid trivial) | (go_at_call 40; revert T3; intro T3; refine (HPj.out).mono ?_; rintro e w4 ⟨rfl, hb⟩; have HQ4 := hid (HQ2.out.on hb); clear hb; clear T3 ; have T4 : Hid True := hid trivial))
              go_roundw
              case measure => have := HJ.out; simp [intOf] <;> omega
              case rel => exact ⟨j + 1, by have := HJ.out; omega, by simp, HQ4⟩
            · have hj4 : j = 1024 := by omega
              subst hj4
              clear hlt hj
              rw [show ((1024 : Nat) : Int) = 1024 from rfl]
              go_wp2_with fail
              go_ret
              exact ⟨rfl, HQ.out.bag.below⟩
  · have h1' : (p == a) = false := by simpa using h1
    have HW0 : Hid (∀ off : Nat, off < 1024 → m.word true p (off : Int) = n.word true p (off : Int)) := hid (fun off h => by have hh := HH.out off h; simpa [h1] using hh)
    clear HH
    clear h1
    go_enter Try.func27, Try.ntmps27
    go_upto_region 1 with fail
    generalize W.alloc _ = X at *
    generalize hg9 : W.heap.size = g9 at L0 ⊢
    clear hg9
    go_upto_region 2 with (first | (refine wpList_build_f rfl 54 _ rfl #[(0, .bool true), (1, .int .i64 p)] (by rfl) _ (built54 p) ?_) | (refine wpList_store_st rfl 54 _ _ rfl X.heap.size [.bool true, .int .i64 p] rfl rfl (Cel.new X 54 [.bool false, .int .i64 0]) size54 rfl rfl ?_; intro w1 hc hb hs; have L1 := hid (L0.out.add hc hb); clear hc hb hs))
    clear L0
    generalize X.heap.size = g13 at *
    go_wp2_with fail
    go_loopw [14] (fun i wr => ∃ j : Nat, j ≤ 1024 ∧ i = .int .i64 (j : Int) ∧ Hid (L2 W wr f m g n [(g13, 54, [.bool true, .int .i64 p]), (g9, 29, [.int .i64 k, .int .i64 dd, .int .i64 a, .int .i64 b, .int .i64 t, .bool on, .int .i64 off0, .int .u32 v])])) (fun i _ => 1024 - (intOf i).toNat)
    case atStart => exact ⟨0, Nat.zero_le _, rfl, L1⟩
    case round =>
      obtain ⟨j, hj, rfl, HQ⟩ := hrel
      clear L1
      by_cases hlt : j < 1024
      · have q1 : (j : Int) < 1024 := by omega
        have HJ : Hid (j < 1024) := hid hlt
        clear hlt hj
        have T0 : Hid True := hid trivial
        go_upto_region 6 with (first | (revert T0; intro T0; refine wpList_load_mid rfl 54 _ rfl g13 0 rfl _ _ ((HQ.out.bag.get 0 rfl).range) under54 rfl (by rw [size54]; rfl) ?_; clear T0 ; have T1 : Hid True := hid trivial) | (go_at_call 40; revert T1; intro T1; refine (HPn.out _ HQ.out.b (j : Int)).mono ?_; rintro e w2 ⟨rfl, hb⟩; have HQ2 := hid (HQ.out.on hb); clear hb; clear T1 ; have T2 : Hid True := hid trivial))
        clear HQ
        have c0 := (HQ2.out.bag.get 1 rfl).cell 0
        have c2 := (HQ2.out.bag.get 1 rfl).cell 2
        have c3 := (HQ2.out.bag.get 1 rfl).cell 3
        simp only [List.getElem?_cons_zero, List.getElem?_cons_succ] at c0 c2 c3
        go_upto_region 10 with fail
        have HPj := hid (HPm.out _ HQ2.out.a (j : Int))
        rw [HW0.out j HJ.out] at HPj
        go_wp2_with (first | (revert T2; intro T2; refine wpList_load_mid rfl 54 _ rfl g13 0 rfl _ _ ((HQ2.out.bag.get 0 rfl).range) under54 rfl (by rw [size54]; rfl) ?_; clear T2 ; have T3 : Hid True := hid trivial) | (go_at_call 40; revert T3; intro T3; refine (HPj.out).mono ?_; rintro e w4 ⟨rfl, hb⟩; have HQ4 := hid (HQ2.out.on hb); clear hb; clear T3 ; have T4 : Hid True := hid trivial))
        go_roundw
        case measure => have := HJ.out; simp [intOf] <;> omega
        case rel => exact ⟨j + 1, by have := HJ.out; omega, by simp, HQ4⟩
      · have hj4 : j = 1024 := by omega
        subst hj4
        clear hlt hj
        rw [show ((1024 : Nat) : Int) = 1024 from rfl]
        go_wp2_with fail
        go_ret
        exact ⟨rfl, HQ.out.bag.below⟩
end Go.Proofs.Ytajkhkaidjjioaa
