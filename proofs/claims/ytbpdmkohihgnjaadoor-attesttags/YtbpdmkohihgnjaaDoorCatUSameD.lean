/- slices.Concat and slices.Grow over words. Package word: Same; package mac: Same. -/
import Derived.Test.YtbpdmkohihgnjaaDoorCatMNew
import Derived.Test.YtbpdmkohihgnjaaDoorMthWrdDigLMKey
import Derived.Laws.BitsAllLaws
namespace Go.Proofs.YtbpdmkohihgnjaaDoor
open Go.RowKit
set_option maxRecDepth 20000 in
set_option maxHeartbeats 400000 in
theorem growU_any (W : World) (n : Nat) (hn : n ≤ 1000000) :
    Calls Tryd.prog 63 #[.slice none 0 0, .int .i64 (n : Int)] W fun e W' => ∃ v, e = .returned v ∧ Holds W W' .u32 22 v [] := by
  obtain ⟨i0, hi, hz0, hz1, hz2⟩ := info_parts Tryd.info22
  have i1 : (n : Int) ≤ 140737488355328 := by omega
  by_cases h0 : n = 0
  · subst h0
    have HH : Hid (Holds W W .u32 22 (.slice none 0 0) []) := Holds.start _ _ _
    go_enter Tryd.func63, Tryd.ntmps63
    go_wp2
    go_ret
    exact ⟨_, rfl, HH.out⟩
  · have i2 : (0 : Int) < (n : Int) := by omega
    have hr := Lib.run_append_nil_zeros (P := Tryd.prog) W 25 3 25 22 i0 (.int .u32 0) .i64 .i64 Tryd.underlying25 Tryd.underlying3 hi hz0 n (by omega) (by omega) (by omega) (by rw [hz2]; omega)
    have hge := grownCap_ge W n 0 22
    have hle := grownCap_le_maxLen W n 0 22 (by unfold maxLen; omega)
    generalize grownCap W n 0 22 = cap at *
    have HH : Hid (Holds W (W.drew.alloc (.cells (Builtin.zeroCells (Value.cells (.int .u32 0)) n ++ Builtin.zeroCells (Value.cells (.int .u32 0)) (cap - n)) 22)) .u32 22 (.slice (some ⟨W.heap.size, 0, none⟩) 0 cap) []) := by
      refine ⟨?_, (Below.refl W.heap.size W).drew.alloc (by simp) _⟩
      have := World.ownsRow_made (base := W.heap.size) (e := 22) (size := 1) W.drew (Builtin.zeroCells (Value.cells (.int .u32 0)) n ++ Builtin.zeroCells (Value.cells (.int .u32 0)) (cap - n)) cap (by simp) hle (by simp [Builtin.zeroCells, Value.cells]; omega)
      simpa using this
    generalize (W.drew.alloc (.cells (Builtin.zeroCells (Value.cells (.int .u32 0)) n ++ Builtin.zeroCells (Value.cells (.int .u32 0)) (cap - n)) 22)) = X at *
    clear hi hz0 hz1 hz2 hn
    have c1 : (n : Int) ≤ (cap : Int) := by omega
    have c2 : (cap : Int) ≤ 9223372036854775807 := by unfold maxLen at hle; omega
    clear hge hle h0
    go_enter Tryd.func63, Tryd.ntmps63
    go_wp2_with (first | (at_builtin; refine Lib.wpList_append_run _ rfl _ _ _ _ rfl _ _ rfl rfl _ _ hr ?_))
    go_ret
    exact ⟨_, rfl, HH.out⟩
set_option maxHeartbeats 1000000 in
theorem concatU_any (W : World) (gs q c : Nat) (A : Nat → Option Addr) (N C : Nat → Nat) (X : Nat → List Int) (hq : q ≤ 1000) (hc : ∀ t, t < q → W.cell? ⟨gs, t, none⟩ = some (.slice (A t) (N t) (C t))) (hg : gs < W.heap.size)
    (hX : ∀ t, t < q → (X t).length = N t) (hat : ∀ t, t < q → At W .u32 (A t) (X t)) (hs : ∀ t, t < q → Sl (A t) (C t)) (hl : (joinX X q).length ≤ 1000000) :
    Calls Tryd.prog 33 #[.slice (some ⟨gs, 0, none⟩) q c] W fun e W' => ∃ v, e = .returned v ∧ Holds W W' .u32 22 v (joinX X q) := by
  obtain ⟨i0, hi, hz0, hz1, hz2⟩ := info_parts Tryd.info22
  go_enter Tryd.func33, Tryd.ntmps33
  go_wp2
  go_loopw [3, 11] (fun s i wr => ∃ t : Nat, t ≤ q ∧ i = .int .i64 t ∧ s = .int .i64 ((joinX X t).length : Int) ∧ W = wr) (fun _ i _ => q - (intOf i).toNat)
  case atStart => exact ⟨0, Nat.zero_le _, rfl, rfl, rfl⟩
  case round =>
    obtain ⟨t, ht, rfl, rfl, rfl⟩ := hrel
    by_cases hlt : t < q
    · have hct := hc t hlt
      have e1 : (joinX X (t + 1)).length = (joinX X t).length + N t := by
        show (joinX X t ++ X t).length = _
        rw [List.length_append, hX t hlt]
      have hle := joinX_le X (t + 1) (q - (t + 1))
      rw [show t + 1 + (q - (t + 1)) = q by omega] at hle
      generalize (joinX X t).length = l0 at *
      generalize A t = a at *
      generalize N t = n at *
      generalize C t = cc at *
      have HE : Hid (∀ u : Int, u = (l0 : Int) + (n : Int) → u = ((joinX X (t + 1)).length : Int)) := fun u hu => by omega
      have i1 : (l0 : Int) ≤ 140737488355328 := by omega
      have i2 : (n : Int) ≤ 140737488355328 := by omega
      have i3 : (t : Int) < (q : Int) := by omega
      have i4 : (q : Int) ≤ 1000 := by omega
      clear e1 hle hl ht hq hc hX hat hs hi hz0 hz1 hz2
      go_wp2
      go_roundw
      case rel => exact ⟨t + 1, by omega, by go_num, by congr 1; exact HE.out _ rfl, trivial⟩
      case measure => simp [intOf]; omega
    · obtain rfl : t = q := by omega
      have i1 : (t : Int) ≤ 1000 := by omega
      have GR : Hid (Calls Tryd.prog 63 #[.slice none 0 0, .int .i64 ((joinX X t).length : Int)] W fun e W' => ∃ v, e = .returned v ∧ Holds W W' .u32 22 v []) := growU_any W _ hl
      go_wp2_with (first | (go_at_call 63; refine GR.out.mono ?_; rintro e w1 ⟨v0, rfl, H0⟩))
      clear GR
      go_loopw [6, 27] (fun v i wr => ∃ k : Nat, k ≤ t ∧ i = .int .i64 k ∧ Holds W wr .u32 22 v (joinX X k)) (fun _ i _ => t - (intOf i).toNat)
      case atStart => exact ⟨0, Nat.zero_le _, rfl, H0⟩
      case round =>
        clear H0
        obtain ⟨k, hk, rfl, H⟩ := hrel
        by_cases hlt' : k < t
        · have hct := hc k hlt'
          have hct' : wr.cell? ⟨gs, k, none⟩ = some (.slice (A k) (N k) (C k)) := (H.below.cell (p := ⟨gs, k, none⟩) hg).trans hct
          have hle := joinX_le X (k + 1) (t - (k + 1))
          rw [show k + 1 + (t - (k + 1)) = t by omega] at hle
          have e1 : (joinX X (k + 1)).length = (joinX X k).length + N k := by
            show (joinX X k ++ X k).length = _
            rw [List.length_append, hX k hlt']
          have h63 : (joinX X k).length + N k ≤ maxLen := by unfold maxLen; omega
          have hby : ((joinX X k).length + N k) * 4 ≤ 140737488355328 := by omega
          have i3 : (k : Int) < (t : Int) := by omega
          have HX := hX k hlt'
          have HA := (hat k hlt').below H.below
          have HS := hs k hlt'
          have HH : Hid (Holds W wr .u32 22 u6 (joinX X k)) := H
          have HN : Hid (∀ v' w', Holds W w' .u32 22 v' (joinX X k ++ X k) → Holds W w' .u32 22 v' (joinX X (k + 1))) := fun _ _ h => h
          clear hct hle e1 hl hc hX hat hs H hq
          generalize joinX X k = J at *
          generalize A k = a at *
          generalize N k = n at *
          generalize C k = cc at *
          have HS' : Hid (a = none → cc = 0) := HS
          have HA' : Hid (At wr .u32 a (X k)) := HA
          have HX' : Hid ((X k).length = n) := HX
          clear HS HA HX
          go_wp2_with (first | (at_builtin; refine wpList_append_at (W := W) rfl _ _ 25 rfl .u32 22 i0 (.int .u32 0) 4 Tryd.underlying25 hi hz0 hz1 hz2 rfl u6 J rfl HH.out a n cc (X k) rfl HX'.out HA'.out HS'.out h63 hby ?_; intro v' w3 H3; have H3' : Hid _ := HN.out _ _ H3; clear H3))
          go_roundw
          case rel => exact ⟨k + 1, by omega, by go_num, H3'.out⟩
          case measure => simp [intOf]; omega
        · obtain rfl : k = t := by omega
          have HH : Hid (Holds W wr .u32 22 u6 (joinX X k)) := H
          clear H
          go_wp2
          go_ret
          exact ⟨_, rfl, HH.out⟩
end Go.Proofs.YtbpdmkohihgnjaaDoor
namespace Go.Proofs.YtbpdmkohihgnjaaDoor
open Go.RowKit

theorem ret_bool_int {k : IntKind} {a b : Bool} {n : Int} (h : a = b) : Ending.returned (.tuple #[.bool a, .int k n]) = .returned (.tuple #[.bool b, .int k n]) := by rw [h]
theorem or_xor_zero (p x y : Int) (p0 : 0 ≤ p) (p1 : p < 4294967296) (x0 : 0 ≤ x) (x1 : x < 4294967296) (y0 : 0 ≤ y) (y1 : y < 4294967296) :
    0 ≤ bits .or .u32 p (bits .xor .u32 x y) ∧ bits .or .u32 p (bits .xor .u32 x y) < 4294967296 ∧ (bits .or .u32 p (bits .xor .u32 x y) = 0 ↔ p = 0 ∧ x = y) := by
  obtain ⟨p, rfl⟩ := Int.eq_ofNat_of_zero_le p0
  obtain ⟨x, rfl⟩ := Int.eq_ofNat_of_zero_le x0
  obtain ⟨y, rfl⟩ := Int.eq_ofNat_of_zero_le y0
  have hx : x ^^^ y < 4294967296 := Nat.xor_lt_two_pow (n := 32) (by omega) (by omega)
  have ho : p ||| (x ^^^ y) < 4294967296 := Nat.or_lt_two_pow (n := 32) (by omega) (by omega)
  rw [u32_xor_nat _ _ (by omega) (by omega), u32_or_nat _ _ (by omega) hx]
  refine ⟨by omega, by omega, ?_⟩
  rw [show ((p ||| (x ^^^ y) : Nat) : Int) = 0 ↔ p ||| (x ^^^ y) = 0 by omega, Nat.or_eq_zero_iff]
  have e : x ^^^ y = 0 ↔ x = y := by
    constructor
    · intro h
      have h2 : x ^^^ y ^^^ y = 0 ^^^ y := by rw [h]
      rwa [Nat.xor_assoc, Nat.xor_self, Nat.xor_zero, Nat.zero_xor] at h2
    · rintro rfl; exact Nat.xor_self _
  rw [e]
  omega

theorem take_same (xs ys : List Int) (n k : Nat) (hx : xs.length = n) (hy : ys.length = n) (hk : k < n) : xs.take (k + 1) = ys.take (k + 1) ↔ xs.take k = ys.take k ∧ xs.getD k 0 = ys.getD k 0 := by
  rw [List.take_succ_eq_append_getElem (by omega), List.take_succ_eq_append_getElem (by omega)]
  have e1 : xs.getD k 0 = xs[k] := by simp [List.getD_eq_getElem?_getD, show k < xs.length by omega]
  have e2 : ys.getD k 0 = ys[k] := by simp [List.getD_eq_getElem?_getD, show k < ys.length by omega]
  rw [e1, e2]
  constructor
  · intro h
    obtain ⟨a, b⟩ := List.append_inj' h rfl
    exact ⟨a, by simpa using b⟩
  · rintro ⟨a, b⟩
    rw [a, b]

theorem same_like (W : World) (b1 o1 b2 o2 : Nat) (n c1 c2 : Nat) (xs ys : List Int) (hx : xs.length = n) (hy : ys.length = n) (wx : Wds xs) (wy : Wds ys) (h1 : Row W .u32 b1 o1 xs) (h2 : Row W .u32 b2 o2 ys) (hn : n ≤ 140737488351232) :
    Calls Tryd.prog 64 #[.slice (some ⟨b1, o1, none⟩) n c1, .slice (some ⟨b2, o2, none⟩) n c2] W fun e W' => e = .returned (.tuple #[.bool (decide (xs = ys)), .int .i64 n]) ∧ ∃ k, W' = W.drewN k := by
  go_enter Tryd.func64, Tryd.ntmps64
  go_wp2
  go_loopw [5, 6, 15] (fun l p i wr => ∃ k : Nat, k ≤ n ∧ i = .int .i64 k ∧ l = .int .i64 k ∧ (∃ q : Int, p = .int .u32 q ∧ 0 ≤ q ∧ q < 4294967296 ∧ (q = 0 ↔ xs.take k = ys.take k)) ∧ ∃ d, wr = W.drewN d) (fun _ _ i _ => n - (intOf i).toNat)
  case atStart => exact ⟨0, Nat.zero_le _, rfl, rfl, ⟨0, rfl, by decide, by decide, by simp⟩, 0, rfl⟩
  case round =>
    obtain ⟨k, hk, rfl, rfl, ⟨q, rfl, q0, q1, hq⟩, d, rfl⟩ := hrel
    have HQ : Hid (q = 0 ↔ xs.take k = ys.take k) := hq
    clear hq
    by_cases hlt : k < n
    · have g1 := h1 k (by omega)
      have g2 := h2 k (by omega)
      have HX := or_xor_zero q _ _ q0 q1 (wx k).1 (wx k).2 (wy k).1 (wy k).2
      have HT := take_same xs ys n k hx hy hlt
      generalize xs.getD k 0 = x at *
      generalize ys.getD k 0 = y at *
      have HH : Hid (0 ≤ bits .or .u32 q (bits .xor .u32 x y) ∧ bits .or .u32 q (bits .xor .u32 x y) < 4294967296 ∧ (bits .or .u32 q (bits .xor .u32 x y) = 0 ↔ xs.take (k + 1) = ys.take (k + 1))) := by
        refine ⟨HX.1, HX.2.1, ?_⟩
        rw [HX.2.2, HT, HQ.out]
      clear HX HT HQ
      go_wp2
      go_quiet (fail)
      go_wp2
      go_roundw
      case rel => exact ⟨k + 1, by omega, by go_num, by go_num, ⟨_, rfl, HH.out.1, HH.out.2.1, HH.out.2.2⟩, _, rfl⟩
      case measure => simp [intOf]; omega
    · obtain rfl : k = n := by omega
      have HQ' : Hid (∀ x : Bool, x = (q == 0) → x = decide (xs = ys)) := by
        intro x hx'
        have := HQ.out
        rw [List.take_of_length_le (by omega), List.take_of_length_le (by omega)] at this
        rw [hx', Bool.eq_iff_iff, beq_iff_eq, this, decide_eq_true_eq]
      clear HQ
      go_wp2
      go_ret2
      exact ⟨ret_bool_int (HQ'.out _ rfl), _, rfl⟩

attribute [-simp] Tryd.isAgg23 Tryd.sizeOf23 Tryd.zeroValue23
set_option maxRecDepth 20000 in
theorem macSame_any (W : World) (xs ys : List Int) (hx : xs.length = 8) (hy : ys.length = 8) (wx : Wds xs) (wy : Wds ys) :
    Calls Tryd.prog 34 #[.agg (xs.map (Value.int .u32)).toArray, .agg (ys.map (Value.int .u32)).toArray] W fun e W' => e = .returned (.tuple #[.bool (decide (xs = ys)), .int .i64 8]) ∧ Below W.heap.size W W' := by
  have B1 : Blk ((W.alloc (Obj.cells (List.map (Value.int IntKind.u32) xs).toArray 23)).alloc (Obj.cells (List.map (Value.int IntKind.u32) ys).toArray 23)) W.heap.size .u32 23 xs := (Blk.new W .u32 23 xs).alloc _
  have B2 : Blk ((W.alloc (Obj.cells (List.map (Value.int IntKind.u32) xs).toArray 23)).alloc (Obj.cells (List.map (Value.int IntKind.u32) ys).toArray 23)) (W.heap.size + 1) .u32 23 ys := Blk.newAt (by simp) .u32 23 ys
  have HB : Below W.heap.size W ((W.alloc (Obj.cells (List.map (Value.int IntKind.u32) xs).toArray 23)).alloc (Obj.cells (List.map (Value.int IntKind.u32) ys).toArray 23)) := (below_one W _).alloc (by simp) _
  go_enter Tryd.func34, Tryd.ntmps34
  go_wp2_with fail
  generalize ((W.alloc (Obj.cells (List.map (Value.int IntKind.u32) xs).toArray 23)).alloc (Obj.cells (List.map (Value.int IntKind.u32) ys).toArray 23)) = X at *
  have SM : Hid (∀ n, Calls Tryd.prog 64 #[.slice (some ⟨W.heap.size, 0, none⟩) 8 8, .slice (some ⟨W.heap.size + 1, 0, none⟩) 8 8] (X.drewN n) fun e W' => e = .returned (.tuple #[.bool (decide (xs = ys)), .int .i64 8]) ∧ ∃ m, W' = X.drewN m) := by
    intro n
    refine (same_like _ _ _ _ _ 8 8 8 xs ys hx hy wx wy (B1.row.drewN n) (B2.row.drewN n) (by decide)).mono ?_
    rintro e w ⟨rfl, k, rfl⟩
    exact ⟨rfl, _, World.drewN_drewN _ _ _⟩
  clear B1 B2 wx wy hx hy
  obtain ⟨r, hr⟩ : ∃ r, decide (xs = ys) = r := ⟨_, rfl⟩
  have HR : Hid (decide (xs = ys) = r) := hr
  rw [hr] at SM
  clear hr
  go_quiet (first | (go_at_call 64; exact SM.out _))
  go_wp2
  go_ret2
  exact ⟨by rw [HR.out]; rfl, below_drewN HB _⟩

end Go.Proofs.YtbpdmkohihgnjaaDoor
