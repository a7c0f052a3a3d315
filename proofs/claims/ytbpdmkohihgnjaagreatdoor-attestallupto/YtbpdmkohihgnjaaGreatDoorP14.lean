import Derived.Test.YtbpdmkohihgnjaaGreatDoorP12
import Derived.Test.YtbpdmkohihgnjaaGreatDoorP11
import Derived.Laws.BitsAllLaws
import Derived.Test.YtbpdmkohihgnjaaGreatDoorP13
import Derived.Test.YtbpdmkohihgnjaaGreatDoorP01
namespace Go.Proofs.YtbpdmkohihgnjaaGreatDoor
open Go.RowKit
set_option maxRecDepth 20000 in
set_option maxHeartbeats 400000 in
theorem growU_any (W : World) (n : Nat) (hn : n ≤ 1000000) :
    Calls Tryz.prog 132 #[.slice none 0 0, .int .i64 (n : Int)] W fun e W' => ∃ v, e = .returned v ∧ Holds W W' .u32 25 v [] := by
  obtain ⟨i0, hi, hz0, hz1, hz2⟩ := info_parts Tryz.info25
  have i1 : (n : Int) ≤ 140737488355328 := by omega
  by_cases h0 : n = 0
  · subst h0
    have HH : Hid (Holds W W .u32 25 (.slice none 0 0) []) := Holds.start _ _ _
    go_enter Tryz.func132, Tryz.ntmps132
    go_wp2
    go_ret
    exact ⟨_, rfl, HH.out⟩
  · have i2 : (0 : Int) < (n : Int) := by omega
    have hr := Lib.run_append_nil_zeros (P := Tryz.prog) W 127 3 127 25 i0 (.int .u32 0) .i64 .i64 Tryz.underlying127 Tryz.underlying3 hi hz0 n (by omega) (by omega) (by omega) (by rw [hz2]; omega)
    have hge := grownCap_ge W n 0 25
    have hle := grownCap_le_maxLen W n 0 25 (by unfold maxLen; omega)
    generalize grownCap W n 0 25 = cap at *
    have HH : Hid (Holds W (W.drew.alloc (.cells (Builtin.zeroCells (Value.cells (.int .u32 0)) n ++ Builtin.zeroCells (Value.cells (.int .u32 0)) (cap - n)) 25)) .u32 25 (.slice (some ⟨W.heap.size, 0, none⟩) 0 cap) []) := by
      refine ⟨?_, (Below.refl W.heap.size W).drew.alloc (by simp) _⟩
      have := World.ownsRow_made (base := W.heap.size) (e := 25) (size := 1) W.drew (Builtin.zeroCells (Value.cells (.int .u32 0)) n ++ Builtin.zeroCells (Value.cells (.int .u32 0)) (cap - n)) cap (by simp) hle (by simp [Builtin.zeroCells, Value.cells]; omega)
      simpa using this
    generalize (W.drew.alloc (.cells (Builtin.zeroCells (Value.cells (.int .u32 0)) n ++ Builtin.zeroCells (Value.cells (.int .u32 0)) (cap - n)) 25)) = X at *
    clear hi hz0 hz1 hz2 hn
    have c1 : (n : Int) ≤ (cap : Int) := by omega
    have c2 : (cap : Int) ≤ 9223372036854775807 := by unfold maxLen at hle; omega
    clear hge hle h0
    go_enter Tryz.func132, Tryz.ntmps132
    go_wp2_with (first | (at_builtin; refine Lib.wpList_append_run _ rfl _ _ _ _ rfl _ _ rfl rfl _ _ hr ?_))
    go_ret
    exact ⟨_, rfl, HH.out⟩
set_option maxHeartbeats 1000000 in
theorem concatU_any (W : World) (gs q c : Nat) (A : Nat → Option Addr) (N C : Nat → Nat) (X : Nat → List Int) (hq : q ≤ 1000) (hc : ∀ t, t < q → W.cell? ⟨gs, t, none⟩ = some (.slice (A t) (N t) (C t))) (hg : gs < W.heap.size)
    (hX : ∀ t, t < q → (X t).length = N t) (hat : ∀ t, t < q → At W .u32 (A t) (X t)) (hs : ∀ t, t < q → Sl (A t) (C t)) (hl : (joinX X q).length ≤ 1000000) :
    Calls Tryz.prog 118 #[.slice (some ⟨gs, 0, none⟩) q c] W fun e W' => ∃ v, e = .returned v ∧ Holds W W' .u32 25 v (joinX X q) := by
  obtain ⟨i0, hi, hz0, hz1, hz2⟩ := info_parts Tryz.info25
  go_enter Tryz.func118, Tryz.ntmps118
  go_wp2
  go_loopw [3, 11] (fun s i wr => ∃ t : Nat, t ≤ q ∧ i = .int .i64 t ∧ s = .int .i64 ((joinX X t).length : Int) ∧ W = wr) (fun _ i _ => q - (intOf i).toNat)
  case atStart => exact ⟨0, Nat.zero_le _, rfl, rfl, rfl⟩
  case round =>
    obtain ⟨t, ht, rfl, rfl, rfl⟩ := hrel
    by_cases hlt : t < q
    · have hct := hc t hlt
      have e1 : (joinX X (t + 1)).length = (joinX X t).length + N t := by
        show (joinX X t ++ X t).length = _
        rw [List.length_append, hX t hlt]
      have hle := joinX_le X (t + 1) (q - (t + 1))
      rw [show t + 1 + (q - (t + 1)) = q by omega] at hle
      generalize (joinX X t).length = l0 at *
      generalize A t = a at *
      generalize N t = n at *
      generalize C t = cc at *
      have HE : Hid (∀ u : Int, u = (l0 : Int) + (n : Int) → u = ((joinX X (t + 1)).length : Int)) := fun u hu => by omega
      have i1 : (l0 : Int) ≤ 140737488355328 := by omega
      have i2 : (n : Int) ≤ 140737488355328 := by omega
      have i3 : (t : Int) < (q : Int) := by omega
      have i4 : (q : Int) ≤ 1000 := by omega
      clear e1 hle hl ht hq hc hX hat hs hi hz0 hz1 hz2
      go_wp2
      go_roundw
      case rel => exact ⟨t + 1, by omega, by go_num, by congr 1; exact HE.out _ rfl, trivial⟩
      case measure => simp [intOf]; omega
    · obtain rfl : t = q := by omega
      have i1 : (t : Int) ≤ 1000 := by omega
      have GR : Hid (Calls Tryz.prog 132 #[.slice none 0 0, .int .i64 ((joinX X t).length : Int)] W fun e W' => ∃ v, e = .returned v ∧ Holds W W' .u32 25 v []) := growU_any W _ hl
      go_wp2_with (first | (go_at_call 132; refine GR.out.mono ?_; rintro e w1 ⟨v0, rfl, H0⟩))
      clear GR
      go_loopw [6, 27] (fun v i wr => ∃ k : Nat, k ≤ t ∧ i = .int .i64 k ∧ Holds W wr .u32 25 v (joinX X k)) (fun _ i _ => t - (intOf i).toNat)
      case atStart => exact ⟨0, Nat.zero_le _, rfl, H0⟩
      case round =>
        clear H0
        obtain ⟨k, hk, rfl, H⟩ := hrel
        by_cases hlt' : k < t
        · have hct := hc k hlt'
          have hct' : wr.cell? ⟨gs, k, none⟩ = some (.slice (A k) (N k) (C k)) := (H.below.cell (p := ⟨gs, k, none⟩) hg).trans hct
          have hle := joinX_le X (k + 1) (t - (k + 1))
          rw [show k + 1 + (t - (k + 1)) = t by omega] at hle
          have e1 : (joinX X (k + 1)).length = (joinX X k).length + N k := by
            show (joinX X k ++ X k).length = _
            rw [List.length_append, hX k hlt']
          have h63 : (joinX X k).length + N k ≤ maxLen := by unfold maxLen; omega
          have hby : ((joinX X k).length + N k) * 4 ≤ 140737488355328 := by omega
          have i3 : (k : Int) < (t : Int) := by omega
          have HX := hX k hlt'
          have HA := (hat k hlt').below H.below
          have HS := hs k hlt'
          have HH : Hid (Holds W wr .u32 25 u6 (joinX X k)) := H
          have HN : Hid (∀ v' w', Holds W w' .u32 25 v' (joinX X k ++ X k) → Holds W w' .u32 25 v' (joinX X (k + 1))) := fun _ _ h => h
          clear hct hle e1 hl hc hX hat hs H hq
          generalize joinX X k = J at *
          generalize A k = a at *
          generalize N k = n at *
          generalize C k = cc at *
          have HS' : Hid (a = none → cc = 0) := HS
          have HA' : Hid (At wr .u32 a (X k)) := HA
          have HX' : Hid ((X k).length = n) := HX
          clear HS HA HX
          go_wp2_with (first | (at_builtin; refine wpList_append_at (W := W) rfl _ _ 127 rfl .u32 25 i0 (.int .u32 0) 4 Tryz.underlying127 hi hz0 hz1 hz2 rfl u6 J rfl HH.out a n cc (X k) rfl HX'.out HA'.out HS'.out h63 hby ?_; intro v' w3 H3; have H3' : Hid _ := HN.out _ _ H3; clear H3))
          go_roundw
          case rel => exact ⟨k + 1, by omega, by go_num, H3'.out⟩
          case measure => simp [intOf]; omega
        · obtain rfl : k = t := by omega
          have HH : Hid (Holds W wr .u32 25 u6 (joinX X k)) := H
          clear H
          go_wp2
          go_ret
          exact ⟨_, rfl, HH.out⟩
end Go.Proofs.YtbpdmkohihgnjaaGreatDoor
namespace Go.Proofs.YtbpdmkohihgnjaaGreatDoor
open Go.RowKit

theorem ret_bool_int {k : IntKind} {a b : Bool} {n : Int} (h : a = b) : Ending.returned (.tuple #[.bool a, .int k n]) = .returned (.tuple #[.bool b, .int k n]) := by rw [h]
theorem or_xor_zero (p x y : Int) (p0 : 0 ≤ p) (p1 : p < 4294967296) (x0 : 0 ≤ x) (x1 : x < 4294967296) (y0 : 0 ≤ y) (y1 : y < 4294967296) :
    0 ≤ bits .or .u32 p (bits .xor .u32 x y) ∧ bits .or .u32 p (bits .xor .u32 x y) < 4294967296 ∧ (bits .or .u32 p (bits .xor .u32 x y) = 0 ↔ p = 0 ∧ x = y) := by
  obtain ⟨p, rfl⟩ := Int.eq_ofNat_of_zero_le p0
  obtain ⟨x, rfl⟩ := Int.eq_ofNat_of_zero_le x0
  obtain ⟨y, rfl⟩ := Int.eq_ofNat_of_zero_le y0
  have hx : x ^^^ y < 4294967296 := Nat.xor_lt_two_pow (n := 32) (by omega) (by omega)
  have ho : p ||| (x ^^^ y) < 4294967296 := Nat.or_lt_two_pow (n := 32) (by omega) (by omega)
  rw [u32_xor_nat _ _ (by omega) (by omega), u32_or_nat _ _ (by omega) hx]
  refine ⟨by omega, by omega, ?_⟩
  rw [show ((p ||| (x ^^^ y) : Nat) : Int) = 0 ↔ p ||| (x ^^^ y) = 0 by omega, Nat.or_eq_zero_iff]
  have e : x ^^^ y = 0 ↔ x = y := by
    constructor
    · intro h
      have h2 : x ^^^ y ^^^ y = 0 ^^^ y := by rw [h]
      rwa [Nat.xor_assoc, Nat.xor_self, Nat.xor_zero, Nat.zero_xor] at h2
    · rintro rfl; exact Nat.xor_self _
  rw [e]
  omega

theorem take_same (xs ys : List Int) (n k : Nat) (hx : xs.length = n) (hy : ys.length = n) (hk : k < n) : xs.take (k + 1) = ys.take (k + 1) ↔ xs.take k = ys.take k ∧ xs.getD k 0 = ys.getD k 0 := by
  rw [List.take_succ_eq_append_getElem (by omega), List.take_succ_eq_append_getElem (by omega)]
  have e1 : xs.getD k 0 = xs[k] := by simp [List.getD_eq_getElem?_getD, show k < xs.length by omega]
  have e2 : ys.getD k 0 = ys[k] := by simp [List.getD_eq_getElem?_getD, show k < ys.length by omega]
  rw [e1, e2]
  constructor
  · intro h
    obtain ⟨a, b⟩ := List.append_inj' h rfl
    exact ⟨a, by simpa using b⟩
  · rintro ⟨a, b⟩
    rw [a, b]

theorem same_like (W : World) (b1 o1 b2 o2 : Nat) (n c1 c2 : Nat) (xs ys : List Int) (hx : xs.length = n) (hy : ys.length = n) (wx : Wds xs) (wy : Wds ys) (h1 : Row W .u32 b1 o1 xs) (h2 : Row W .u32 b2 o2 ys) (hn : n ≤ 140737488351232) :
    Calls Tryz.prog 116 #[.slice (some ⟨b1, o1, none⟩) n c1, .slice (some ⟨b2, o2, none⟩) n c2] W fun e W' => e = .returned (.tuple #[.bool (decide (xs = ys)), .int .i64 n]) ∧ ∃ k, W' = W.drewN k := by
  go_enter Tryz.func116, Tryz.ntmps116
  go_wp2
  go_loopw [5, 6, 15] (fun l p i wr => ∃ k : Nat, k ≤ n ∧ i = .int .i64 k ∧ l = .int .i64 k ∧ (∃ q : Int, p = .int .u32 q ∧ 0 ≤ q ∧ q < 4294967296 ∧ (q = 0 ↔ xs.take k = ys.take k)) ∧ ∃ d, wr = W.drewN d) (fun _ _ i _ => n - (intOf i).toNat)
  case atStart => exact ⟨0, Nat.zero_le _, rfl, rfl, ⟨0, rfl, by decide, by decide, by simp⟩, 0, rfl⟩
  case round =>
    obtain ⟨k, hk, rfl, rfl, ⟨q, rfl, q0, q1, hq⟩, d, rfl⟩ := hrel
    have HQ : Hid (q = 0 ↔ xs.take k = ys.take k) := hq
    clear hq
    by_cases hlt : k < n
    · have g1 := h1 k (by omega)
      have g2 := h2 k (by omega)
      have HX := or_xor_zero q _ _ q0 q1 (wx k).1 (wx k).2 (wy k).1 (wy k).2
      have HT := take_same xs ys n k hx hy hlt
      generalize xs.getD k 0 = x at *
      generalize ys.getD k 0 = y at *
      have HH : Hid (0 ≤ bits .or .u32 q (bits .xor .u32 x y) ∧ bits .or .u32 q (bits .xor .u32 x y) < 4294967296 ∧ (bits .or .u32 q (bits .xor .u32 x y) = 0 ↔ xs.take (k + 1) = ys.take (k + 1))) := by
        refine ⟨HX.1, HX.2.1, ?_⟩
        rw [HX.2.2, HT, HQ.out]
      clear HX HT HQ
      go_wp2
      go_quiet (fail)
      go_wp2
      go_roundw
      case rel => exact ⟨k + 1, by omega, by go_num, by go_num, ⟨_, rfl, HH.out.1, HH.out.2.1, HH.out.2.2⟩, _, rfl⟩
      case measure => simp [intOf]; omega
    · obtain rfl : k = n := by omega
      have HQ' : Hid (∀ x : Bool, x = (q == 0) → x = decide (xs = ys)) := by
        intro x hx'
        have := HQ.out
        rw [List.take_of_length_le (by omega), List.take_of_length_le (by omega)] at this
        rw [hx', Bool.eq_iff_iff, beq_iff_eq, this, decide_eq_true_eq]
      clear HQ
      go_wp2
      go_ret2
      exact ⟨ret_bool_int (HQ'.out _ rfl), _, rfl⟩

attribute [-simp] Tryz.isAgg26 Tryz.sizeOf26 Tryz.zeroValue26
set_option maxRecDepth 20000 in
theorem macSame_any (W : World) (xs ys : List Int) (hx : xs.length = 8) (hy : ys.length = 8) (wx : Wds xs) (wy : Wds ys) :
    Calls Tryz.prog 102 #[.agg (xs.map (Value.int .u32)).toArray, .agg (ys.map (Value.int .u32)).toArray] W fun e W' => e = .returned (.tuple #[.bool (decide (xs = ys)), .int .i64 8]) ∧ Below W.heap.size W W' := by
  have B1 : Blk ((W.alloc (Obj.cells (List.map (Value.int IntKind.u32) xs).toArray 26)).alloc (Obj.cells (List.map (Value.int IntKind.u32) ys).toArray 26)) W.heap.size .u32 26 xs := (Blk.new W .u32 26 xs).alloc _
  have B2 : Blk ((W.alloc (Obj.cells (List.map (Value.int IntKind.u32) xs).toArray 26)).alloc (Obj.cells (List.map (Value.int IntKind.u32) ys).toArray 26)) (W.heap.size + 1) .u32 26 ys := Blk.newAt (by simp) .u32 26 ys
  have HB : Below W.heap.size W ((W.alloc (Obj.cells (List.map (Value.int IntKind.u32) xs).toArray 26)).alloc (Obj.cells (List.map (Value.int IntKind.u32) ys).toArray 26)) := (below_one W _).alloc (by simp) _
  go_enter Tryz.func102, Tryz.ntmps102
  go_wp2_with fail
  generalize ((W.alloc (Obj.cells (List.map (Value.int IntKind.u32) xs).toArray 26)).alloc (Obj.cells (List.map (Value.int IntKind.u32) ys).toArray 26)) = X at *
  have SM : Hid (∀ n, Calls Tryz.prog 116 #[.slice (some ⟨W.heap.size, 0, none⟩) 8 8, .slice (some ⟨W.heap.size + 1, 0, none⟩) 8 8] (X.drewN n) fun e W' => e = .returned (.tuple #[.bool (decide (xs = ys)), .int .i64 8]) ∧ ∃ m, W' = X.drewN m) := by
    intro n
    refine (same_like _ _ _ _ _ 8 8 8 xs ys hx hy wx wy (B1.row.drewN n) (B2.row.drewN n) (by decide)).mono ?_
    rintro e w ⟨rfl, k, rfl⟩
    exact ⟨rfl, _, World.drewN_drewN _ _ _⟩
  clear B1 B2 wx wy hx hy
  obtain ⟨r, hr⟩ : ∃ r, decide (xs = ys) = r := ⟨_, rfl⟩
  have HR : Hid (decide (xs = ys) = r) := hr
  rw [hr] at SM
  clear hr
  go_quiet (first | (go_at_call 116; exact SM.out _))
  go_wp2
  go_ret2
  exact ⟨by rw [HR.out]; rfl, below_drewN HB _⟩

end Go.Proofs.YtbpdmkohihgnjaaGreatDoor
namespace Go.Proofs.YtbpdmkohihgnjaaGreatDoor
open Go.RowKit
set_option maxHeartbeats 4000000
set_option maxRecDepth 100000
theorem hid {p : Prop} (h : p) : Hid p := h
theorem below_on {X w w' : World} (h : Below X.heap.size X w) (k : Below w.heap.size w w') : Below X.heap.size X w' := h.trans (k.mono h.size)
theorem Cel.setr {w : World} {g : Nat} {t : TypeId} {cs : List Value} (h : Cel w g t cs) (vs : List Value) : Cel (w.setRow g vs.toArray) g t vs := setRow_heap w g _ _ t _ h
theorem Cel.on {w w' : World} {g : Nat} {t : TypeId} {cs : List Value} (h : Cel w g t cs) (hb : Below w.heap.size w w') : Cel w' g t cs := h.below hb h.lt
theorem blk_cel {w : World} {g t : Nat} {L : List Int} (h : Blk w g .u32 t L) : Cel w g t (L.map (Value.int .u32)) := h
theorem cel_range {w : World} {g : Nat} {t : TypeId} {cs : List Value} (h : Cel w g t cs) : w.rangeAt g 0 cs := fun j v hv => by rw [Nat.zero_add, h.cell j]; exact hv
theorem wp_store_st {P : Program} {op : Oper} {a : Act} {w : World} {K : Act → World → Prop} {Q : Exit → Act → World → Prop} (ty : TypeId) (x y : Operand) (ho : op.op = .store ty x y)
    (g : Nat) (vs : List Value) (hx : a.eval x = .pointer (some ⟨g, 0, none⟩)) (hy : a.eval y = .agg vs.toArray) {e : TypeId} {cs : List Value} (hg : Cel w g e cs) (hi : (P.info? ty).map (·.size) = some vs.length) (hl : cs.length = vs.length) (h1 : vs.all (·.oneCell') = true)
    (h : ∀ w', Cel w' g e vs → But g w w' → w'.heap.size = w.heap.size → K (a.put op.dst undef) w') : op.wp P a w K Q := by
  have hs : (Instr.storeAt ty (.pointer (some ⟨g, 0, none⟩)) (.agg vs.toArray)).run P w = .ok () (w.setRow g vs.toArray) := by
    simp only [Instr.storeAt, Instr.sureAddr, Sem.run_bind, Sem.run_pure, Result.andThen]
    exact run_storeVar_row w g e ty _ _ hg (by rw [hi]; simp) (by simp [hl]) (by simpa using h1)
  unfold Oper.wp execOp
  simp only [ho, hx, hy, Sem.run_bind, Sem.run_pure, hs, Result.andThen_ok]
  exact h _ (Cel.setr hg _) (but_setRow _ _ _) (by simp)
def K3 : List Int := [2002874980, 1701716075, 1702436913]
theorem wds_k3 : Wds K3 := by intro i; unfold K3; match i with
  | 0 => decide
  | 1 => decide
  | 2 => decide
  | n + 3 => simp
def keyOf (s : List Int) : List Int := hmac (bytesD s) (bytesD K3)
def tagOf (k m d : List Int) : List Int := hmac (bytesD k) (bytesD (m ++ d))
theorem keyOf_length (s : List Int) : (keyOf s).length = 8 := hmac_length _ _
theorem tagOf_length (k m d : List Int) : (tagOf k m d).length = 8 := hmac_length _ _
theorem hmac_wds (k m : List Int) : Wds (hmac k m) := sumB_wds _
theorem Wds.app {a b : List Int} (ha : Wds a) (hb : Wds b) : Wds (a ++ b) := fun i => by
  by_cases h : i < a.length
  · have := ha i; simpa [List.getD_eq_getElem?_getD, List.getElem?_append_left h] using this
  · have := hb (i - a.length); simpa [List.getD_eq_getElem?_getD, List.getElem?_append_right (show a.length ≤ i by omega)] using this
theorem Blk.atb {W : World} {g e : Nat} {L : List Int} (h : Blk W g .u32 e L) : At W .u32 (some ⟨g, 0, none⟩) L := .inr ⟨g, 0, rfl, h.lt, h.row⟩
structure VS (W : World) (k m d t : List Int) (w : World) : Prop where
  tb : Tabs w
  bl : Below W.heap.size W w
  bk : Blk w W.heap.size .u32 26 k
  bm : Blk w (W.heap.size + 1) .u32 26 m
  bd : Blk w (W.heap.size + 1 + 1) .u32 26 d
  bt : Blk w (W.heap.size + 1 + 1 + 1) .u32 26 t
theorem VS.on {W : World} {k m d t : List Int} {w w' : World} (h : VS W k m d t w) (hb : Below w.heap.size w w') : VS W k m d t w' := ⟨h.tb.on hb, below_on h.bl hb, h.bk.on hb, h.bm.on hb, h.bd.on hb, h.bt.on hb⟩
attribute [-simp] Tryz.isAgg26 Tryz.sizeOf26 Tryz.zeroValue26
theorem tag_any (W : World) (hT : Tabs W) (k m d : List Int) (hk : k.length = 8) (hm : m.length = 8) (hd : d.length = 8) (wk : Wds k) (wm : Wds m) (wd : Wds d) :
    Calls Tryz.prog 103 #[Ag k, Ag m, Ag d] W fun e W' => e = .returned (Ag (tagOf k m d)) ∧ Below W.heap.size W W' := by
  obtain ⟨Z, hZ⟩ : ∃ Z : List Int, Z = List.replicate 8 0 := ⟨_, rfl⟩
  have hZl : Z.length = 8 := by rw [hZ]; simp
  have hz : ∀ w, (zeroValue 26).run Tryz.prog w = .ok (.agg (Z.map (Value.int .u32)).toArray) w := fun w => by rw [Tryz.zeroValue26, hZ]; rfl
  clear hZ
  have h4 : (m ++ d).length = 16 := by rw [List.length_append, hm, hd]
  obtain ⟨X, hX⟩ : ∃ X, X = (((W.alloc (Obj.cells (List.map (Value.int IntKind.u32) k).toArray 26)).alloc (Obj.cells (List.map (Value.int IntKind.u32) m).toArray 26)).alloc (Obj.cells (List.map (Value.int IntKind.u32) d).toArray 26)).alloc (Obj.cells (List.map (Value.int IntKind.u32) Z).toArray 26) := ⟨_, rfl⟩
  have Y0 : Hid (VS W k m d Z X.drew) := hid (by
    have HB : Below W.heap.size W X := by rw [hX]; exact below_on (below_on (below_on (below_one W _) (below_one _ _)) (below_one _ _)) (below_one _ _)
    refine ⟨(hT.on HB).on (Below.refl _ _).drew, HB.drew, ?_, ?_, ?_, ?_⟩
    · rw [hX]; exact (((Blk.new W .u32 26 k).alloc _).alloc _).alloc _
    · rw [hX]; exact ((Blk.newAt (by simp) .u32 26 m).alloc _).alloc _
    · rw [hX]; exact (Blk.newAt (by simp) .u32 26 d).alloc _
    · rw [hX]; exact Blk.newAt (by simp) .u32 26 Z)
  have HC : Hid (∀ w v, Tabs w → Blk w W.heap.size .u32 26 k → ∀ X0, Holds X0 w .u32 25 v (m ++ d) → Calls Tryz.prog 117 #[.slice (some ⟨W.heap.size, 0, none⟩) 8 8, v] w fun e W' => e = .returned (Ag (tagOf k m d)) ∧ Below w.heap.size w W') := hid (by
    intro w v hw bw X0 hv
    obtain ⟨p, c, rfl, hsl, hat, _⟩ := hv.at'
    rw [h4]
    exact macTag_any w hw _ 8 8 k hk wk bw.atb (by decide) p 16 c (m ++ d) h4 (wm.app wd) hat (by decide))
  have HJ : Hid (∀ w g, Blk w (W.heap.size + 1) .u32 26 m → Blk w (W.heap.size + 1 + 1) .u32 26 d → Cel w g 127 [.slice (some ⟨W.heap.size + 1, 0, none⟩) 8 8, .slice (some ⟨W.heap.size + 1 + 1, 0, none⟩) 8 8] → Calls Tryz.prog 118 #[.slice (some ⟨g, 0, none⟩) 2 2] w fun e W' => ∃ v, e = .returned v ∧ Holds w W' .u32 25 v (m ++ d)) := hid (by
    intro w g bm bd hc
    have := concatU_any w g 2 2 (fun t => if t = 0 then some ⟨W.heap.size + 1, 0, none⟩ else some ⟨W.heap.size + 1 + 1, 0, none⟩) (fun _ => 8) (fun _ => 8) (fun t => if t = 0 then m else d) (by decide) (by
      intro t ht
      match t, ht with
      | 0, _ => exact (hc.cell 0).trans rfl
      | 1, _ => exact (hc.cell 1).trans rfl) hc.lt (by intro t ht; match t, ht with | 0, _ => exact hm | 1, _ => exact hd) (by intro t ht; match t, ht with | 0, _ => exact bm.atb | 1, _ => exact bd.atb) (by intro t ht h0; match t, ht with | 0, _ => cases h0 | 1, _ => cases h0) (by show (([] ++ m) ++ d).length ≤ _; simp [hm, hd])
    refine this.mono ?_
    rintro e w' ⟨v, rfl, h⟩
    refine ⟨v, rfl, ?_⟩
    have h2 : joinX (fun t => if t = 0 then m else d) 2 = m ++ d := by show ([] ++ m) ++ d = m ++ d; rw [List.nil_append]
    rwa [h2] at h)
  have hMl := tagOf_length k m d
  generalize tagOf k m d = M at *
  clear hT wk wm wd h4 hk hm hd
  unfold Ag at *
  go_enter Tryz.func103, Tryz.ntmps103
  go_upto_region 1 with fail
  rw [← hX]
  clear hX
  refine wp_region_held_drew (S := fun w => Below W.heap.size W w) (by kernel_rfl) Y0.out.bl (fun hHeld => ?_)
  generalize World.drew _ = w0 at *
  refine tk 0 ⟨some 7, .slice 26 (.tmp 3) none none none, 127, "attest.go:19", #[], none⟩ (.slice (some ⟨W.heap.size, 0, none⟩) 8 8) ?_
  simp only [Act.put, List.setIfInBounds_toArray, List.set_cons_zero, List.set_cons_succ]
  refine tk 1 ⟨some 8, .slice 26 (.tmp 4) none none none, 127, "attest.go:19", #[], none⟩ (.slice (some ⟨W.heap.size + 1, 0, none⟩) 8 8) ?_
  simp only [Act.put, List.setIfInBounds_toArray, List.set_cons_zero, List.set_cons_succ]
  refine tk 2 ⟨some 9, .slice 26 (.tmp 5) none none none, 127, "attest.go:19", #[], none⟩ (.slice (some ⟨W.heap.size + 1 + 1, 0, none⟩) 8 8) ?_
  simp only [Act.put, List.setIfInBounds_toArray, List.set_cons_zero, List.set_cons_succ]
  refine wpAnyH_ready (rs := [3]) (by kernel_rfl) (by simp) (AllReadyH.cons (o := ⟨some 10, .buildSlice 216 2 #[(0, .tmp 8), (1, .tmp 9)], 216, "attest.go:19", #[⟨1, .data⟩, ⟨2, .data⟩], none⟩) rfl (fun KQ hK => ?_) AllReadyH.nil)
  go_simp
  have X1 := hid (Y0.out.on (below_one w0 (.cells #[.slice (some ⟨W.heap.size + 1, 0, none⟩) 8 8, .slice (some ⟨W.heap.size + 1 + 1, 0, none⟩) 8 8] 127)))
  have HL : Hid (Cel (w0.alloc (.cells #[.slice (some ⟨W.heap.size + 1, 0, none⟩) 8 8, .slice (some ⟨W.heap.size + 1 + 1, 0, none⟩) 8 8] 127)) w0.heap.size 127 [.slice (some ⟨W.heap.size + 1, 0, none⟩) 8 8, .slice (some ⟨W.heap.size + 1 + 1, 0, none⟩) 8 8]) := hid (heap_alloc_new _ _)
  clear Y0
  generalize World.alloc _ _ = w1 at *
  generalize w0.heap.size = g1 at *
  refine hK.out _ _ X1.out.bl (fun hHeld => ?_)
  clear hK KQ
  try simp only [Act.put, List.setIfInBounds_toArray, List.set_cons_zero, List.set_cons_succ]
  refine wpAnyH_ready (rs := [4]) (by kernel_rfl) (by simp) (AllReadyH.cons (o := ⟨some 11, .call { callee := .value (.func 118), args := #[.tmp 10], argTypes := #[216] }, 127, "attest.go:19", #[⟨3, .data⟩], none⟩) rfl (fun KQ hK => ?_) AllReadyH.nil)
  go_simp
  refine (HJ.out _ _ X1.out.bm X1.out.bd HL.out).mono ?_
  rintro e w2 ⟨v2, rfl, h2⟩
  have X2 := hid (And.intro (X1.out.on h2.below) h2)
  clear h2 HL
  go_wp2_with fail
  refine hK.out _ _ X2.out.1.bl (fun hHeld => ?_)
  clear hK KQ
  try simp only [Act.put, List.setIfInBounds_toArray, List.set_cons_zero, List.set_cons_succ]
  refine wpAnyH_ready (rs := [5]) (by kernel_rfl) (by simp) (AllReadyH.cons (o := ⟨some 12, .call { callee := .value (.func 117), args := #[.tmp 7, .tmp 11], argTypes := #[127, 127] }, 26, "attest.go:19", #[⟨0, .data⟩, ⟨4, .data⟩, ⟨4, .chain⟩], none⟩) rfl (fun KQ hK => ?_) AllReadyH.nil)
  go_simp
  refine (HC.out _ _ X2.out.1.tb X2.out.1.bk _ X2.out.2).mono ?_
  rintro e w3 ⟨rfl, h3⟩
  have X3 := hid (And.intro (below_on X2.out.1.bl h3) (X2.out.1.bt.on h3))
  clear h3 X2 X1
  go_wp2_with fail
  refine hK.out _ _ X3.out.1 (fun hHeld => ?_)
  clear hK KQ
  try simp only [Act.put, List.setIfInBounds_toArray, List.set_cons_zero, List.set_cons_succ]
  refine wpAnyH_ready (rs := [6]) (by kernel_rfl) (by simp) (AllReadyH.cons (o := ⟨none, .store 26 (.tmp 6) (.tmp 12), 0, "attest.go:19", #[⟨5, .data⟩, ⟨5, .chain⟩, ⟨0, .phase⟩, ⟨1, .phase⟩, ⟨2, .phase⟩, ⟨3, .phase⟩, ⟨4, .phase⟩, ⟨5, .phase⟩], none⟩) rfl (fun KQ hK => ?_) AllReadyH.nil)
  rw [if_pos (by rfl)]
  refine wp_store_st 26 _ _ rfl (W.heap.size + 1 + 1 + 1) (M.map (Value.int .u32)) rfl rfl (blk_cel X3.out.2) (by rw [List.length_map, hMl]; exact size26) (by rw [List.length_map, List.length_map, hZl, hMl]) (List.all_eq_true.2 (ints_oneCell .u32 _)) ?_
  intro w4 hc4 hb4 hs4
  have X5 : Hid (Below W.heap.size W w4 ∧ Blk w4 (W.heap.size + 1 + 1 + 1) .u32 26 M) := hid ⟨X3.out.1.trans (hb4.below (by omega) X3.out.1.size), hc4⟩
  clear hc4 hb4 hs4 X3
  refine hK.out _ _ X5.out.1 (fun hHeld => ?_)
  clear hK KQ
  try simp only [Act.put]
  refine wpAnyH_done (by kernel_rfl) ?_ _
  go_wp2_with fail
  refine ret_cell rfl rfl (W.heap.size + 1 + 1 + 1) M rfl X5.out.2 Tryz.underlying26 (by rw [hMl]; exact size26) ⟨rfl, X5.out.1⟩
end Go.Proofs.YtbpdmkohihgnjaaGreatDoor
namespace Go.Proofs.YtbpdmkohihgnjaaGreatDoor
open Go.RowKit
set_option maxHeartbeats 4000000
set_option maxRecDepth 100000
attribute [-simp] Tryz.isAgg26 Tryz.sizeOf26 Tryz.zeroValue26
theorem verify_any (W : World) (hT : Tabs W) (k m d t : List Int) (hk : k.length = 8) (hm : m.length = 8) (hd : d.length = 8) (ht : t.length = 8) (wk : Wds k) (wm : Wds m) (wd : Wds d) (wt : Wds t) :
    Calls Tryz.prog 87 #[Ag k, Ag m, Ag d, Ag t] W fun e W' => e = .returned (.bool (decide (tagOf k m d = t))) ∧ Below W.heap.size W W' := by
  obtain ⟨X, hX⟩ : ∃ X, X = (((W.alloc (Obj.cells (List.map (Value.int IntKind.u32) k).toArray 26)).alloc (Obj.cells (List.map (Value.int IntKind.u32) m).toArray 26)).alloc (Obj.cells (List.map (Value.int IntKind.u32) d).toArray 26)).alloc (Obj.cells (List.map (Value.int IntKind.u32) t).toArray 26) := ⟨_, rfl⟩
  have Y0 : Hid (VS W k m d t X.drew) := hid (by
    have HB : Below W.heap.size W X := by rw [hX]; exact below_on (below_on (below_on (below_one W _) (below_one _ _)) (below_one _ _)) (below_one _ _)
    refine ⟨(hT.on HB).on (Below.refl _ _).drew, HB.drew, ?_, ?_, ?_, ?_⟩
    · rw [hX]; exact (((Blk.new W .u32 26 k).alloc _).alloc _).alloc _
    · rw [hX]; exact ((Blk.newAt (by simp) .u32 26 m).alloc _).alloc _
    · rw [hX]; exact (Blk.newAt (by simp) .u32 26 d).alloc _
    · rw [hX]; exact Blk.newAt (by simp) .u32 26 t)
  have H1 : Hid (∀ w, Tabs w → Calls Tryz.prog 103 #[.agg (k.map (Value.int .u32)).toArray, .agg (m.map (Value.int .u32)).toArray, .agg (d.map (Value.int .u32)).toArray] w fun e W' => e = .returned (.agg ((tagOf k m d).map (Value.int .u32)).toArray) ∧ Below w.heap.size w W') := hid fun w hw => tag_any w hw k m d hk hm hd wk wm wd
  have H2 : Hid (∀ w, Calls Tryz.prog 102 #[.agg ((tagOf k m d).map (Value.int .u32)).toArray, .agg (t.map (Value.int .u32)).toArray] w fun e W' => e = .returned (.tuple #[.bool (decide (tagOf k m d = t)), .int .i64 8]) ∧ Below w.heap.size w W') := hid fun w => macSame_any w _ _ (tagOf_length _ _ _) ht (hmac_wds _ _) wt
  generalize decide (tagOf k m d = t) = r at *
  generalize tagOf k m d = M at *
  clear hT wk wm wd wt
  unfold Ag at *
  go_enter Tryz.func87, Tryz.ntmps87
  go_upto_region 1 with fail
  rw [← hX]
  clear hX
  refine wp_region_held_drew (S := fun w => VS W k m d t w) (by kernel_rfl) Y0.out (fun hHeld => ?_)
  generalize World.drew _ = w0 at *
  refine tk 0 ⟨some 12, .load 26 (.tmp 4), 26, "attest.go:23", #[], none⟩ (.agg ((k).map (Value.int .u32)).toArray) ?_ (hy := yieldsIf_load_mid (by rfl) _ _ rfl _ _ rfl _ _ (fun w hSw => cel_range (blk_cel hSw.bk)) Tryz.underlying26 rfl (by rw [List.length_map, hk]; exact size26))
  simp only [Act.put, List.setIfInBounds_toArray, List.set_cons_zero, List.set_cons_succ]
  refine tk 1 ⟨some 13, .load 26 (.tmp 5), 26, "attest.go:23", #[], none⟩ (.agg ((m).map (Value.int .u32)).toArray) ?_ (hy := yieldsIf_load_mid (by rfl) _ _ rfl _ _ rfl _ _ (fun w hSw => cel_range (blk_cel hSw.bm)) Tryz.underlying26 rfl (by rw [List.length_map, hm]; exact size26))
  simp only [Act.put, List.setIfInBounds_toArray, List.set_cons_zero, List.set_cons_succ]
  refine tk 2 ⟨some 14, .load 26 (.tmp 6), 26, "attest.go:23", #[], none⟩ (.agg ((d).map (Value.int .u32)).toArray) ?_ (hy := yieldsIf_load_mid (by rfl) _ _ rfl _ _ rfl _ _ (fun w hSw => cel_range (blk_cel hSw.bd)) Tryz.underlying26 rfl (by rw [List.length_map, hd]; exact size26))
  simp only [Act.put, List.setIfInBounds_toArray, List.set_cons_zero, List.set_cons_succ]
  refine tk 4 ⟨some 16, .load 26 (.tmp 7), 26, "attest.go:23", #[], none⟩ (.agg ((t).map (Value.int .u32)).toArray) ?_ (hy := yieldsIf_load_mid (by rfl) _ _ rfl _ _ rfl _ _ (fun w hSw => cel_range (blk_cel hSw.bt)) Tryz.underlying26 rfl (by rw [List.length_map, ht]; exact size26))
  simp only [Act.put, List.setIfInBounds_toArray, List.set_cons_zero, List.set_cons_succ]
  refine wpAnyH_ready (rs := [3]) (by kernel_rfl) (by simp) (AllReadyH.cons (o := ⟨some 15, .call { callee := .value (.func 103), args := #[.tmp 12, .tmp 13, .tmp 14], argTypes := #[26, 26, 26] }, 26, "attest.go:23", #[⟨0, .data⟩, ⟨1, .data⟩, ⟨2, .data⟩], none⟩) rfl (fun KQ hK => ?_) AllReadyH.nil)
  go_simp
  refine (H1.out _ Y0.out.tb).mono ?_
  rintro e w1 ⟨rfl, h1⟩
  have Y1 := hid (Y0.out.on h1)
  clear h1 Y0
  go_wp2_with fail
  refine hK.out _ _ Y1.out (fun hHeld => ?_)
  clear hK KQ
  try simp only [Act.put, List.setIfInBounds_toArray, List.set_cons_zero, List.set_cons_succ]
  refine wpAnyH_ready (rs := [5]) (by kernel_rfl) (by simp) (AllReadyH.cons (o := ⟨some 17, .call { callee := .value (.func 102), args := #[.tmp 15, .tmp 16], argTypes := #[26, 26] }, 186, "attest.go:23", #[⟨3, .data⟩, ⟨4, .data⟩, ⟨3, .chain⟩], none⟩) rfl (fun KQ hK => ?_) AllReadyH.nil)
  go_simp
  refine (H2.out _).mono ?_
  rintro e w2 ⟨rfl, h2⟩
  have Y2 := hid (Y1.out.on h2)
  clear h2 Y1
  go_wp2_with fail
  refine hK.out _ _ Y2.out (fun hHeld => ?_)
  clear hK KQ
  try simp only [Act.put, List.setIfInBounds_toArray, List.set_cons_zero, List.set_cons_succ]
  refine tk 6 ⟨some 11, .move (.tmp 17), 186, "attest.go:23", #[⟨5, .data⟩], none⟩ (.tuple #[.bool r, .int .i64 8]) ?_
  simp only [Act.put, List.setIfInBounds_toArray, List.set_cons_zero, List.set_cons_succ]
  refine tk 7 ⟨some 18, .extract (.tmp 11) 0, 4, "attest.go:23", #[⟨6, .data⟩], none⟩ (.bool r) ?_
  simp only [Act.put, List.setIfInBounds_toArray, List.set_cons_zero, List.set_cons_succ]
  refine tk 8 ⟨some 19, .extract (.tmp 11) 1, 3, "attest.go:23", #[⟨6, .data⟩, { on := 9, ground := .gcOnly Departure.lateStores }], none⟩ (.int .i64 8) ?_
  simp only [Act.put, List.setIfInBounds_toArray, List.set_cons_zero, List.set_cons_succ]
  refine wpAnyH_ready (rs := [9]) (by kernel_rfl) (by simp) (AllReadyH.cons (o := ⟨some 9, .assign (.tmp 18), 4, "attest.go:23", #[⟨7, .data⟩, ⟨5, .chain⟩, ⟨0, .phase⟩, ⟨1, .phase⟩, ⟨2, .phase⟩, ⟨3, .phase⟩, ⟨4, .phase⟩, ⟨5, .phase⟩, ⟨6, .phase⟩, ⟨7, .phase⟩, { on := 8, ground := .textOnly Departure.lateStores }], none⟩) rfl (fun KQ hK => ?_) AllReadyH.nil)
  go_simp
  refine hK.out _ _ Y2.out (fun hHeld => ?_)
  clear hK KQ
  try simp only [Act.put, List.setIfInBounds_toArray, List.set_cons_zero, List.set_cons_succ]
  refine wpAnyH_ready (rs := [10]) (by kernel_rfl) (by simp) (AllReadyH.cons (o := ⟨some 10, .assign (.tmp 19), 3, "attest.go:23", #[⟨8, .data⟩, ⟨9, .chain⟩, ⟨0, .phase⟩, ⟨1, .phase⟩, ⟨2, .phase⟩, ⟨3, .phase⟩, ⟨4, .phase⟩, ⟨5, .phase⟩, ⟨6, .phase⟩, ⟨7, .phase⟩, ⟨8, .phase⟩, ⟨9, .phase⟩], none⟩) rfl (fun KQ hK => ?_) AllReadyH.nil)
  go_simp
  refine hK.out _ _ Y2.out (fun hHeld => ?_)
  clear hK KQ
  try simp only [Act.put, List.setIfInBounds_toArray, List.set_cons_zero, List.set_cons_succ]
  refine wpAnyH_done (by kernel_rfl) ?_ _
  go_wp2_with fail
  go_ret
  exact ⟨rfl, Y2.out.bl⟩
end Go.Proofs.YtbpdmkohihgnjaaGreatDoor
