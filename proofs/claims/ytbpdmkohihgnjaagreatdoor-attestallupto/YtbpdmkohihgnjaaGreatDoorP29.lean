import Derived.Test.YtbpdmkohihgnjaaGreatDoorP13
import Derived.Test.YtbpdmkohihgnjaaGreatDoorP05
namespace Go.Proofs.YtbpdmkohihgnjaaGreatDoor
open Go.RowKit
set_option maxRecDepth 100000

theorem pow62 (k : Nat) (h : k ≤ 62) : (2 : Int) ^ k ≤ 4611686018427387904 := by
  have := M.two_le h
  have e : (2 : Int) ^ 62 = 4611686018427387904 := by decide
  omega
theorem two_any (W : World) (n : Int) (n0 : 0 ≤ n) (n1 : n ≤ 62) :
    Calls Tryz.prog 99 #[.int .i64 n] W fun e W' => e = .returned (.int .i64 (2 ^ n.toNat)) ∧ W = W' := by
  obtain ⟨m, rfl⟩ := Int.eq_ofNat_of_zero_le n0
  rw [Int.toNat_natCast]
  go_enter Tryz.func99, Tryz.ntmps99
  go_wp2
  go_loop [3, 4] (fun p i => ∃ k : Nat, k ≤ m ∧ i = .int .i64 k ∧ p = .int .i64 (2 ^ k)) (fun _ i => m - (intOf i).toNat)
  case atStart => exact ⟨0, Nat.zero_le _, rfl, rfl⟩
  case round =>
    obtain ⟨k, hk, rfl, rfl⟩ := hrel
    by_cases hlt : k < m
    · have h1 := pow62 (k + 1) (by omega)
      have h2 := M.two_pos k
      have h3 : (2 : Int) ^ (k + 1) = 2 * 2 ^ k := by rw [Int.pow_succ]; omega
      rw [h3] at h1
      have H3 : Hid _ := h3
      clear h3
      go_wp2
      go_round
      case rel => exact ⟨k + 1, by omega, by go_num, by rw [H3.out]⟩
      case measure => simp [intOf]; omega
    · obtain rfl : k = m := by omega
      go_wp2
      go_ret
      exact ⟨rfl, rfl⟩
theorem byteW_eq (x : Int) (q0 : 0 ≤ x) (q1 : x < 4294967296) : byteW x = [x / 16777216, x / 65536 % 256, x / 256 % 256, x % 256] := by
  have e1 : x / 16777216 % 256 = x / 16777216 := by omega
  rw [byteW, e1]
set_option maxRecDepth 20000 in
set_option maxHeartbeats 1000000 in
theorem rbytes_any (W : World) (b off n cap : Nat) (xs : List Int) (hx : xs.length = n) (wx : Wds xs) (h1 : Row W .u32 b off xs) (hn : 4 * n ≤ 140737488351232) (hb : b < W.heap.size) :
    Calls Tryz.prog 85 #[.slice (some ⟨b, off, none⟩) n cap] W fun e W' => ∃ v, e = .returned v ∧ Holds W W' .u8 5 v (bytesD xs) := by
  obtain ⟨i0, hi, hz0, hz1, hz2⟩ := info_parts Tryz.info5
  have T24 : Hid (∀ w, Calls Tryz.prog 99 #[.int .i64 24] w fun e W' => e = .returned (.int .i64 16777216) ∧ w = W') := fun w => two_any w 24 (by decide) (by decide)
  have T16 : Hid (∀ w, Calls Tryz.prog 99 #[.int .i64 16] w fun e W' => e = .returned (.int .i64 65536) ∧ w = W') := fun w => two_any w 16 (by decide) (by decide)
  have T8 : Hid (∀ w, Calls Tryz.prog 99 #[.int .i64 8] w fun e W' => e = .returned (.int .i64 256) ∧ w = W') := fun w => two_any w 8 (by decide) (by decide)
  go_enter Tryz.func85, Tryz.ntmps85
  go_wp2
  go_loopw [3, 4] (fun v i wr => ∃ k : Nat, k ≤ n ∧ i = .int .i64 k ∧ Holds W wr .u8 5 v (bytesD (xs.take k))) (fun _ i _ => n - (intOf i).toNat)
  case atStart => exact ⟨0, Nat.zero_le _, rfl, Holds.start _ _ _⟩
  case round =>
    obtain ⟨k, hk, rfl, F⟩ := hrel
    by_cases hlt : k < n
    · have hc := h1.below F.below hb k (by omega)
      obtain ⟨q0, q1⟩ := wx k
      have HT : Hid _ := bytesD_take xs k (by omega)
      have hlen : (bytesD (xs.take k)).length = 4 * k := by rw [bytesD_length, List.length_take]; omega
      generalize xs.getD k 0 = x at *
      generalize bytesD (xs.take k) = L at *
      have HB : Hid _ := byteW_eq x q0 q1
      have t1 : x.tdiv 16777216 = x / 16777216 := Int.tdiv_eq_ediv_of_nonneg q0
      have t2 : x.tdiv 65536 = x / 65536 := Int.tdiv_eq_ediv_of_nonneg q0
      have t3 : x.tdiv 256 = x / 256 := Int.tdiv_eq_ediv_of_nonneg q0
      have t4 : (x / 65536).tmod 256 = x / 65536 % 256 := Int.tmod_eq_emod_of_nonneg (by omega)
      have t5 : (x / 256).tmod 256 = x / 256 % 256 := Int.tmod_eq_emod_of_nonneg (by omega)
      have t6 : x.tmod 256 = x % 256 := Int.tmod_eq_emod_of_nonneg q0
      have v1 : IntKind.i64.wrap (x / 16777216) = x / 16777216 := by rw [IntKind.wrap_i64]; omega
      have v2 : IntKind.i64.wrap (x / 65536) = x / 65536 := by rw [IntKind.wrap_i64]; omega
      have v3 : IntKind.i64.wrap (x / 256) = x / 256 := by rw [IntKind.wrap_i64]; omega
      have v4 : IntKind.u8.wrap (x / 16777216) = x / 16777216 := by rw [IntKind.wrap_u8]; omega
      have v5 : IntKind.u8.wrap (x / 65536 % 256) = x / 65536 % 256 := by rw [IntKind.wrap_u8]; omega
      have v6 : IntKind.u8.wrap (x / 256 % 256) = x / 256 % 256 := by rw [IntKind.wrap_u8]; omega
      have v7 : IntKind.u8.wrap (x % 256) = x % 256 := by rw [IntKind.wrap_u8]; omega
      have ho := F.own
      have hbl := F.below
      have hv : ∀ g, u3.ownBlock = some g → W.heap.size ≤ g := fun g hg => (ho.lt g hg).1
      rw [hlen] at ho
      have HO : Hid _ := ho
      have HV : Hid _ := hv
      have A1 : Hid (((wr.alloc (.cells #[.int .u8 (x / 16777216), .int .u8 (x / 65536 % 256), .int .u8 (x / 256 % 256), .int .u8 (x % 256)] 5)).drew).ownsRow W.heap.size 5 1 u3 (4 * k) (L.map (Value.int .u8))) := (ho.alloc _).drew
      have A2 : Hid (∀ j u, [Value.int .u8 (x / 16777216), .int .u8 (x / 65536 % 256), .int .u8 (x / 256 % 256), .int .u8 (x % 256)][j]? = some u → ((wr.alloc (.cells #[.int .u8 (x / 16777216), .int .u8 (x / 65536 % 256), .int .u8 (x / 256 % 256), .int .u8 (x % 256)] 5)).drew).cell? ((⟨wr.heap.size, 0, none⟩ : Addr).add j) = some u) := World.news_of_block (w := (wr.alloc (.cells #[.int .u8 (x / 16777216), .int .u8 (x / 65536 % 256), .int .u8 (x / 256 % 256), .int .u8 (x % 256)] 5)).drew) (heap_alloc_new wr _)
      have A3 : Hid (∀ u ∈ [Value.int .u8 (x / 16777216), .int .u8 (x / 65536 % 256), .int .u8 (x / 256 % 256), .int .u8 (x % 256)], u.oneCell' = true) := ints_oneCell .u8 [x / 16777216, x / 65536 % 256, x / 256 % 256, x % 256]
      have A4 : Hid (4 * k + 4 ≤ maxLen) := by show _ ≤ _; unfold maxLen; omega
      have A5 : Hid ((4 * k + 4) * 1 ≤ 140737488355328) := by show _ ≤ _; omega
      have A6 : Hid (W.heap.size ≤ ((wr.alloc (.cells #[.int .u8 (x / 16777216), .int .u8 (x / 65536 % 256), .int .u8 (x / 256 % 256), .int .u8 (x % 256)] 5)).drew).heap.size) := by show _ ≤ _; have := hbl.size; simp; omega
      have A7 : Hid (((wr.alloc (.cells #[.int .u8 (x / 16777216), .int .u8 (x / 65536 % 256), .int .u8 (x / 256 % 256), .int .u8 (x % 256)] 5)).drew).heap.size = wr.heap.size + 1) := by show _ = _; simp
      clear F ho hv h1 wx
      go_wp2
      go_region_held3 (fun _ => True) (trivial) (first | (go_at_call_of 99 (Value.int .i64 24); refine (T24.out _).mono ?_; rintro e w' ⟨rfl, rfl⟩) | (go_at_call_of 99 (Value.int .i64 16); refine (T16.out _).mono ?_; rintro e w' ⟨rfl, rfl⟩) | (go_at_call_of 99 (Value.int .i64 8); refine (T8.out _).mono ?_; rintro e w' ⟨rfl, rfl⟩) | (refine step_append_lies _ (by rfl) _ _ 124 (by rfl) W.heap.size 5 i0 (.int .u8 0) 1 1 Tryz.underlying124 hi hz0 hz1 hz2 rfl (by decide) u3 (4 * k) _ (by rfl) A1.out ⟨wr.heap.size, 0, none⟩ 4 4 [.int .u8 (x / 16777216), .int .u8 (x / 65536 % 256), .int .u8 (x / 256 % 256), .int .u8 (x % 256)] (by rfl) (by rfl) A2.out A3.out (by decide) A4.out A5.out A6.out (wr.heap.size + 1) A7.out ?_; intro g cap' w1 hown1 hgrow hat hlt1))
      have HH : Hid (Holds W w1 .u8 5 (.slice (some ⟨g, 0, none⟩) (4 * k + 4) cap') (bytesD (xs.take (k + 1)))) := by
        rw [HT.out, HB.out]
        exact Holds.grow ((hbl.alloc hbl.size _).drew) HV.out hown1 hgrow (by simp [hlen]) (by simp)
      clear hown1 hgrow hat
      go_wp2
      go_roundw
      case rel => exact ⟨k + 1, by omega, by go_num, HH.out⟩
      case measure => simp [intOf]; omega
    · obtain rfl : k = n := by omega
      have HH : Hid (Holds W wr .u8 5 u3 (bytesD xs)) := by
        rw [List.take_of_length_le (by omega)] at F
        exact F
      clear F
      go_wp2
      go_ret
      exact ⟨_, rfl, HH.out⟩
theorem rbytes_nil (W : World) (ao : Option Addr) (cap : Nat) :
    Calls Tryz.prog 85 #[.slice ao 0 cap] W fun e W' => ∃ v, e = .returned v ∧ Holds W W' .u8 5 v (bytesD []) := by
  have HH : Hid (Holds W W .u8 5 (.slice none 0 0) (bytesD [])) := Holds.start _ _ _
  go_enter Tryz.func85, Tryz.ntmps85
  go_wp2
  refine wp_loop_rounds 1 ?_
  rw [rounds_succ]
  go_wp2
  go_ret
  exact ⟨_, rfl, HH.out⟩
theorem rbytes_at (W : World) (ao : Option Addr) (n cap : Nat) (xs : List Int) (hx : xs.length = n) (wx : Wds xs) (h1 : At W .u32 ao xs) (hn : 4 * n ≤ 140737488351232) :
    Calls Tryz.prog 85 #[.slice ao n cap] W fun e W' => ∃ vo vc, e = .returned (.slice vo (4 * n) vc) ∧ 4 * n ≤ vc ∧ At W' .u8 vo (bytesD xs) ∧ Sl vo vc ∧ Below W.heap.size W W' := by
  have hl : (bytesD xs).length = 4 * n := by rw [bytesD_length, hx]
  have key : Calls Tryz.prog 85 #[.slice ao n cap] W fun e W' => ∃ v, e = .returned v ∧ Holds W W' .u8 5 v (bytesD xs) := by
    rcases h1 with rfl | ⟨b, off, rfl, hb, h1⟩
    · simp at hx
      subst hx
      exact rbytes_nil W ao cap
    · exact rbytes_any W b off n cap xs hx wx h1 hn hb
  refine key.mono ?_
  rintro e w ⟨v, rfl, H⟩
  obtain ⟨vo, vc, rfl, h1, h2, h3⟩ := H.at'
  rw [hl] at h1 ⊢
  exact ⟨vo, vc, rfl, h1, h2, fun h => (h3 h).1, H.below⟩
end Go.Proofs.YtbpdmkohihgnjaaGreatDoor
namespace Go.Proofs.YtbpdmkohihgnjaaGreatDoor
open Go.RowKit
set_option maxRecDepth 100000

def TabR (W : World) : Prop := Row W .u32 9 0 S.K
theorem TabR.below {W w : World} {B : Nat} (h : TabR W) (hb : Below B W w) (hB : 12 < B) : TabR w := Row.below h hb (by omega)
theorem TabR.cell {W : World} (h : TabR W) (i : Nat) (hi : i < 64) : W.cell? ⟨9, i, none⟩ = some (.int .u32 (S.K.getD i 0)) := by
  have := h i hi
  rwa [Nat.zero_add] at this
theorem or_comm32 (a b : Int) : bits .or .u32 a b = bits .or .u32 b a := by simp only [bits, BitVec.or_comm]
theorem turn_any (W : World) (x : Int) (z : Int) (k : Nat) (hz : z = k) (h0 : 1 ≤ k) (h1 : k ≤ 31) :
    Calls Tryz.prog 128 #[.int .u32 x, .int .u64 z] W fun e W' => e = .returned (.int .u32 (S.rot x k)) ∧ W = W' := by
  subst hz
  have e1 : IntKind.u64.wrap (32 - (k : Int)) = ((32 - k : Nat) : Int) := by rw [IntKind.wrap_u64]; omega
  have e2 : (32 : Int) - (k : Int) = ((32 - k : Nat) : Int) := by omega
  have e3 : ((32 - k : Nat) : Int) % 18446744073709551616 = ((32 - k : Nat) : Int) := by omega
  have HC : Hid (bits .or .u32 (x / 2 ^ k) (x * 2 ^ (32 - k) % 4294967296) = S.rot x k) := or_comm32 _ _
  go_enter Tryz.func128, Tryz.ntmps128
  go_wp2
  go_ret
  exact ⟨ret_int HC.out, rfl⟩

theorem sched_pre (B : List Int) (k j i : Nat) (hi : i < B.length + k) : (S.sched B (k + j)).getD i 0 = (S.sched B k).getD i 0 := by
  induction j with
  | zero => rfl
  | succ j ih =>
    rw [← ih, ← Nat.add_assoc]
    simp only [S.sched, List.getD_eq_getElem?_getD]
    rw [List.getElem?_append_left (by rw [sched_length]; omega)]
theorem sched_low (B : List Int) (hB : B.length = 16) (i : Nat) (hi : i < 16) : (S.sched B 48).getD i 0 = B.getD i 0 := sched_pre B 0 48 i (by omega)
theorem sched_high (B : List Int) (hB : B.length = 16) (t : Nat) (h : t < 48) : (S.sched B 48).getD (16 + t) 0 = (S.s1 ((S.sched B 48).getD (14 + t) 0) + (S.sched B 48).getD (9 + t) 0 + S.s0 ((S.sched B 48).getD (1 + t) 0) + (S.sched B 48).getD t 0) % 4294967296 := by
  have h1 := sched_pre B (t + 1) (47 - t) (16 + t) (by omega)
  have h2 := fun i (hi : i < 16 + t) => sched_pre B t (48 - t) i (by omega)
  rw [show t + 1 + (47 - t) = 48 by omega] at h1
  rw [show t + (48 - t) = 48 by omega] at h2
  rw [h1, h2 _ (by omega), h2 _ (by omega), h2 _ (by omega), h2 _ (by omega)]
  simp only [S.sched, List.getD_eq_getElem?_getD]
  rw [List.getElem?_append_right (by rw [sched_length, hB]; omega), sched_length, hB, Nat.sub_self]
  simp only [List.getElem?_cons_zero, Option.getD_some, S.next, List.getD_eq_getElem?_getD]
  rw [show 16 + t - 2 = 14 + t by omega, show 16 + t - 7 = 9 + t by omega, show 16 + t - 15 = 1 + t by omega, show 16 + t - 16 = t by omega]
theorem ext_sched (B L : List Int) (hB : B.length = 16) (hL : L.length = 64) (h : ∀ i, i < 64 → L.getD i 0 = (S.sched B 48).getD i 0) : L = S.sched B 48 := by
  apply List.ext_getElem (by rw [hL, sched_length, hB])
  intro i h1 h2
  have := h i (by omega)
  simpa [List.getD_eq_getElem?_getD, h1, h2] using this
theorem set_upto {L M : List Int} {t n : Nat} (hL : L.length = n) (ht : t < n) (h : ∀ i, i < t → L.getD i 0 = M.getD i 0) (u : Int) (hu : u = M.getD t 0) : (L.set t u).length = n ∧ ∀ i, i < t + 1 → (L.set t u).getD i 0 = M.getD i 0 := by
  subst hu
  refine ⟨by simp [hL], fun i hi => ?_⟩
  rcases Nat.lt_or_ge i t with h' | h'
  · rw [← h i h']
    simp only [List.getD_eq_getElem?_getD]
    rw [List.getElem?_set_ne (by omega)]
  · obtain rfl : i = t := by omega
    simp [List.getD_eq_getElem?_getD, show i < L.length by omega]
end Go.Proofs.YtbpdmkohihgnjaaGreatDoor
