/- The document's answer for layer 1: two, Bytes. -/
import Derived.Test.YtialckmoigcdeaaDoorP1
namespace Go.Proofs.YtialckmoigcdeaaDoor
open Go.RowKit

theorem pow62 (k : Nat) (h : k ≤ 62) : (2 : Int) ^ k ≤ 4611686018427387904 := by
  have := M.two_le h
  have e : (2 : Int) ^ 62 = 4611686018427387904 := by decide
  omega
theorem two_any (W : World) (n : Int) (n0 : 0 ≤ n) (n1 : n ≤ 62) :
    Calls Tryd.prog 49 #[.int .i64 n] W fun e W' => e = .returned (.int .i64 (2 ^ n.toNat)) ∧ W = W' := by
  obtain ⟨m, rfl⟩ := Int.eq_ofNat_of_zero_le n0
  rw [Int.toNat_natCast]
  go_enter Tryd.func49, Tryd.ntmps49
  go_wp2
  go_loop [3, 4] (fun p i => ∃ k : Nat, k ≤ m ∧ i = .int .i64 k ∧ p = .int .i64 (2 ^ k)) (fun _ i => m - (intOf i).toNat)
  case atStart => exact ⟨0, Nat.zero_le _, rfl, rfl⟩
  case round =>
    obtain ⟨k, hk, rfl, rfl⟩ := hrel
    by_cases hlt : k < m
    · have h1 := pow62 (k + 1) (by omega)
      have h2 := M.two_pos k
      have h3 : (2 : Int) ^ (k + 1) = 2 * 2 ^ k := by rw [Int.pow_succ]; omega
      rw [h3] at h1
      have H3 : Hid _ := h3
      clear h3
      go_wp2
      go_round
      case rel => exact ⟨k + 1, by omega, by go_num, by rw [H3.out]⟩
      case measure => simp [intOf]; omega
    · obtain rfl : k = m := by omega
      go_wp2
      go_ret
      exact ⟨rfl, rfl⟩
theorem byteW_eq (x : Int) (q0 : 0 ≤ x) (q1 : x < 4294967296) : byteW x = [x / 16777216, x / 65536 % 256, x / 256 % 256, x % 256] := by
  have e1 : x / 16777216 % 256 = x / 16777216 := by omega
  rw [byteW, e1]
set_option maxRecDepth 20000 in
set_option maxHeartbeats 1000000 in
theorem rbytes_any (W : World) (b off n cap : Nat) (xs : List Int) (hx : xs.length = n) (wx : Wds xs) (h1 : Row W .u32 b off xs) (hn : 4 * n ≤ 140737488351232) (hb : b < W.heap.size) :
    Calls Tryd.prog 37 #[.slice (some ⟨b, off, none⟩) n cap] W fun e W' => ∃ v, e = .returned v ∧ Holds W W' .u8 5 v (bytesD xs) := by
  obtain ⟨i0, hi, hz0, hz1, hz2⟩ := info_parts Tryd.info5
  have T24 : Hid (∀ w, Calls Tryd.prog 49 #[.int .i64 24] w fun e W' => e = .returned (.int .i64 16777216) ∧ w = W') := fun w => two_any w 24 (by decide) (by decide)
  have T16 : Hid (∀ w, Calls Tryd.prog 49 #[.int .i64 16] w fun e W' => e = .returned (.int .i64 65536) ∧ w = W') := fun w => two_any w 16 (by decide) (by decide)
  have T8 : Hid (∀ w, Calls Tryd.prog 49 #[.int .i64 8] w fun e W' => e = .returned (.int .i64 256) ∧ w = W') := fun w => two_any w 8 (by decide) (by decide)
  go_enter Tryd.func37, Tryd.ntmps37
  go_wp2
  go_loopw [3, 4] (fun v i wr => ∃ k : Nat, k ≤ n ∧ i = .int .i64 k ∧ Holds W wr .u8 5 v (bytesD (xs.take k))) (fun _ i _ => n - (intOf i).toNat)
  case atStart => exact ⟨0, Nat.zero_le _, rfl, Holds.start _ _ _⟩
  case round =>
    obtain ⟨k, hk, rfl, F⟩ := hrel
    by_cases hlt : k < n
    · have hc := h1.below F.below hb k (by omega)
      obtain ⟨q0, q1⟩ := wx k
      have HT : Hid _ := bytesD_take xs k (by omega)
      have hlen : (bytesD (xs.take k)).length = 4 * k := by rw [bytesD_length, List.length_take]; omega
      generalize xs.getD k 0 = x at *
      generalize bytesD (xs.take k) = L at *
      have HB : Hid _ := byteW_eq x q0 q1
      have t1 : x.tdiv 16777216 = x / 16777216 := Int.tdiv_eq_ediv_of_nonneg q0
      have t2 : x.tdiv 65536 = x / 65536 := Int.tdiv_eq_ediv_of_nonneg q0
      have t3 : x.tdiv 256 = x / 256 := Int.tdiv_eq_ediv_of_nonneg q0
      have t4 : (x / 65536).tmod 256 = x / 65536 % 256 := Int.tmod_eq_emod_of_nonneg (by omega)
      have t5 : (x / 256).tmod 256 = x / 256 % 256 := Int.tmod_eq_emod_of_nonneg (by omega)
      have t6 : x.tmod 256 = x % 256 := Int.tmod_eq_emod_of_nonneg q0
      have v1 : IntKind.i64.wrap (x / 16777216) = x / 16777216 := by rw [IntKind.wrap_i64]; omega
      have v2 : IntKind.i64.wrap (x / 65536) = x / 65536 := by rw [IntKind.wrap_i64]; omega
      have v3 : IntKind.i64.wrap (x / 256) = x / 256 := by rw [IntKind.wrap_i64]; omega
      have v4 : IntKind.u8.wrap (x / 16777216) = x / 16777216 := by rw [IntKind.wrap_u8]; omega
      have v5 : IntKind.u8.wrap (x / 65536 % 256) = x / 65536 % 256 := by rw [IntKind.wrap_u8]; omega
      have v6 : IntKind.u8.wrap (x / 256 % 256) = x / 256 % 256 := by rw [IntKind.wrap_u8]; omega
      have v7 : IntKind.u8.wrap (x % 256) = x % 256 := by rw [IntKind.wrap_u8]; omega
      have ho := F.own
      have hbl := F.below
      have hv : ∀ g, u3.ownBlock = some g → W.heap.size ≤ g := fun g hg => (ho.lt g hg).1
      rw [hlen] at ho
      have HO : Hid _ := ho
      have HV : Hid _ := hv
      have A1 : Hid (((wr.alloc (.cells #[.int .u8 (x / 16777216), .int .u8 (x / 65536 % 256), .int .u8 (x / 256 % 256), .int .u8 (x % 256)] 5)).drew).ownsRow W.heap.size 5 1 u3 (4 * k) (L.map (Value.int .u8))) := (ho.alloc _).drew
      have A2 : Hid (∀ j u, [Value.int .u8 (x / 16777216), .int .u8 (x / 65536 % 256), .int .u8 (x / 256 % 256), .int .u8 (x % 256)][j]? = some u → ((wr.alloc (.cells #[.int .u8 (x / 16777216), .int .u8 (x / 65536 % 256), .int .u8 (x / 256 % 256), .int .u8 (x % 256)] 5)).drew).cell? ((⟨wr.heap.size, 0, none⟩ : Addr).add j) = some u) := World.news_of_block (w := (wr.alloc (.cells #[.int .u8 (x / 16777216), .int .u8 (x / 65536 % 256), .int .u8 (x / 256 % 256), .int .u8 (x % 256)] 5)).drew) (heap_alloc_new wr _)
      have A3 : Hid (∀ u ∈ [Value.int .u8 (x / 16777216), .int .u8 (x / 65536 % 256), .int .u8 (x / 256 % 256), .int .u8 (x % 256)], u.oneCell' = true) := ints_oneCell .u8 [x / 16777216, x / 65536 % 256, x / 256 % 256, x % 256]
      have A4 : Hid (4 * k + 4 ≤ maxLen) := by show _ ≤ _; unfold maxLen; omega
      have A5 : Hid ((4 * k + 4) * 1 ≤ 140737488355328) := by show _ ≤ _; omega
      have A6 : Hid (W.heap.size ≤ ((wr.alloc (.cells #[.int .u8 (x / 16777216), .int .u8 (x / 65536 % 256), .int .u8 (x / 256 % 256), .int .u8 (x % 256)] 5)).drew).heap.size) := by show _ ≤ _; have := hbl.size; simp; omega
      have A7 : Hid (((wr.alloc (.cells #[.int .u8 (x / 16777216), .int .u8 (x / 65536 % 256), .int .u8 (x / 256 % 256), .int .u8 (x % 256)] 5)).drew).heap.size = wr.heap.size + 1) := by show _ = _; simp
      clear F ho hv h1 wx
      go_wp2
      go_region_held3 (fun _ => True) (trivial) (first | (go_at_call_of 49 (Value.int .i64 24); refine (T24.out _).mono ?_; rintro e w' ⟨rfl, rfl⟩) | (go_at_call_of 49 (Value.int .i64 16); refine (T16.out _).mono ?_; rintro e w' ⟨rfl, rfl⟩) | (go_at_call_of 49 (Value.int .i64 8); refine (T8.out _).mono ?_; rintro e w' ⟨rfl, rfl⟩) | (refine step_append_lies _ (by rfl) _ _ 22 (by rfl) W.heap.size 5 i0 (.int .u8 0) 1 1 Tryd.underlying22 hi hz0 hz1 hz2 rfl (by decide) u3 (4 * k) _ (by rfl) A1.out ⟨wr.heap.size, 0, none⟩ 4 4 [.int .u8 (x / 16777216), .int .u8 (x / 65536 % 256), .int .u8 (x / 256 % 256), .int .u8 (x % 256)] (by rfl) (by rfl) A2.out A3.out (by decide) A4.out A5.out A6.out (wr.heap.size + 1) A7.out ?_; intro g cap' w1 hown1 hgrow hat hlt1))
      have HH : Hid (Holds W w1 .u8 5 (.slice (some ⟨g, 0, none⟩) (4 * k + 4) cap') (bytesD (xs.take (k + 1)))) := by
        rw [HT.out, HB.out]
        exact Holds.grow ((hbl.alloc hbl.size _).drew) HV.out hown1 hgrow (by simp [hlen]) (by simp)
      clear hown1 hgrow hat
      go_wp2
      go_roundw
      case rel => exact ⟨k + 1, by omega, by go_num, HH.out⟩
      case measure => simp [intOf]; omega
    · obtain rfl : k = n := by omega
      have HH : Hid (Holds W wr .u8 5 u3 (bytesD xs)) := by
        rw [List.take_of_length_le (by omega)] at F
        exact F
      clear F
      go_wp2
      go_ret
      exact ⟨_, rfl, HH.out⟩
theorem rbytes_nil (W : World) (ao : Option Addr) (cap : Nat) :
    Calls Tryd.prog 37 #[.slice ao 0 cap] W fun e W' => ∃ v, e = .returned v ∧ Holds W W' .u8 5 v (bytesD []) := by
  have HH : Hid (Holds W W .u8 5 (.slice none 0 0) (bytesD [])) := Holds.start _ _ _
  go_enter Tryd.func37, Tryd.ntmps37
  go_wp2
  refine wp_loop_rounds 1 ?_
  rw [rounds_succ]
  go_wp2
  go_ret
  exact ⟨_, rfl, HH.out⟩
theorem rbytes_at (W : World) (ao : Option Addr) (n cap : Nat) (xs : List Int) (hx : xs.length = n) (wx : Wds xs) (h1 : At W .u32 ao xs) (hn : 4 * n ≤ 140737488351232) :
    Calls Tryd.prog 37 #[.slice ao n cap] W fun e W' => ∃ vo vc, e = .returned (.slice vo (4 * n) vc) ∧ 4 * n ≤ vc ∧ At W' .u8 vo (bytesD xs) ∧ Sl vo vc ∧ Below W.heap.size W W' := by
  have hl : (bytesD xs).length = 4 * n := by rw [bytesD_length, hx]
  have key : Calls Tryd.prog 37 #[.slice ao n cap] W fun e W' => ∃ v, e = .returned v ∧ Holds W W' .u8 5 v (bytesD xs) := by
    rcases h1 with rfl | ⟨b, off, rfl, hb, h1⟩
    · simp at hx
      subst hx
      exact rbytes_nil W ao cap
    · exact rbytes_any W b off n cap xs hx wx h1 hn hb
  refine key.mono ?_
  rintro e w ⟨v, rfl, H⟩
  obtain ⟨vo, vc, rfl, h1, h2, h3⟩ := H.at'
  rw [hl] at h1 ⊢
  exact ⟨vo, vc, rfl, h1, h2, fun h => (h3 h).1, H.below⟩
end Go.Proofs.YtialckmoigcdeaaDoor
