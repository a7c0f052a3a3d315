import Derived.Test.YtlfnpllojinjdaaDoorRef5
import Derived.Deep.RegionHeld3
import Derived.Deep.RegionWith
import Derived.Deep.AppendLies
import Derived.Lib.AppendStr
namespace Go.Proofs.YtlfnpllojinjdaaDoor
open Go.RowKit

/-- What a slice of the call's own holds. -/
structure Holds (W wr : World) (k : IntKind) (e : TypeId) (v : Value) (L : List Int) : Prop where
  own : wr.ownsRow W.heap.size e 1 v L.length (L.map (Value.int k))
  below : Below W.heap.size W wr
theorem Holds.start (W : World) (k : IntKind) (e : TypeId) : Holds W W k e (.slice none 0 0) [] := ⟨World.ownsRow_nil _ _ _ _, Below.refl _ _⟩
/-- As the value of a slice, and its numbers. -/
theorem Holds.at {W wr : World} {k : IntKind} {e : TypeId} {v : Value} {L : List Int} (h : Holds W wr k e v L) : ∃ ao cap, v = .slice ao L.length cap ∧ At wr k ao L := by
  rcases h.own.2 with ⟨rfl, h0⟩ | ⟨g, cap, cur, rfl, hg, hh, hn, hm, hs, ht⟩
  · exact ⟨none, 0, by rw [h0], .inl (List.eq_nil_of_length_eq_zero h0)⟩
  · refine ⟨some ⟨g, 0, none⟩, cap, rfl, .inr ⟨g, 0, rfl, ?_, ?_⟩⟩
    · exact (h.own.lt g rfl).2
    · intro i hi
      rw [Nat.zero_add, h.own.cellAt i (by omega)]
      simp [List.getD_eq_getElem?_getD, hi]
theorem bytesD_take (xs : List Int) (k : Nat) (h : k < xs.length) : bytesD (xs.take (k + 1)) = bytesD (xs.take k) ++ byteW (xs.getD k 0) := by
  unfold bytesD
  rw [List.take_succ_eq_append_getElem h, List.map_append, List.flatten_append]
  simp [List.getD_eq_getElem?_getD, h]
theorem byteW_eq (x : Int) (q0 : 0 ≤ x) (q1 : x < 4294967296) : byteW x = [x / 16777216, x / 65536 % 256, x / 256 % 256, x % 256] := by
  have e1 : M.Fld x 24 8 = x / 16777216 := by simp only [M.Fld]; omega
  have e2 : M.Fld x 16 8 = x / 65536 % 256 := by simp only [M.Fld]; omega
  have e3 : M.Fld x 8 8 = x / 256 % 256 := by simp only [M.Fld]; omega
  have e4 : M.Fld x 0 8 = x % 256 := by simp only [M.Fld]; omega
  rw [byteW, e1, e2, e3, e4]
theorem Holds.grow {W wr w1 : World} {k : IntKind} {e : TypeId} {v v' : Value} {L' : List Int} {n : Nat} {news : List Value} (hb : Below W.heap.size W wr) (hv : ∀ g, v.ownBlock = some g → W.heap.size ≤ g) (hown : w1.ownsRow W.heap.size e 1 v' n news) (hg : wr.grownBy w1 v.ownBlock) (hn : n = L'.length) (hnews : news = L'.map (Value.int k)) : Holds W w1 k e v' L' := by
  subst hn hnews
  exact ⟨hown, hb.grown hg hb.size hv⟩

set_option maxRecDepth 20000 in
set_option maxHeartbeats 1000000 in
theorem rbytes_any (W : World) (b off n cap : Nat) (xs : List Int) (hx : xs.length = n) (wx : Wds xs) (h1 : Row W .u32 b off xs) (hn : 4 * n ≤ 140737488351232) (hb : b < W.heap.size) :
    Calls Tryd.prog 30 #[.slice (some ⟨b, off, none⟩) n cap] W fun e W' => ∃ v, e = .returned v ∧ Holds W W' .u8 5 v (bytesD xs) := by
  obtain ⟨i0, hi, hz0, hz1, hz2⟩ := info_parts Tryd.info5
  have T24 : Hid (∀ w, Calls Tryd.prog 42 #[.int .i64 24] w fun e W' => e = .returned (.int .i64 16777216) ∧ w = W') := fun w => two_any w 24 (by decide) (by decide)
  have T16 : Hid (∀ w, Calls Tryd.prog 42 #[.int .i64 16] w fun e W' => e = .returned (.int .i64 65536) ∧ w = W') := fun w => two_any w 16 (by decide) (by decide)
  have T8 : Hid (∀ w, Calls Tryd.prog 42 #[.int .i64 8] w fun e W' => e = .returned (.int .i64 256) ∧ w = W') := fun w => two_any w 8 (by decide) (by decide)
  go_enter Tryd.func30, Tryd.ntmps30
  go_wp2
  go_loopw [3, 4] (fun v i wr => ∃ k : Nat, k ≤ n ∧ i = .int .i64 k ∧ Holds W wr .u8 5 v (bytesD (xs.take k))) (fun _ i _ => n - (intOf i).toNat)
  case atStart => exact ⟨0, Nat.zero_le _, rfl, Holds.start _ _ _⟩
  case round =>
    obtain ⟨k, hk, rfl, F⟩ := hrel
    by_cases hlt : k < n
    · have hc := h1.below F.below hb k (by omega)
      obtain ⟨q0, q1⟩ := wx k
      have HT : Hid _ := bytesD_take xs k (by omega)
      have hlen : (bytesD (xs.take k)).length = 4 * k := by rw [bytesD_length, List.length_take]; omega
      generalize xs.getD k 0 = x at *
      generalize bytesD (xs.take k) = L at *
      have HB : Hid _ := byteW_eq x q0 q1
      have t1 : x.tdiv 16777216 = x / 16777216 := Int.tdiv_eq_ediv_of_nonneg q0
      have t2 : x.tdiv 65536 = x / 65536 := Int.tdiv_eq_ediv_of_nonneg q0
      have t3 : x.tdiv 256 = x / 256 := Int.tdiv_eq_ediv_of_nonneg q0
      have t4 : (x / 65536).tmod 256 = x / 65536 % 256 := Int.tmod_eq_emod_of_nonneg (by omega)
      have t5 : (x / 256).tmod 256 = x / 256 % 256 := Int.tmod_eq_emod_of_nonneg (by omega)
      have t6 : x.tmod 256 = x % 256 := Int.tmod_eq_emod_of_nonneg q0
      have v1 : IntKind.i64.wrap (x / 16777216) = x / 16777216 := by rw [IntKind.wrap_i64]; omega
      have v2 : IntKind.i64.wrap (x / 65536) = x / 65536 := by rw [IntKind.wrap_i64]; omega
      have v3 : IntKind.i64.wrap (x / 256) = x / 256 := by rw [IntKind.wrap_i64]; omega
      have v4 : IntKind.u8.wrap (x / 16777216) = x / 16777216 := by rw [IntKind.wrap_u8]; omega
      have v5 : IntKind.u8.wrap (x / 65536 % 256) = x / 65536 % 256 := by rw [IntKind.wrap_u8]; omega
      have v6 : IntKind.u8.wrap (x / 256 % 256) = x / 256 % 256 := by rw [IntKind.wrap_u8]; omega
      have v7 : IntKind.u8.wrap (x % 256) = x % 256 := by rw [IntKind.wrap_u8]; omega
      have ho := F.own
      have hbl := F.below
      have hv : ∀ g, u3.ownBlock = some g → W.heap.size ≤ g := fun g hg => (ho.lt g hg).1
      rw [hlen] at ho
      have HO : Hid _ := ho
      have HV : Hid _ := hv
      have A1 : Hid (((wr.alloc (.cells #[.int .u8 (x / 16777216), .int .u8 (x / 65536 % 256), .int .u8 (x / 256 % 256), .int .u8 (x % 256)] 5)).drew).ownsRow W.heap.size 5 1 u3 (4 * k) (L.map (Value.int .u8))) := (ho.alloc _).drew
      have A2 : Hid (∀ j u, [Value.int .u8 (x / 16777216), .int .u8 (x / 65536 % 256), .int .u8 (x / 256 % 256), .int .u8 (x % 256)][j]? = some u → ((wr.alloc (.cells #[.int .u8 (x / 16777216), .int .u8 (x / 65536 % 256), .int .u8 (x / 256 % 256), .int .u8 (x % 256)] 5)).drew).cell? ((⟨wr.heap.size, 0, none⟩ : Addr).add j) = some u) := World.news_of_block (w := (wr.alloc (.cells #[.int .u8 (x / 16777216), .int .u8 (x / 65536 % 256), .int .u8 (x / 256 % 256), .int .u8 (x % 256)] 5)).drew) (heap_alloc_new wr _)
      have A3 : Hid (∀ u ∈ [Value.int .u8 (x / 16777216), .int .u8 (x / 65536 % 256), .int .u8 (x / 256 % 256), .int .u8 (x % 256)], u.oneCell' = true) := ints_oneCell .u8 [x / 16777216, x / 65536 % 256, x / 256 % 256, x % 256]
      have A4 : Hid (4 * k + 4 ≤ maxLen) := by show _ ≤ _; unfold maxLen; omega
      have A5 : Hid ((4 * k + 4) * 1 ≤ 140737488355328) := by show _ ≤ _; omega
      have A6 : Hid (W.heap.size ≤ ((wr.alloc (.cells #[.int .u8 (x / 16777216), .int .u8 (x / 65536 % 256), .int .u8 (x / 256 % 256), .int .u8 (x % 256)] 5)).drew).heap.size) := by show _ ≤ _; have := hbl.size; simp; omega
      have A7 : Hid (((wr.alloc (.cells #[.int .u8 (x / 16777216), .int .u8 (x / 65536 % 256), .int .u8 (x / 256 % 256), .int .u8 (x % 256)] 5)).drew).heap.size = wr.heap.size + 1) := by show _ = _; simp
      clear F ho hv h1 wx
      go_wp2
      go_region_held3 (fun _ => True) (trivial) (first | (go_at_call_of 42 (Value.int .i64 24); refine (T24.out _).mono ?_; rintro e w' ⟨rfl, rfl⟩) | (go_at_call_of 42 (Value.int .i64 16); refine (T16.out _).mono ?_; rintro e w' ⟨rfl, rfl⟩) | (go_at_call_of 42 (Value.int .i64 8); refine (T8.out _).mono ?_; rintro e w' ⟨rfl, rfl⟩) | (refine step_append_lies _ (by rfl) _ _ 36 (by rfl) W.heap.size 5 i0 (.int .u8 0) 1 1 Tryd.underlying36 hi hz0 hz1 hz2 rfl (by decide) u3 (4 * k) _ (by rfl) A1.out ⟨wr.heap.size, 0, none⟩ 4 4 [.int .u8 (x / 16777216), .int .u8 (x / 65536 % 256), .int .u8 (x / 256 % 256), .int .u8 (x % 256)] (by rfl) (by rfl) A2.out A3.out (by decide) A4.out A5.out A6.out (wr.heap.size + 1) A7.out ?_; intro g cap' w1 hown1 hgrow hat hlt1))
      have HH : Hid (Holds W w1 .u8 5 (.slice (some ⟨g, 0, none⟩) (4 * k + 4) cap') (bytesD (xs.take (k + 1)))) := by
        rw [HT.out, HB.out]
        exact Holds.grow ((hbl.alloc hbl.size _).drew) HV.out hown1 hgrow (by simp [hlen]) (by simp)
      clear hown1 hgrow hat
      go_wp2
      go_roundw
      case rel => exact ⟨k + 1, by omega, by go_num, HH.out⟩
      case measure => simp [intOf]; omega
    · obtain rfl : k = n := by omega
      have HH : Hid (Holds W wr .u8 5 u3 (bytesD xs)) := by
        rw [List.take_of_length_le (by omega)] at F
        exact F
      clear F
      go_wp2
      go_ret
      exact ⟨_, rfl, HH.out⟩
end Go.Proofs.YtlfnpllojinjdaaDoor
