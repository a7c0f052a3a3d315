import Derived.Test.YtialckmoigcdeaaDoorSums
namespace Go.Proofs.YtialckmoigcdeaaDoor
open Go.RowKit

theorem nat_join (k a c : Nat) (h : c < 2 ^ k) : a * 2 ^ k ||| c = a * 2 ^ k + c := by
  have := Nat.two_pow_add_eq_or_of_lt h a
  rw [Nat.mul_comm (2 ^ k) a] at this
  exact this.symm
/-- Word i of the first t bytes. -/
def wordAt (bs : List Int) (t i : Nat) : Int :=
  let f := fun (a : Int) (j : Nat) => if 4 * i + j < t then a * 256 + bs.getD (4 * i + j) 0 else a
  f (f (f (f 0 0) 1) 2) 3
def partW (bs : List Int) (n t : Nat) : List Int := (List.range n).map (wordAt bs t)
def wordsD (bs : List Int) (n : Nat) : List Int := partW bs n (4 * n)
theorem partW_length (bs : List Int) (n t : Nat) : (partW bs n t).length = n := by simp [partW]
theorem partW_getD (bs : List Int) (n t i : Nat) (hi : i < n) : (partW bs n t).getD i 0 = wordAt bs t i := by simp [partW, List.getD_eq_getElem?_getD, hi]
theorem wordAt_zero (bs : List Int) (i : Nat) : wordAt bs 0 i = 0 := by simp [wordAt]
theorem wordAt_other (bs : List Int) (t i : Nat) (h : i ≠ t / 4) : wordAt bs (t + 1) i = wordAt bs t i := by
  have e : ∀ j, j < 4 → (4 * i + j < t + 1 ↔ 4 * i + j < t) := fun j hj => by omega
  simp only [wordAt, e 0 (by decide), e 1 (by decide), e 2 (by decide), e 3 (by decide)]
theorem wordAt_step (bs : List Int) (i j : Nat) (hj : j < 4) : wordAt bs (4 * i + j + 1) i = wordAt bs (4 * i + j) i * 256 + bs.getD (4 * i + j) 0 := by
  match j, hj with
  | 0, _ => simp (disch := omega) only [wordAt, if_pos, if_neg]
  | 1, _ => simp (disch := omega) only [wordAt, if_pos, if_neg]
  | 2, _ => simp (disch := omega) only [wordAt, if_pos, if_neg]
  | 3, _ => simp (disch := omega) only [wordAt, if_pos, if_neg]
theorem wordAt_bound (bs : List Int) (hb : Bts bs) (i j : Nat) (hj : j < 4) : 0 ≤ wordAt bs (4 * i + j) i ∧ wordAt bs (4 * i + j) i < 16777216 := by
  have h0 := hb (4 * i + 0)
  have h1 := hb (4 * i + 1)
  have h2 := hb (4 * i + 2)
  match j, hj with
  | 0, _ => simp (disch := omega) only [wordAt, if_neg]; omega
  | 1, _ => simp (disch := omega) only [wordAt, if_pos, if_neg]; omega
  | 2, _ => simp (disch := omega) only [wordAt, if_pos, if_neg]; omega
  | 3, _ => simp (disch := omega) only [wordAt, if_pos, if_neg]; omega
theorem partW_zero (bs : List Int) (n : Nat) : partW bs n 0 = List.replicate n 0 := by
  apply List.ext_getElem
  · simp [partW]
  · intro i h1 h2
    simp [partW, wordAt_zero]
theorem partW_step (bs : List Int) (n i j : Nat) (hi : i < n) (hj : j < 4) (u : Int) (hu : u = wordAt bs (4 * i + j) i * 256 + bs.getD (4 * i + j) 0) : (partW bs n (4 * i + j)).set i u = partW bs n (4 * i + j + 1) := by
  apply List.ext_getElem
  · simp [partW]
  · intro a h1 h2
    rw [List.getElem_set]
    simp only [partW, List.getElem_map, List.getElem_range]
    split
    · subst_vars
      rw [wordAt_step bs _ j hj]
    · rw [wordAt_other bs _ a (by omega)]
theorem or_byte (x b : Int) (x0 : 0 ≤ x) (x1 : x < 16777216) (b0 : 0 ≤ b) (b1 : b < 256) : bits .or .u32 (x * 256) b = x * 256 + b := by
  obtain ⟨x, rfl⟩ := Int.eq_ofNat_of_zero_le x0
  obtain ⟨b, rfl⟩ := Int.eq_ofNat_of_zero_le b0
  have e : ((x : Int) * 256) = ((x * 2 ^ 8 : Nat) : Int) := by omega
  rw [e, u32_or_nat _ _ (by omega) (by omega), nat_join 8 x b (by omega)]
  omega


set_option maxRecDepth 20000 in
set_option maxHeartbeats 1000000 in
theorem pack_any (W : World) (ao : Option Addr) (n cap : Nat) (bs : List Int) (hl : bs.length = 4 * n) (hbs : Bts bs) (h1 : At W .u8 ao bs) (hc : 4 * n ≤ cap) (hn : 4 * n ≤ 140737488355200) :
    Calls Tryd.prog 44 #[.slice ao (4 * n) cap] W fun e W' => e = .returned (.slice (some ⟨W.heap.size, 0, none⟩) n n) ∧ Owned W W' .u32 25 n (wordsD bs n) := by
  obtain ⟨i0, hi, hz0, hz1, hz2⟩ := info_parts Tryd.info25
  have h5 : ((4 * n : Nat) : Int) / 4 = (n : Int) := by omega
  go_enter Tryd.func44, Tryd.ntmps44
  go_wp2_with (first | (at_make; refine wpList_make_full _ rfl _ _ 35 rfl W.heap.size 25 i0 (.int .u32 0) 1 Tryd.underlying35 hi hz0 hz1 .i64 .i64 _ _ n rfl rfl (by omega) (by omega) ?c1 ?c2 (Nat.le_refl _) ?_))
  case c1 => rw [hz2]; omega
  case c2 => unfold maxLen; omega
  intro w' hown hg
  have F0 := Owned.start hown hg
  rw [← partW_zero bs n] at F0
  clear hown hg hi hz0 hz1 hz2
  go_wp2
  go_loopw [4, 6, 13] (fun _ _ i wr => ∃ k : Nat, k ≤ n ∧ i = .int .i64 k ∧ Owned W wr .u32 25 n (partW bs n (4 * k))) (fun _ _ i _ => n - (intOf i).toNat)
  case atStart => exact ⟨0, Nat.zero_le _, rfl, F0⟩
  case round =>
    clear F0
    obtain ⟨i, hin, rfl, F⟩ := hrel
    by_cases hlt : i < n
    · rcases h1 with h1 | ⟨b, off, rfl, hb, h1⟩
      · rw [h1] at hl; simp at hl; omega
      · have i1 : (i : Int) ≤ 35184372088800 := by omega
        have i2 : (i : Int) * 4 ≤ ((i : Int) + 1) * 4 := by omega
        have i3 : ((i : Int) + 1) * 4 ≤ (cap : Int) := by omega
        have i4 : ((i : Int) * 4).toNat = 4 * i := by omega
        have i5 : (((i : Int) + 1) * 4).toNat = 4 * i + 4 := by omega
        have i6 : ¬ cap = 4 * i := by omega
        have i7 : 4 * i + 4 - 4 * i = 4 := by omega
        have i8 : (i : Int) < (n : Int) := by omega
        have FF : Hid (Owned W wr .u32 25 n (partW bs n (4 * i))) := F
        clear F
        go_wp2
        go_loopw [6, 24] (fun _ j wr => ∃ k : Nat, k ≤ 4 ∧ j = .int .i64 k ∧ Owned W wr .u32 25 n (partW bs n (4 * i + k))) (fun _ j _ => 4 - (intOf j).toNat)
        case atStart => exact ⟨0, Nat.zero_le _, rfl, FF.out⟩
        case round =>
          clear FF
          obtain ⟨j, hj4, rfl, F⟩ := hrel
          by_cases hjlt : j < 4
          · have hcb := h1.below F.below hb (4 * i + j) (by omega)
            rw [show off + (4 * i + j) = off + 4 * i + j by omega] at hcb
            obtain ⟨q0, q1⟩ := hbs (4 * i + j)
            obtain ⟨x0, x1⟩ := wordAt_bound bs hbs i j hjlt
            have hps := partW_step bs n i j hlt hjlt
            have hcell := F.cell i hlt
            rw [partW_getD bs n _ i hlt] at hcell
            have hfree := F.free i
            have hor : Hid _ := or_byte _ _ x0 x1 q0 q1
            have HS : Hid (∀ u, u = wordAt bs (4 * i + j) i * 256 + bs.getD (4 * i + j) 0 → Owned W (wr.setCell ⟨W.heap.size, i, none⟩ (.int .u32 u)) .u32 25 n (partW bs n (4 * i + j + 1))) :=
              fun u hu => F.step i u (hps u hu)
            clear F hps i2 i3 i4 i5 i6 i7
            generalize wordAt bs (4 * i + j) i = x at *
            generalize bs.getD (4 * i + j) 0 = y at *
            go_wp2
            go_roundw
            case rel => exact ⟨j + 1, by omega, by go_num, HS.out _ hor.out⟩
            case measure => simp [intOf]; omega
          · obtain rfl : j = 4 := by omega
            have HB : Hid (Owned W wr .u32 25 n (partW bs n (4 * i + 4))) := F
            clear F
            go_wp2
            go_roundw
            case rel => exact ⟨i + 1, by omega, by go_num, HB.out⟩
            case measure => simp [intOf]; omega
    · obtain rfl : i = n := by omega
      have HB : Hid (Owned W wr .u32 25 i (wordsD bs i)) := F
      clear F
      go_wp2
      go_ret
      exact ⟨rfl, HB⟩
end Go.Proofs.YtialckmoigcdeaaDoor
