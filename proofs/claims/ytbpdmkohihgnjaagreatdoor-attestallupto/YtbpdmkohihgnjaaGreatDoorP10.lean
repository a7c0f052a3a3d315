import Derived.Test.YtbpdmkohihgnjaaGreatDoorP09
namespace Go.Proofs.YtbpdmkohihgnjaaGreatDoor
open Go.RowKit

theorem nat_join (k a c : Nat) (h : c < 2 ^ k) : a * 2 ^ k ||| c = a * 2 ^ k + c := by
  have := Nat.two_pow_add_eq_or_of_lt h a
  rw [Nat.mul_comm (2 ^ k) a] at this
  exact this.symm
def wordAt (bs : List Int) (t i : Nat) : Int :=
  let f := fun (a : Int) (j : Nat) => if 4 * i + j < t then a * 256 + bs.getD (4 * i + j) 0 else a
  f (f (f (f 0 0) 1) 2) 3
def partW (bs : List Int) (n t : Nat) : List Int := (List.range n).map (wordAt bs t)
def wordsD (bs : List Int) (n : Nat) : List Int := partW bs n (4 * n)
theorem partW_length (bs : List Int) (n t : Nat) : (partW bs n t).length = n := by simp [partW]
theorem partW_getD (bs : List Int) (n t i : Nat) (hi : i < n) : (partW bs n t).getD i 0 = wordAt bs t i := by simp [partW, List.getD_eq_getElem?_getD, hi]
theorem wordAt_zero (bs : List Int) (i : Nat) : wordAt bs 0 i = 0 := by simp [wordAt]
theorem wordAt_other (bs : List Int) (t i : Nat) (h : i ≠ t / 4) : wordAt bs (t + 1) i = wordAt bs t i := by
  have e : ∀ j, j < 4 → (4 * i + j < t + 1 ↔ 4 * i + j < t) := fun j hj => by omega
  simp only [wordAt, e 0 (by decide), e 1 (by decide), e 2 (by decide), e 3 (by decide)]
theorem wordAt_step (bs : List Int) (i j : Nat) (hj : j < 4) : wordAt bs (4 * i + j + 1) i = wordAt bs (4 * i + j) i * 256 + bs.getD (4 * i + j) 0 := by
  match j, hj with
  | 0, _ => simp (disch := omega) only [wordAt, if_pos, if_neg]
  | 1, _ => simp (disch := omega) only [wordAt, if_pos, if_neg]
  | 2, _ => simp (disch := omega) only [wordAt, if_pos, if_neg]
  | 3, _ => simp (disch := omega) only [wordAt, if_pos, if_neg]
theorem wordAt_bound (bs : List Int) (hb : Bts bs) (i j : Nat) (hj : j < 4) : 0 ≤ wordAt bs (4 * i + j) i ∧ wordAt bs (4 * i + j) i < 16777216 := by
  have h0 := hb (4 * i + 0)
  have h1 := hb (4 * i + 1)
  have h2 := hb (4 * i + 2)
  match j, hj with
  | 0, _ => simp (disch := omega) only [wordAt, if_neg]; omega
  | 1, _ => simp (disch := omega) only [wordAt, if_pos, if_neg]; omega
  | 2, _ => simp (disch := omega) only [wordAt, if_pos, if_neg]; omega
  | 3, _ => simp (disch := omega) only [wordAt, if_pos, if_neg]; omega
theorem partW_zero (bs : List Int) (n : Nat) : partW bs n 0 = List.replicate n 0 := by
  apply List.ext_getElem
  · simp [partW]
  · intro i h1 h2
    simp [partW, wordAt_zero]
theorem partW_step (bs : List Int) (n i j : Nat) (hi : i < n) (hj : j < 4) (u : Int) (hu : u = wordAt bs (4 * i + j) i * 256 + bs.getD (4 * i + j) 0) : (partW bs n (4 * i + j)).set i u = partW bs n (4 * i + j + 1) := by
  apply List.ext_getElem
  · simp [partW]
  · intro a h1 h2
    rw [List.getElem_set]
    simp only [partW, List.getElem_map, List.getElem_range]
    split
    · subst_vars
      rw [wordAt_step bs _ j hj]
    · rw [wordAt_other bs _ a (by omega)]
theorem or_byte (x b : Int) (x0 : 0 ≤ x) (x1 : x < 16777216) (b0 : 0 ≤ b) (b1 : b < 256) : bits .or .u32 (x * 256) b = x * 256 + b := by
  obtain ⟨x, rfl⟩ := Int.eq_ofNat_of_zero_le x0
  obtain ⟨b, rfl⟩ := Int.eq_ofNat_of_zero_le b0
  have e : ((x : Int) * 256) = ((x * 2 ^ 8 : Nat) : Int) := by omega
  rw [e, u32_or_nat _ _ (by omega) (by omega), nat_join 8 x b (by omega)]
  omega


set_option maxRecDepth 20000 in
set_option maxHeartbeats 1000000 in
theorem pack_any (W : World) (ao : Option Addr) (n cap : Nat) (bs : List Int) (hl : bs.length = 4 * n) (hbs : Bts bs) (h1 : At W .u8 ao bs) (hc : 4 * n ≤ cap) (hn : 4 * n ≤ 140737488355200) :
    Calls Tryz.prog 150 #[.slice ao (4 * n) cap] W fun e W' => e = .returned (.slice (some ⟨W.heap.size, 0, none⟩) n n) ∧ Owned W W' .u32 25 n (wordsD bs n) := by
  obtain ⟨i0, hi, hz0, hz1, hz2⟩ := info_parts Tryz.info25
  have h5 : ((4 * n : Nat) : Int) / 4 = (n : Int) := by omega
  go_enter Tryz.func150, Tryz.ntmps150
  go_wp2_with (first | (at_make; refine wpList_make_full _ rfl _ _ 127 rfl W.heap.size 25 i0 (.int .u32 0) 1 Tryz.underlying127 hi hz0 hz1 .i64 .i64 _ _ n rfl rfl (by omega) (by omega) ?c1 ?c2 (Nat.le_refl _) ?_))
  case c1 => rw [hz2]; omega
  case c2 => unfold maxLen; omega
  intro w' hown hg
  have F0 := Owned.start hown hg
  rw [← partW_zero bs n] at F0
  clear hown hg hi hz0 hz1 hz2
  go_wp2
  go_loopw [4, 6, 13] (fun _ _ i wr => ∃ k : Nat, k ≤ n ∧ i = .int .i64 k ∧ Owned W wr .u32 25 n (partW bs n (4 * k))) (fun _ _ i _ => n - (intOf i).toNat)
  case atStart => exact ⟨0, Nat.zero_le _, rfl, F0⟩
  case round =>
    clear F0
    obtain ⟨i, hin, rfl, F⟩ := hrel
    by_cases hlt : i < n
    · rcases h1 with h1 | ⟨b, off, rfl, hb, h1⟩
      · rw [h1] at hl; simp at hl; omega
      · have i1 : (i : Int) ≤ 35184372088800 := by omega
        have i2 : (i : Int) * 4 ≤ ((i : Int) + 1) * 4 := by omega
        have i3 : ((i : Int) + 1) * 4 ≤ (cap : Int) := by omega
        have i4 : ((i : Int) * 4).toNat = 4 * i := by omega
        have i5 : (((i : Int) + 1) * 4).toNat = 4 * i + 4 := by omega
        have i6 : ¬ cap = 4 * i := by omega
        have i7 : 4 * i + 4 - 4 * i = 4 := by omega
        have i8 : (i : Int) < (n : Int) := by omega
        have FF : Hid (Owned W wr .u32 25 n (partW bs n (4 * i))) := F
        clear F
        go_wp2
        go_loopw [6, 24] (fun _ j wr => ∃ k : Nat, k ≤ 4 ∧ j = .int .i64 k ∧ Owned W wr .u32 25 n (partW bs n (4 * i + k))) (fun _ j _ => 4 - (intOf j).toNat)
        case atStart => exact ⟨0, Nat.zero_le _, rfl, FF.out⟩
        case round =>
          clear FF
          obtain ⟨j, hj4, rfl, F⟩ := hrel
          by_cases hjlt : j < 4
          · have hcb := h1.below F.below hb (4 * i + j) (by omega)
            rw [show off + (4 * i + j) = off + 4 * i + j by omega] at hcb
            obtain ⟨q0, q1⟩ := hbs (4 * i + j)
            obtain ⟨x0, x1⟩ := wordAt_bound bs hbs i j hjlt
            have hps := partW_step bs n i j hlt hjlt
            have hcell := F.cell i hlt
            rw [partW_getD bs n _ i hlt] at hcell
            have hfree := F.free i
            have hor : Hid _ := or_byte _ _ x0 x1 q0 q1
            have HS : Hid (∀ u, u = wordAt bs (4 * i + j) i * 256 + bs.getD (4 * i + j) 0 → Owned W (wr.setCell ⟨W.heap.size, i, none⟩ (.int .u32 u)) .u32 25 n (partW bs n (4 * i + j + 1))) :=
              fun u hu => F.step i u (hps u hu)
            clear F hps i2 i3 i4 i5 i6 i7
            generalize wordAt bs (4 * i + j) i = x at *
            generalize bs.getD (4 * i + j) 0 = y at *
            go_wp2
            go_roundw
            case rel => exact ⟨j + 1, by omega, by go_num, HS.out _ hor.out⟩
            case measure => simp [intOf]; omega
          · obtain rfl : j = 4 := by omega
            have HB : Hid (Owned W wr .u32 25 n (partW bs n (4 * i + 4))) := F
            clear F
            go_wp2
            go_roundw
            case rel => exact ⟨i + 1, by omega, by go_num, HB.out⟩
            case measure => simp [intOf]; omega
    · obtain rfl : i = n := by omega
      have HB : Hid (Owned W wr .u32 25 i (wordsD bs i)) := F
      clear F
      go_wp2
      go_ret
      exact ⟨rfl, HB⟩
end Go.Proofs.YtbpdmkohihgnjaaGreatDoor
namespace Go.Proofs.YtbpdmkohihgnjaaGreatDoor
open Go.RowKit

def endB (bs : List Int) (n : Nat) : List Int := (bs.drop (4 * n) ++ 128 :: List.replicate 3 0).take 4
def endW (bs : List Int) (n : Nat) : List Int := wordsD (endB bs n) 1
theorem bts_take {xs : List Int} (h : Bts xs) (n : Nat) : Bts (xs.take n) := fun i => by
  have := h i
  simp only [List.getD_eq_getElem?_getD, List.getElem?_take] at this ⊢
  split <;> simp_all
theorem bts_drop {xs : List Int} (h : Bts xs) (n : Nat) : Bts (xs.drop n) := fun i => by
  have := h (n + i)
  simp only [List.getD_eq_getElem?_getD, List.getElem?_drop] at this ⊢
  exact this
theorem bts_append {xs ys : List Int} (h : Bts xs) (h' : Bts ys) : Bts (xs ++ ys) := fun i => by
  rcases Nat.lt_or_ge i xs.length with hi | hi
  · have := h i
    simpa [List.getD_eq_getElem?_getD, List.getElem?_append_left hi] using this
  · have := h' (i - xs.length)
    simpa [List.getD_eq_getElem?_getD, List.getElem?_append_right hi] using this
theorem bts_end : Bts (128 :: List.replicate 3 0) := fun i => by
  match i with
  | 0 => decide
  | 1 => decide
  | 2 => decide
  | 3 => decide
  | i + 4 => simp
theorem endB_length (bs : List Int) (n : Nat) : (endB bs n).length = 4 := by simp [endB]
theorem endB_bts {bs : List Int} (h : Bts bs) (n : Nat) : Bts (endB bs n) := bts_take (bts_append (bts_drop h _) bts_end) 4

attribute [-simp] Tryz.isAgg26 Tryz.sizeOf26 Tryz.zeroValue26
set_option maxRecDepth 20000 in
set_option maxHeartbeats 1000000 in
theorem sumBytes_any (W : World) (hT : Tab W) (h2 : 12 < W.heap.size) (ao : Option Addr) (m c : Nat) (bs : List Int) (hx : bs.length = m) (hbs : Bts bs) (hat : At W .u8 ao bs) (hc : m ≤ c) (hm : m ≤ 140737488355200) :
    Calls Tryz.prog 144 #[.slice ao m c] W fun e W' => e = .returned (Ag (S.fin (S.run S.First (wordsD (bs.take (4 * (m / 4))) (m / 4)) (m / 4 / 16)) ((wordsD (bs.take (4 * (m / 4))) (m / 4)).drop (16 * (m / 4 / 16)) ++ endW bs (m / 4)) (8 * (m : Int)))) ∧ Below W.heap.size W W' := by
  obtain ⟨Z, hZ⟩ : ∃ Z : List Int, Z = List.replicate 8 0 := ⟨_, rfl⟩
  have hZl : Z.length = 8 := by rw [hZ]; simp
  have hz : ∀ w, (zeroValue 26).run Tryz.prog w = .ok (.agg (Z.map (Value.int .u32)).toArray) w := fun w => by rw [Tryz.zeroValue26, hZ]; rfl
  clear hZ
  obtain ⟨n, hn⟩ : ∃ n, n = m / 4 := ⟨_, rfl⟩
  obtain ⟨r, hr⟩ : ∃ r, r = m % 4 := ⟨_, rfl⟩
  rw [← hn]
  have hmr : m = 4 * n + r := by omega
  have hr4 : r < 4 := by omega
  have i1 : (m : Int) % 4 = (r : Int) := by omega
  have i2 : (m : Int) - (r : Int) = 4 * (n : Int) := by omega
  have i3 : (m : Int) ≤ 140737488355200 := by omega
  have B1 : Hid (Below W.heap.size W (W.alloc (Obj.cells (List.map (Value.int IntKind.u32) Z).toArray 26))) := below_one _ _
  have Z1 : Hid (Blk (W.alloc (Obj.cells (List.map (Value.int IntKind.u32) Z).toArray 26)) W.heap.size .u32 26 Z) := Blk.new W .u32 26 Z
  have NW : Hid (Calls Tryz.prog 147 #[] (W.alloc (Obj.cells (List.map (Value.int IntKind.u32) Z).toArray 26)) fun e W' => ∃ g, W.heap.size + 1 ≤ g ∧ e = .returned (.pointer (some ⟨g, 0, none⟩)) ∧ Dig W' g S.First 0 [] ∧ Below W.heap.size W W' ∧ Blk W' W.heap.size .u32 26 Z) := by
    refine (new_any _).mono ?_
    rintro e w ⟨g, hg, rfl, D, hb⟩
    exact ⟨g, by simpa using hg, rfl, D, B1.out.trans (hb.mono (by simp)), Z1.out.on hb⟩
  have i4 : (4 * (n : Int)) ≤ (c : Int) := by omega
  have i5 : (4 * (n : Int)).toNat = 4 * n := by omega
  have i6 : (4 * (n : Int)) ≤ (m : Int) := by omega
  have i7 : m - 4 * n = r := by omega
  have i8 : (r : Int) < 4 := by omega
  have i10 : (0 : Int) ≤ 4 * (n : Int) := by omega
  have i9 : (m : Int) * 8 = 8 * (m : Int) := by omega
  have hwl : (wordsD (bs.take (4 * n)) n).length = n := partW_length _ _ _
  have ha0 := hat
  have PK : Hid (∀ w g, W.heap.size + 1 ≤ g → Below W.heap.size W w → Dig w g S.First 0 [] → Blk w W.heap.size .u32 26 Z → Calls Tryz.prog 150 #[.slice ao (4 * n) c] w fun e w' => ∃ gw, e = .returned (.slice (some ⟨gw, 0, none⟩) n n) ∧ Below W.heap.size W w' ∧ Dig w' g S.First 0 [] ∧ Blk w' W.heap.size .u32 26 Z ∧ At w' .u32 (some ⟨gw, 0, none⟩) (wordsD (bs.take (4 * n)) n)) := fun w g hg hw D hbz => by
    have hl : (bs.take (4 * n)).length = 4 * n := by rw [List.length_take]; omega
    have hat' : At w .u8 ao (bs.take (4 * n)) := by
      rcases hat.below hw with h0 | ⟨b, off, h1, h2', h3⟩
      · left; rw [h0]; simp
      · exact .inr ⟨b, off, h1, h2', h3.take _⟩
    refine (pack_any w ao n c (bs.take (4 * n)) hl (bts_take hbs _) hat' (by omega) (by omega)).mono ?_
    rintro e w' ⟨rfl, ow⟩
    exact ⟨_, rfl, hw.trans (ow.below.mono hw.size), D.below ow.below D.lt, hbz.on ow.below, ow.at⟩
  have AD : Hid (∀ w g gw, W.heap.size + 1 ≤ g → Below W.heap.size W w → Dig w g S.First 0 [] → Blk w W.heap.size .u32 26 Z → At w .u32 (some ⟨gw, 0, none⟩) (wordsD (bs.take (4 * n)) n) → Calls Tryz.prog 130 #[.pointer (some ⟨g, 0, none⟩), .slice (some ⟨gw, 0, none⟩) n n] w fun e W' => e = .returned (.tuple #[]) ∧ Dig W' g (S.run S.First (wordsD (bs.take (4 * n)) n) (n / 16)) n ((wordsD (bs.take (4 * n)) n).drop (16 * (n / 16))) ∧ Below W.heap.size W W' ∧ Blk W' W.heap.size .u32 26 Z) := fun w g gw hg hw D hbz ha => by
    have := hw.size
    refine (add_fits w (hT.below hw h2) (by omega) g S.First 0 [] D (some ⟨gw, 0, none⟩) n n _ hwl ha (by omega) (by omega)).mono ?_
    rintro e w' ⟨rfl, D', hb⟩
    rw [Nat.zero_mod, Nat.zero_add, List.nil_append] at D'
    exact ⟨rfl, D', hw.trans (hb.below (by omega) (by omega)), hb.blk hbz (by omega)⟩
  generalize S.run S.First (wordsD (bs.take (4 * n)) n) (n / 16) = A at *
  generalize (wordsD (bs.take (4 * n)) n).drop (16 * (n / 16)) = p at *
  clear hm hn hr hmr
  go_enter Tryz.func144, Tryz.ntmps144
  go_wp2_with (first | (go_at_call 147; refine NW.out.mono ?_; rintro en w1 ⟨g, hg, rfl, d1, hb1, bz1⟩) | (go_at_call 150; refine (PK.out _ _ hg hb1 d1 bz1).mono ?_; rintro en w2 ⟨gw, rfl, hb2, d2, bz2, at2⟩) | (go_at_call 130; refine (AD.out _ _ _ hg hb2 d2 bz2 at2).mono ?_; rintro en w3 ⟨rfl, d3, hb3, bz3⟩))
  have hal : Below w3.heap.size w3 (w3.alloc (Obj.cells #[.int .u8 0, .int .u8 0, .int .u8 0, .int .u8 0] 240)) := below_one _ _
  have hb4 := hb3.trans (hal.mono hb3.size)
  have d4 := d3.below hal d3.lt
  have bz4 := bz3.on hal
  have be : Blk (w3.alloc (Obj.cells #[.int .u8 0, .int .u8 0, .int .u8 0, .int .u8 0] 240)) w3.heap.size .u8 240 [0, 0, 0, 0] := Blk.new w3 .u8 240 [0, 0, 0, 0]
  have hg3 : g < w3.heap.size := d3.lt
  have hW3 : W.heap.size < w3.heap.size := bz3.lt
  clear hal hb3 d3 bz3 d2 bz2 at2 hb2 d1 hb1 bz1 PK AD NW B1 Z1
  generalize hw4 : w3.alloc _ = w4 at *
  have hs4 : w4.heap.size = w3.heap.size + 1 := by rw [← hw4]; simp
  clear hw4
  generalize w3.heap.size = ge at *
  obtain ⟨cs, hcs⟩ : ∃ cs, cs = (bs.drop (4 * n)).map (Value.int .u8) := ⟨_, rfl⟩
  have hcl : cs.length = r := by rw [hcs, List.length_map, List.length_drop, hx]; exact i7
  have POS : Hid (∀ dp : Option Addr, dp = some ⟨ge, 0, none⟩ → 0 < cs.length → dp = some ⟨ge, 0, none⟩ ∧ ∃ ad, (if c = 4 * n then ao else Option.map (fun x => x.add (4 * n)) ao) = some ad ∧ ∀ j v, cs[j]? = some v → w4.drew.cell? (ad.add j) = some v) := fun dp hdp h0 => by
    refine ⟨hdp, ?_⟩
    rcases ha0 with hh | ⟨b, off, rfl, hbl, hrow⟩
    · rw [hh] at hx; simp at hx; omega
    · rw [if_neg (by omega)]
      refine ⟨⟨b, off + 4 * n, none⟩, by simp [Addr.add_mid], fun j v hv => ?_⟩
      rw [Addr.add_mid, hcs] at *
      exact ((hrow.drop (4 * n)).below hb4 hbl).range j v hv
  have H1 : Hid (w4.drew.heap[ge]? = some (.cells [Value.int .u8 0, .int .u8 0, .int .u8 0, .int .u8 0].toArray 240 (0, 0))) := be
  have H3 : Hid (∀ v ∈ cs, v.oneCell' = true) := by rw [hcs]; exact ints_oneCell _ _
  have H5 : Hid (Below ge w4 w4.drew) := (Below.refl _ _).drew
  have H6 : Hid (cs.length = Nat.min r 4) := by rw [hcl]; show r = min r 4; omega
  have H7 : Hid (0 + cs.length ≤ [Value.int .u8 0, .int .u8 0, .int .u8 0, .int .u8 0].length) := by rw [hcl]; show 0 + r ≤ 4; omega
  have HCS : Hid (cs = (bs.drop (4 * n)).map (Value.int .u8)) := hcs
  have HB4 : Hid (Below W.heap.size W w4) := hb4
  have D4 : Hid (Dig w4 g A n p) := d4
  have BZ4 : Hid (Blk w4 W.heap.size .u32 26 Z) := bz4
  clear hcs hb4 d4 bz4 be
  go_region_law (refine step_copy_splice rfl (.tmp 20) (.tmp 23) 124 124 rfl 5 Tryz.underlying124 size5 _ _ _ _ _ _ rfl rfl ge 0 [Value.int .u8 0, .int .u8 0, .int .u8 0, .int .u8 0] 240 H1.out cs H6.out (POS.out _ rfl) H7.out H3.out ge w4 H5.out (Nat.le_refl _) ?_; intro w5 hg5 hb5)
  have hE5 : Blk w5 ge .u8 240 (bs.drop (4 * n) ++ List.replicate (4 - r) 0) := by
    have h0 : splice [Value.int .u8 0, .int .u8 0, .int .u8 0, .int .u8 0] 0 cs = (bs.drop (4 * n) ++ List.replicate (4 - r) 0).map (Value.int .u8) := by
      rw [List.map_append, ← HCS.out, List.map_replicate]
      unfold splice
      rw [List.take_zero, List.nil_append, Nat.zero_add, hcl]
      congr 1
      match r, hr4 with
      | 0, _ => rfl
      | 1, _ => rfl
      | 2, _ => rfl
      | 3, _ => rfl
    have := hg5.out
    rw [h0] at this
    exact this
  have hdl : (bs.drop (4 * n)).length = r := by rw [List.length_drop, hx]; exact i7
  have hE6 : (bs.drop (4 * n) ++ List.replicate (4 - r) 0).set r 128 = endB bs n := by
    unfold endB
    rw [List.set_append_right _ _ (by omega), hdl, Nat.sub_self, List.take_append, hdl, List.take_of_length_le (by omega)]
    congr 1
    match r, hr4 with
    | 0, _ => rfl
    | 1, _ => rfl
    | 2, _ => rfl
    | 3, _ => rfl
  have e5l : (bs.drop (4 * n) ++ List.replicate (4 - r) 0).length = 4 := by simp only [List.length_append, hdl, List.length_replicate]; omega
  have c5 := hE5.cell r (by omega)
  have f5 := hE5.free r
  have E6 : Hid (Blk (w5.setCell ⟨ge, r, none⟩ (.int .u8 128)) ge .u8 240 (endB bs n)) := by
    have := hE5.set r 128
    rw [hE6] at this
    exact this
  have hb6 : Below ge w4 (w5.setCell ⟨ge, r, none⟩ (.int .u8 128)) := hb5.setCell (Nat.le_refl _) _
  have HB6 : Hid (Below W.heap.size W (w5.setCell ⟨ge, r, none⟩ (.int .u8 128))) := HB4.out.trans (hb6.mono (by omega))
  have D6 : Hid (Dig (w5.setCell ⟨ge, r, none⟩ (.int .u8 128)) g A n p) := D4.out.below hb6 hg3
  have BZ6 : Hid (Blk (w5.setCell ⟨ge, r, none⟩ (.int .u8 128)) W.heap.size .u32 26 Z) := BZ4.out.below hb6 hW3
  generalize (bs.drop (4 * n) ++ List.replicate (4 - r) 0).getD r 0 = x5 at *
  clear hE5 hE6 e5l hdl hg5 hb5 hb6 HB4 D4 BZ4 HCS H1 H3 H5 H6 H7 POS
  have hsz6 : W.heap.size < (w5.setCell ⟨ge, r, none⟩ (.int .u8 128)).heap.size := BZ6.out.lt
  have PK2 : Hid (Calls Tryz.prog 150 #[.slice (some ⟨ge, 0, none⟩) 4 4] (w5.setCell ⟨ge, r, none⟩ (.int .u8 128)) fun e w' => ∃ gw, e = .returned (.slice (some ⟨gw, 0, none⟩) 1 1) ∧ Below W.heap.size W w' ∧ Dig w' g A n p ∧ Blk w' W.heap.size .u32 26 Z ∧ At w' .u32 (some ⟨gw, 0, none⟩) (endW bs n)) := by
    refine (pack_any _ (some ⟨ge, 0, none⟩) 1 4 (endB bs n) (endB_length _ _) (endB_bts hbs _) E6.out.at (by decide) (by decide)).mono ?_
    rintro e w' ⟨rfl, ow⟩
    exact ⟨_, rfl, HB6.out.trans (ow.below.mono (by omega)), D6.out.below ow.below D6.out.lt, BZ6.out.on ow.below, ow.at⟩
  have hMl : (S.fin A (p ++ endW bs n) (8 * (m : Int))).length = 8 := run_length _ _ D6.out.al _
  have FI : Hid (∀ w gw, Below W.heap.size W w → Dig w g A n p → Blk w W.heap.size .u32 26 Z → At w .u32 (some ⟨gw, 0, none⟩) (endW bs n) → Calls Tryz.prog 149 #[.pointer (some ⟨g, 0, none⟩), .slice (some ⟨gw, 0, none⟩) 1 1, .int .u64 (8 * (m : Int))] w fun e W' => e = .returned (Ag (S.fin A (p ++ endW bs n) (8 * (m : Int)))) ∧ Below W.heap.size W W' ∧ Blk W' W.heap.size .u32 26 Z) := fun w gw hw D hbz ha => by
    have := hw.size
    refine (finish_any w (hT.below hw h2) (by omega) g A n p D _ 1 1 (endW bs n) (partW_length _ _ _) ha (by decide) (by decide) _ (by omega) (by omega)).mono ?_
    rintro e w' ⟨rfl, hb⟩
    exact ⟨rfl, hw.trans (hb.mono hw.size), hbz.on hb⟩
  generalize hM : S.fin A (p ++ endW bs n) (8 * (m : Int)) = M at *
  have HM : Hid (S.fin A (p ++ endW bs n) (8 * (m : Int)) = M) := hM
  clear hM
  clear hbs hat ha0 hx hwl hT
  go_wp2_with (first | (go_at_call 150; refine PK2.out.mono ?_; rintro en w7 ⟨gw7, rfl, hb7, d7, bz7, at7⟩) | (go_at_call 149; refine (FI.out _ _ hb7 d7 bz7 at7).mono ?_; rintro en w8 ⟨rfl, hb8, bz8⟩) | (refine wpList_store_blk rfl 26 _ _ rfl W.heap.size M rfl rfl bz8 (by rw [hMl]; exact size26) (by rw [hZl, hMl]) ?_))
  all_goals
    refine ret_cell rfl rfl W.heap.size M rfl (bz8.setRow _) Tryz.underlying26 (by rw [hMl]; exact size26) ?_
    rw [HM.out]
    exact ⟨rfl, below_setRow hb8 (Nat.le_refl _) _⟩
end Go.Proofs.YtbpdmkohihgnjaaGreatDoor
