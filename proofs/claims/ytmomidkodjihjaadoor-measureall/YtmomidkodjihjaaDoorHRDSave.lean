import Derived.Test.YtmomidkodjihjaaDoorHRDSum
namespace Go.Proofs.YtmomidkodjihjaaDoor.H
open Go.RowKit
set_option maxRecDepth 100000

/-- A list that is another one up to t, and zero from there on. -/
structure Upto (L T : List Int) (t : Nat) : Prop where
  len : L.length = T.length
  lo : ∀ j, j < t → L.getD j 0 = T.getD j 0
  hi : ∀ j, t ≤ j → L.getD j 0 = 0
theorem Upto.start (T : List Int) (n : Nat) (h : T.length = n) : Upto (List.replicate n 0) T 0 :=
  ⟨by simp [h], fun j hj => by omega, fun j _ => by simp only [List.getD_eq_getElem?_getD, List.getElem?_replicate]; split <;> rfl⟩
theorem Upto.step {L T : List Int} {t : Nat} (h : Upto L T t) (ht : t < T.length) (u : Int) (hu : u = T.getD t 0) : Upto (L.set t u) T (t + 1) := by
  refine ⟨by rw [List.length_set, h.len], fun j hj => ?_, fun j hj => ?_⟩
  · by_cases hjt : j = t
    · subst hjt; simp [List.getD_eq_getElem?_getD, h.len, ht, hu]
    · rw [← h.lo j (by omega)]
      simp [List.getD_eq_getElem?_getD, Ne.symm hjt]
  · have := h.hi j (by omega)
    simpa [List.getD_eq_getElem?_getD, show t ≠ j by omega] using this
theorem Upto.full {L T : List Int} {t : Nat} (h : Upto L T t) (hz : ∀ j, t ≤ j → T.getD j 0 = 0) : L = T := by
  apply list_ext_getD h.len
  intro i _
  by_cases hi : i < t
  · exact h.lo i hi
  · rw [h.hi i (by omega), hz i (by omega)]
theorem saveL_A (A : List Int) (n : Nat) (p : List Int) (hA : A.length = 8) (j : Nat) (hj : j < 8) : (saveL A n p).getD j 0 = A.getD j 0 := by
  unfold saveL
  simp only [List.getD_eq_getElem?_getD]
  rw [List.getElem?_append_left (by simp [hA]; omega), List.getElem?_append_left (by omega)]
theorem saveL_n8 (A : List Int) (n : Nat) (p : List Int) (hA : A.length = 8) : (saveL A n p).getD 8 0 = (n : Int) / 4294967296 := by
  unfold saveL
  simp only [List.getD_eq_getElem?_getD]
  rw [List.getElem?_append_left (by simp [hA]), List.getElem?_append_right (by omega)]
  simp [hA]
theorem saveL_n9 (A : List Int) (n : Nat) (p : List Int) (hA : A.length = 8) : (saveL A n p).getD 9 0 = (n : Int) % 4294967296 := by
  unfold saveL
  simp only [List.getD_eq_getElem?_getD]
  rw [List.getElem?_append_left (by simp [hA]), List.getElem?_append_right (by omega)]
  simp [hA]
theorem saveL_p (A : List Int) (n : Nat) (p : List Int) (hA : A.length = 8) (j : Nat) (hj : j < p.length) : (saveL A n p).getD (10 + j) 0 = p.getD j 0 := by
  unfold saveL
  simp only [List.getD_eq_getElem?_getD]
  rw [List.getElem?_append_right (by simp [hA]), List.getElem?_append_left (by simp [hA]; omega)]
  simp [hA]
theorem saveL_z (A : List Int) (n : Nat) (p : List Int) (hA : A.length = 8) (j : Nat) (hj : 10 + p.length ≤ j) : (saveL A n p).getD j 0 = 0 := by
  unfold saveL
  simp only [List.getD_eq_getElem?_getD]
  rw [List.getElem?_append_right (by simp [hA]; omega), List.getElem?_append_right (by simp [hA]; omega), List.getElem?_replicate]
  split <;> rfl
/-- What lies there while the reference saves. -/
structure SvI (W w : World) (cs : List Value) (Z L : List Int) : Prop where
  r : Cel w W.heap.size 105 cs
  z : Blk w (W.heap.size + 1) .u32 37 Z
  s : Blk w (W.heap.size + 1 + 1) .u32 37 L
  b : Below W.heap.size W w
theorem SvI.set {W w : World} {cs : List Value} {Z L : List Int} (h : SvI W w cs Z L) (j : Nat) (u : Int) : SvI W (w.setCell ⟨W.heap.size + 1 + 1, j, none⟩ (.int .u32 u)) cs Z (L.set j u) :=
  ⟨h.r.but (but_setCell _ _ _ _) (by omega), h.z.other _ (by omega), h.s.set j u, h.b.setCell (show W.heap.size ≤ W.heap.size + 1 + 1 by omega) _⟩
attribute [-simp] Tryd.isAgg105 Tryd.sizeOf105 Tryd.zeroValue105 Tryd.isAgg37 Tryd.sizeOf37 Tryd.zeroValue37
set_option maxRecDepth 20000 in
set_option maxHeartbeats 2000000 in
theorem rdsave_any (W : World) (A : List Int) (hA : A.length = 8) (ao : Option Addr) (k c : Nat) (n : Nat) (hn : n ≤ 36028797018963968) (p : List Int) (hp : p.length = k) (hk : k < 16) (hat : At W .u32 ao p) :
    Calls Tryd.prog 51 #[.agg (rdC A (.slice ao k c) (n : Int)).toArray] W fun e w => e = .returned (Ag (saveL A n p)) ∧ Below W.heap.size W w := by
  obtain ⟨Z, hZ⟩ : ∃ Z : List Int, Z = List.replicate 26 0 := ⟨_, rfl⟩
  have hZl : Z.length = 26 := by rw [hZ]; simp
  have hz : ∀ w, (zeroValue 37).run Tryd.prog w = .ok (.agg (Z.map (Value.int .u32)).toArray) w := fun w => by rw [Tryd.zeroValue37, hZ]; rfl
  obtain ⟨T, hT⟩ : ∃ T, T = saveL A n p := ⟨_, rfl⟩
  have hTl : T.length = 26 := by rw [hT]; exact saveL_length A n p hA (by omega)
  have U0 : Upto Z T 0 := by rw [hZ]; exact Upto.start T 26 hTl
  have tA : ∀ j, j < 8 → T.getD j 0 = A.getD j 0 := fun j hj => by rw [hT]; exact saveL_A A n p hA j hj
  have t8 : T.getD 8 0 = (n : Int) / 4294967296 := by rw [hT]; exact saveL_n8 A n p hA
  have t9 : T.getD 9 0 = (n : Int) % 4294967296 := by rw [hT]; exact saveL_n9 A n p hA
  have tp : ∀ j, j < k → T.getD (10 + j) 0 = p.getD j 0 := fun j hj => by rw [hT]; exact saveL_p A n p hA j (by omega)
  have tz : ∀ j, 10 + k ≤ j → T.getD j 0 = 0 := fun j hj => by rw [hT]; exact saveL_z A n p hA j (by omega)
  rw [← hT]
  clear hZ hT
  have i1 : (n : Int) ≤ 36028797018963968 := by omega
  have i2 : (k : Int) < 16 := by omega
  have z27 := Tryd.sizeOf44
  go_enter Tryd.func51, Tryd.ntmps51
  go_wp2
  have I0 : SvI W (((W.alloc (Obj.cells (rdC A (Value.slice ao k c) (n : Int)).toArray 105)).alloc (Obj.cells (List.map (Value.int IntKind.u32) Z).toArray 37)).alloc (Obj.cells (List.map (Value.int IntKind.u32) Z).toArray 37)) (rdC A (.slice ao k c) (n : Int)) Z Z :=
    ⟨((show Cel (W.alloc _) W.heap.size 105 _ from heap_alloc_new _ _).below (below_one _ _) (by simp)).below (below_one _ _) (by simp; omega), (Blk.newAt (by simp) .u32 37 Z).alloc _, Blk.newAt (by simp) .u32 37 Z, ((below_one W _).alloc (by simp) _).alloc (by simp; omega) _⟩
  generalize ((W.alloc _).alloc _).alloc _ = w0 at *
  go_loopw [4] (fun i wr => ∃ (t : Nat) (L : List Int), t ≤ 8 ∧ i = .int .i64 (t : Int) ∧ Upto L T t ∧ SvI W wr (rdC A (.slice ao k c) (n : Int)) Z L) (fun i _ => 8 - (intOf i).toNat)
  case atStart => exact ⟨0, Z, by decide, rfl, U0, I0⟩
  case round =>
    clear U0 I0
    obtain ⟨t, L, ht, rfl, U, I⟩ := hrel
    by_cases hlt : t < 8
    · have ca := I.r.rowA t (by omega)
      rw [Nat.zero_add] at ca
      have cs := I.s.cell t (by rw [U.len]; omega)
      have fs := I.s.free t
      have UN : Hid (Upto (L.set t (A.getD t 0)) T (t + 1)) := U.step (by omega) _ (tA t hlt).symm
      have IN : Hid (SvI W (wr.setCell ⟨W.heap.size + 1 + 1, t, none⟩ (.int .u32 (A.getD t 0))) (rdC A (.slice ao k c) (n : Int)) Z (L.set t (A.getD t 0))) := I.set t _
      clear U I tA t8 t9 tp tz
      generalize A.getD t 0 = x at *
      generalize L.getD t 0 = x' at *
      have q0 : (t : Int) < 8 := by omega
      go_wp2
      go_roundw
      case rel => exact ⟨t + 1, _, by omega, by go_num, UN.out, IN.out⟩
      case measure => simp [intOf]; omega
    · obtain rfl : t = 8 := by omega
      rw [show ((8 : Nat) : Int) = 8 from rfl]
      have c9 := I.r.num hA
      have s8 := I.s.cell 8 (by rw [U.len]; omega)
      have f8 := I.s.free 8
      have I1 := I.set 8 ((n : Int) / 4294967296)
      have U1 := U.step (by omega) ((n : Int) / 4294967296) t8.symm
      have c9' := I1.r.num hA
      have s9 := I1.s.cell 9 (by rw [U1.len]; omega)
      have f9 := I1.s.free 9
      have I2 : Hid (SvI W _ (rdC A (.slice ao k c) (n : Int)) Z _) := I1.set 9 ((n : Int) % 4294967296)
      have U2 : Hid (Upto _ T 10) := U1.step (by omega) ((n : Int) % 4294967296) t9.symm
      clear I I1 U U1 t8 t9 tA
      generalize L.getD 8 0 = x8 at *
      generalize (L.set 8 ((n : Int) / 4294967296)).getD 9 0 = x9 at *
      have e1 : IntKind.u64.wrap (n : Int) = (n : Int) := by rw [IntKind.wrap_u64]; omega
      have e2 : IntKind.u32.wrap ((n : Int) / 4294967296) = (n : Int) / 4294967296 := by rw [IntKind.wrap_u32]; omega
      go_wp2
      generalize (wr.setCell _ _).setCell _ _ = w2 at *
      clear c9 s8 f8 c9' s9 f9
      go_loopw [5] (fun i wr => ∃ (t : Nat) (L : List Int), t ≤ k ∧ i = .int .i64 (t : Int) ∧ Upto L T (10 + t) ∧ SvI W wr (rdC A (.slice ao k c) (n : Int)) Z L) (fun i _ => k - (intOf i).toNat)
      case atStart => exact ⟨0, _, Nat.zero_le _, rfl, U2.out, I2.out⟩
      case round =>
        clear U2 I2
        obtain ⟨t, L, ht, rfl, U, I⟩ := hrel
        have c8 := I.r.wait hA
        by_cases hlt : t < k
        · rcases hat with h | ⟨b, off, rfl, hb, hr⟩
          · rw [h] at hp; simp at hp; omega
          · have cp := hr.below I.b hb t (by omega)
            have cs := I.s.cell (10 + t) (by rw [U.len]; omega)
            have fs := I.s.free (10 + t)
            have UN : Hid (Upto (L.set (10 + t) (p.getD t 0)) T (10 + (t + 1))) := U.step (by omega) _ (tp t hlt).symm
            have IN : Hid (SvI W (wr.setCell ⟨W.heap.size + 1 + 1, 10 + t, none⟩ (.int .u32 (p.getD t 0))) (rdC A (.slice (some ⟨b, off, none⟩) k c) (n : Int)) Z (L.set (10 + t) (p.getD t 0))) := I.set _ _
            clear U I tp tz
            generalize p.getD t 0 = x at *
            generalize L.getD (10 + t) 0 = x' at *
            have q0 : (t : Int) < (k : Int) := by omega
            have q1 : (10 : Int) + (t : Int) < 26 := by omega
            have q2 : ((10 : Int) + (t : Int)).toNat = 10 + t := by omega
            go_wp2
            go_roundw
            case rel => exact ⟨t + 1, _, by omega, by go_num, UN.out, IN.out⟩
            case measure => simp [intOf]; omega
        · obtain rfl : t = k := by omega
          obtain rfl := U.full tz
          have IN : Hid (SvI W wr (rdC A (.slice ao t c) (n : Int)) Z L) := I
          clear U I tp tz
          go_wp2_with (first | (refine wpList_load_blk rfl 37 _ rfl (W.heap.size + 1 + 1) L rfl IN.out.s Tryd.underlying37 (by rw [hTl]; exact size40) ?_) | (refine wpList_store_blk rfl 37 _ _ rfl (W.heap.size + 1) L rfl rfl IN.out.z (by rw [hTl]; exact size40) (by rw [hTl, hZl]) ?_))
          refine ret_cell rfl rfl (W.heap.size + 1) L rfl (IN.out.z.setRow _) Tryd.underlying37 (by rw [hTl]; exact size40) ⟨rfl, below_setRow IN.out.b (by omega) _⟩
end Go.Proofs.YtmomidkodjihjaaDoor.H
