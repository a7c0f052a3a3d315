import Derived.Test.YtildhjiddidghaaGreatDoorP10
import Derived.Test.YtildhjiddidghaaGreatDoorP13
import Derived.Deep.DeepCutAuto
import Derived.Laws.BytesArg
namespace Go.Proofs.YtildhjiddidghaaGreatDoor.H
open Go.RowKit

end Go.Proofs.YtildhjiddidghaaGreatDoor.H
namespace Go.Proofs.YtildhjiddidghaaGreatDoor.H
open Go.RowKit

def Mine (w : World) (g : Nat) (k : IntKind) (e : TypeId) (L : List Int) : Prop := ∃ cs : List Value, Cel w g e cs ∧ ∀ i, i < L.length → cs[i]? = some (.int k (L.getD i 0))
theorem Mine.lt {w : World} {g : Nat} {k : IntKind} {e : TypeId} {L : List Int} (h : Mine w g k e L) : g < w.heap.size := by
  obtain ⟨cs, hc, _⟩ := h
  exact hc.lt
theorem Mine.below {w w' : World} {B g : Nat} {k : IntKind} {e : TypeId} {L : List Int} (h : Mine w g k e L) (hb : Below B w w') (hg : g < B) : Mine w' g k e L := by
  obtain ⟨cs, hc, h⟩ := h
  exact ⟨cs, hc.below hb hg, h⟩
theorem Mine.on {w w' : World} {g : Nat} {k : IntKind} {e : TypeId} {L : List Int} (h : Mine w g k e L) (hb : Below w.heap.size w w') : Mine w' g k e L := h.below hb h.lt
theorem Mine.but {w w' : World} {g b : Nat} {k : IntKind} {e : TypeId} {L : List Int} (h : Mine w g k e L) (hb : But b w w') (hg : g ≠ b) : Mine w' g k e L := by
  obtain ⟨cs, hc, h⟩ := h
  exact ⟨cs, hc.but hb hg, h⟩
theorem Mine.row {w : World} {g : Nat} {k : IntKind} {e : TypeId} {L : List Int} (h : Mine w g k e L) : Row w k g 0 L := by
  obtain ⟨cs, hc, h⟩ := h
  intro i hi
  rw [Nat.zero_add, hc.cell i, h i hi]
theorem Mine.at {w : World} {g : Nat} {k : IntKind} {e : TypeId} {L : List Int} (h : Mine w g k e L) : At w k (some ⟨g, 0, none⟩) L := .inr ⟨g, 0, rfl, h.lt, h.row⟩
theorem Mine.head {w : World} {g : Nat} {k : IntKind} {e : TypeId} {L M : List Int} (h : Mine w g k e (L ++ M)) : At w k (some ⟨g, 0, none⟩) L := .inr ⟨g, 0, rfl, h.lt, h.row.head⟩
theorem Mine.cell {w : World} {g : Nat} {k : IntKind} {e : TypeId} {L : List Int} (h : Mine w g k e L) (j : Nat) (hj : j < L.length) : w.cell? ⟨g, j, none⟩ = some (.int k (L.getD j 0)) := by
  have := h.row j hj
  rwa [Nat.zero_add] at this
theorem Mine.free {w : World} {g : Nat} {k : IntKind} {e : TypeId} {L : List Int} (h : Mine w g k e L) (j : Nat) : w.frozen? ⟨g, j, none⟩ = false := by
  obtain ⟨cs, hc, _⟩ := h
  exact hc.free j
theorem Mine.set {w : World} {g : Nat} {k : IntKind} {e : TypeId} {L : List Int} (h : Mine w g k e L) (j : Nat) (u : Int) : Mine (w.setCell ⟨g, j, none⟩ (.int k u)) g k e (L.set j u) := by
  obtain ⟨cs, hc, h⟩ := h
  refine ⟨cs.set j (.int k u), ?_, ?_⟩
  · unfold Cel at hc ⊢
    rw [heap_setCell_same w g j _ e _ hc, List.setIfInBounds_toArray]
  · intro i hi
    rw [List.length_set] at hi
    have := h i hi
    have hl : i < cs.length := by
      rcases Nat.lt_or_ge i cs.length with h | h
      · exact h
      · rw [List.getElem?_eq_none h] at this; cases this
    rw [List.getElem?_set]
    simp only [List.getD_eq_getElem?_getD, List.getElem?_set]
    by_cases hj : j = i
    · subst hj
      simp [hl, hi]
    · simp only [if_neg hj]
      rw [this, List.getD_eq_getElem?_getD]
theorem Holds.mine {W wr : World} {k : IntKind} {e : TypeId} {v : Value} {L : List Int} (h : Holds W wr k e v L) (hn : 0 < L.length) : ∃ g cap, v = .slice (some ⟨g, 0, none⟩) L.length cap ∧ L.length ≤ cap ∧ W.heap.size ≤ g ∧ Mine wr g k e L := by
  rcases h.own.2 with ⟨_, h0⟩ | ⟨g, cap, cur, rfl, hg, hh, hc, hm, hs, ht⟩
  · omega
  · refine ⟨g, cap, rfl, hc, hg, cur.toList, hh, fun i hi => ?_⟩
    have h1 : (cur.toList.take (L.length * 1))[i]? = (L.map (Value.int k))[i]? := by rw [ht]
    rw [List.getElem?_take, if_pos (by omega)] at h1
    rw [h1]
    simp [List.getD_eq_getElem?_getD, hi]
end Go.Proofs.YtildhjiddidghaaGreatDoor.H
namespace Go.Proofs.YtildhjiddidghaaGreatDoor.H
open Go.RowKit
set_option maxRecDepth 100000

def rdC (A : List Int) (v : Value) (n : Int) : List Value := A.map (Value.int .u32) ++ [v, .int .i64 n]
theorem rdC_length (A : List Int) (v : Value) (n : Int) (hA : A.length = 8) : (rdC A v n).length = 10 := by simp [rdC, hA]
theorem rdC_one (A : List Int) (ao : Option Addr) (k c : Nat) (n : Int) : ∀ u ∈ rdC A (.slice ao k c) n, u.oneCell' = true := by
  intro u hu
  simp only [rdC, List.mem_append, List.mem_cons, List.not_mem_nil, or_false] at hu
  rcases hu with hu | rfl | rfl
  · exact ints_oneCell .u32 A u hu
  · rfl
  · rfl
def zero59 : List Value := rdC [0, 0, 0, 0, 0, 0, 0, 0] (.slice none 0 0) 0
theorem fold59e (a0 a1 a2 a3 a4 a5 a6 a7 : Int) : List.foldl (fun (cs : Array Value) (x : Value × Nat) => cs.setIfInBounds x.snd x.fst) zero59.toArray (List.map (Value.int IntKind.u32) [a0, a1, a2, a3, a4, a5, a6, a7]).zipIdx = (rdC [a0, a1, a2, a3, a4, a5, a6, a7] (.slice none 0 0) 0).toArray := by kernel_rfl
theorem fold59 (A : List Int) (hA : A.length = 8) : List.foldl (fun (cs : Array Value) (x : Value × Nat) => cs.setIfInBounds x.snd x.fst) zero59.toArray (List.map (Value.int IntKind.u32) A).zipIdx = (rdC A (.slice none 0 0) 0).toArray := by
  match A, hA with
  | [a0, a1, a2, a3, a4, a5, a6, a7], _ => exact fold59e _ _ _ _ _ _ _ _
theorem size59 : (Tryz.prog.info? 132).map (·.size) = some 10 := by kernel_rfl
theorem ret_cel {P : Program} {fn : Func} {p : Tmp} {ty e : TypeId} {d : TypeDesc} {a : Act} {w : World} {post : Ending → World → Prop} (hr : fn.results = #[.cell p ty]) (hd : a.defers = []) (g : Nat) (cs : List Value)
    (hp : a.tmps.getD p undef = .pointer (some ⟨g, 0, none⟩)) (hb : Cel w g e cs) (hu : P.underlying ty = some d) (hdd : (match d with | .struct _ | .array _ _ => true | _ => false) = true) (hi : (P.info? ty).map (·.size) = some cs.length) (h : post (.returned (.agg cs.toArray)) w) :
    bodyPost P fn post .ret a w :=
  bodyPost_ret (results_cell_row hr _ _ g e _ (0, 0) _ hp hb hu hdd (by rw [hi]; simp)) hd h

def sl (d : Int) : Nat := (d % 6).toNat
attribute [-simp] Tryz.isAgg132 Tryz.sizeOf132 Tryz.zeroValue132
theorem rnew_any (W : World) : Calls Tryz.prog 77 #[] W fun e w => e = .returned (.agg (rdC S.First (.slice none 0 0) 0).toArray) ∧ Below W.heap.size W w := by
  obtain ⟨Z, hZ⟩ : ∃ Z : List Value, Z = zero59 := ⟨_, rfl⟩
  have hz : ∀ w, (zeroValue 132).run Tryz.prog w = .ok (.agg Z.toArray) w := fun w => by rw [Tryz.zeroValue132, hZ]; rfl
  have hZl : Z.length = 10 := by rw [hZ]; rfl
  have HZ : Hid (Cel (W.alloc (.cells Z.toArray 132)) W.heap.size 132 Z) := heap_alloc_new _ _
  obtain ⟨FI, hFI⟩ : ∃ FI, FI = S.First := ⟨_, rfl⟩
  have hFl : FI.length = 8 := by rw [hFI]; rfl
  have bt := fold59 FI hFl
  rw [← hZ] at bt
  have H1 : Hid (∀ u ∈ rdC FI (.slice none 0 0) 0, u.oneCell' = true) := rdC_one FI none 0 0 0
  have hl := rdC_length FI (.slice none 0 0) 0 hFl
  have C27 : Hid (Calls Tryz.prog 115 #[] (W.alloc (.cells Z.toArray 132)) fun e w => e = .returned (.agg (FI.map (Value.int .u32)).toArray) ∧ Below W.heap.size W w ∧ Cel w W.heap.size 132 Z) := by
    refine (rfirst_any _).mono ?_
    rintro e w ⟨rfl, hb⟩
    rw [hFI]
    exact ⟨rfl, (below_one W _).trans (hb.mono (by simp)), HZ.out.below hb HZ.out.lt⟩
  rw [← hFI]
  clear hZ hFI
  go_enter Tryz.func77, Tryz.ntmps77
  go_wp2_with fail
  refine C27.out.mono ?_
  rintro en w1 ⟨rfl, hb1, bz1⟩
  go_wp2_with (first | (refine wpList_store_cel rfl 132 _ _ rfl W.heap.size (rdC FI (.slice none 0 0) 0) rfl rfl bz1 (by rw [hl]; exact size59) (by rw [hl, hZl]) H1.out ?_; intro w2 hc2 hb2 hs2))
  refine ret_cel rfl rfl W.heap.size _ rfl hc2 Tryz.underlying132 rfl (by rw [hl]; exact size59) ⟨rfl, hb1.trans (hb2.below (Nat.le_refl _) hb1.size)⟩
end Go.Proofs.YtildhjiddidghaaGreatDoor.H
namespace Go.Proofs.YtildhjiddidghaaGreatDoor.H
open Go.RowKit
set_option maxRecDepth 100000

theorem Cel.rowA {w : World} {g : Nat} {e : TypeId} {A : List Int} {v : Value} {n : Int} (h : Cel w g e (rdC A v n)) : Row w .u32 g 0 A := by
  intro i hi
  rw [Nat.zero_add, h.cell i, rdC, List.getElem?_append_left (by simpa using hi)]
  simp [List.getD_eq_getElem?_getD, hi]
theorem Cel.wait {w : World} {g : Nat} {e : TypeId} {A : List Int} {v : Value} {n : Int} (h : Cel w g e (rdC A v n)) (hA : A.length = 8) : w.cell? ⟨g, 8, none⟩ = some v := by
  rw [h.cell 8, rdC, List.getElem?_append_right (by simp [hA])]
  simp [hA]
theorem Cel.num {w : World} {g : Nat} {e : TypeId} {A : List Int} {v : Value} {n : Int} (h : Cel w g e (rdC A v n)) (hA : A.length = 8) : w.cell? ⟨g, 9, none⟩ = some (.int .i64 n) := by
  rw [h.cell 9, rdC, List.getElem?_append_right (by simp [hA])]
  simp [hA]
theorem At.but {w w' : World} {g : Nat} {k : IntKind} {b off : Nat} {L : List Int} (hr : Row w k b off L) (hb : But g w w') (h1 : b < w.heap.size) (h2 : b ≠ g) : Row w' k b off L := hb.row hr h1 h2
attribute [-simp] Tryz.isAgg132 Tryz.sizeOf132 Tryz.zeroValue132 Tryz.isAgg130 Tryz.sizeOf130 Tryz.zeroValue130
end Go.Proofs.YtildhjiddidghaaGreatDoor.H
namespace Go.Proofs.YtildhjiddidghaaGreatDoor.H
open Go.RowKit
set_option maxRecDepth 100000

structure Upto (L T : List Int) (t : Nat) : Prop where
  len : L.length = T.length
  lo : ∀ j, j < t → L.getD j 0 = T.getD j 0
  hi : ∀ j, t ≤ j → L.getD j 0 = 0
theorem Upto.start (T : List Int) (n : Nat) (h : T.length = n) : Upto (List.replicate n 0) T 0 :=
  ⟨by simp [h], fun j hj => by omega, fun j _ => by simp only [List.getD_eq_getElem?_getD, List.getElem?_replicate]; split <;> rfl⟩
theorem Upto.step {L T : List Int} {t : Nat} (h : Upto L T t) (ht : t < T.length) (u : Int) (hu : u = T.getD t 0) : Upto (L.set t u) T (t + 1) := by
  refine ⟨by rw [List.length_set, h.len], fun j hj => ?_, fun j hj => ?_⟩
  · by_cases hjt : j = t
    · subst hjt; simp [List.getD_eq_getElem?_getD, h.len, ht, hu]
    · rw [← h.lo j (by omega)]
      simp [List.getD_eq_getElem?_getD, Ne.symm hjt]
  · have := h.hi j (by omega)
    simpa [List.getD_eq_getElem?_getD, show t ≠ j by omega] using this
theorem Upto.full {L T : List Int} {t : Nat} (h : Upto L T t) (hz : ∀ j, t ≤ j → T.getD j 0 = 0) : L = T := by
  apply list_ext_getD h.len
  intro i _
  by_cases hi : i < t
  · exact h.lo i hi
  · rw [h.hi i (by omega), hz i (by omega)]
theorem saveL_A (A : List Int) (n : Nat) (p : List Int) (hA : A.length = 8) (j : Nat) (hj : j < 8) : (saveL A n p).getD j 0 = A.getD j 0 := by
  unfold saveL
  simp only [List.getD_eq_getElem?_getD]
  rw [List.getElem?_append_left (by simp [hA]; omega), List.getElem?_append_left (by omega)]
theorem saveL_n8 (A : List Int) (n : Nat) (p : List Int) (hA : A.length = 8) : (saveL A n p).getD 8 0 = (n : Int) / 4294967296 := by
  unfold saveL
  simp only [List.getD_eq_getElem?_getD]
  rw [List.getElem?_append_left (by simp [hA]), List.getElem?_append_right (by omega)]
  simp [hA]
theorem saveL_n9 (A : List Int) (n : Nat) (p : List Int) (hA : A.length = 8) : (saveL A n p).getD 9 0 = (n : Int) % 4294967296 := by
  unfold saveL
  simp only [List.getD_eq_getElem?_getD]
  rw [List.getElem?_append_left (by simp [hA]), List.getElem?_append_right (by omega)]
  simp [hA]
theorem saveL_p (A : List Int) (n : Nat) (p : List Int) (hA : A.length = 8) (j : Nat) (hj : j < p.length) : (saveL A n p).getD (10 + j) 0 = p.getD j 0 := by
  unfold saveL
  simp only [List.getD_eq_getElem?_getD]
  rw [List.getElem?_append_right (by simp [hA]), List.getElem?_append_left (by simp [hA]; omega)]
  simp [hA]
theorem saveL_z (A : List Int) (n : Nat) (p : List Int) (hA : A.length = 8) (j : Nat) (hj : 10 + p.length ≤ j) : (saveL A n p).getD j 0 = 0 := by
  unfold saveL
  simp only [List.getD_eq_getElem?_getD]
  rw [List.getElem?_append_right (by simp [hA]; omega), List.getElem?_append_right (by simp [hA]; omega), List.getElem?_replicate]
  split <;> rfl
structure SvI (W w : World) (cs : List Value) (Z L : List Int) : Prop where
  r : Cel w W.heap.size 132 cs
  z : Blk w (W.heap.size + 1) .u32 136 Z
  s : Blk w (W.heap.size + 1 + 1) .u32 136 L
  b : Below W.heap.size W w
theorem SvI.set {W w : World} {cs : List Value} {Z L : List Int} (h : SvI W w cs Z L) (j : Nat) (u : Int) : SvI W (w.setCell ⟨W.heap.size + 1 + 1, j, none⟩ (.int .u32 u)) cs Z (L.set j u) :=
  ⟨h.r.but (but_setCell _ _ _ _) (by omega), h.z.other _ (by omega), h.s.set j u, h.b.setCell (show W.heap.size ≤ W.heap.size + 1 + 1 by omega) _⟩
attribute [-simp] Tryz.isAgg132 Tryz.sizeOf132 Tryz.zeroValue132 Tryz.isAgg136 Tryz.sizeOf136 Tryz.zeroValue136
set_option maxRecDepth 20000 in
set_option maxHeartbeats 2000000 in
theorem rdsave_any (W : World) (A : List Int) (hA : A.length = 8) (ao : Option Addr) (k c : Nat) (n : Nat) (hn : n ≤ 36028797018963968) (p : List Int) (hp : p.length = k) (hk : k < 16) (hat : At W .u32 ao p) :
    Calls Tryz.prog 81 #[.agg (rdC A (.slice ao k c) (n : Int)).toArray] W fun e w => e = .returned (Ag (saveL A n p)) ∧ Below W.heap.size W w := by
  obtain ⟨Z, hZ⟩ : ∃ Z : List Int, Z = List.replicate 26 0 := ⟨_, rfl⟩
  have hZl : Z.length = 26 := by rw [hZ]; simp
  have hz : ∀ w, (zeroValue 136).run Tryz.prog w = .ok (.agg (Z.map (Value.int .u32)).toArray) w := fun w => by rw [Tryz.zeroValue136, hZ]; rfl
  obtain ⟨T, hT⟩ : ∃ T, T = saveL A n p := ⟨_, rfl⟩
  have hTl : T.length = 26 := by rw [hT]; exact saveL_length A n p hA (by omega)
  have U0 : Upto Z T 0 := by rw [hZ]; exact Upto.start T 26 hTl
  have tA : ∀ j, j < 8 → T.getD j 0 = A.getD j 0 := fun j hj => by rw [hT]; exact saveL_A A n p hA j hj
  have t8 : T.getD 8 0 = (n : Int) / 4294967296 := by rw [hT]; exact saveL_n8 A n p hA
  have t9 : T.getD 9 0 = (n : Int) % 4294967296 := by rw [hT]; exact saveL_n9 A n p hA
  have tp : ∀ j, j < k → T.getD (10 + j) 0 = p.getD j 0 := fun j hj => by rw [hT]; exact saveL_p A n p hA j (by omega)
  have tz : ∀ j, 10 + k ≤ j → T.getD j 0 = 0 := fun j hj => by rw [hT]; exact saveL_z A n p hA j (by omega)
  rw [← hT]
  clear hZ hT
  have i1 : (n : Int) ≤ 36028797018963968 := by omega
  have i2 : (k : Int) < 16 := by omega
  have z27 := Tryz.sizeOf130
  go_enter Tryz.func81, Tryz.ntmps81
  go_wp2
  have I0 : SvI W (((W.alloc (Obj.cells (rdC A (Value.slice ao k c) (n : Int)).toArray 132)).alloc (Obj.cells (List.map (Value.int IntKind.u32) Z).toArray 136)).alloc (Obj.cells (List.map (Value.int IntKind.u32) Z).toArray 136)) (rdC A (.slice ao k c) (n : Int)) Z Z :=
    ⟨((show Cel (W.alloc _) W.heap.size 132 _ from heap_alloc_new _ _).below (below_one _ _) (by simp)).below (below_one _ _) (by simp; omega), (Blk.newAt (by simp) .u32 136 Z).alloc _, Blk.newAt (by simp) .u32 136 Z, ((below_one W _).alloc (by simp) _).alloc (by simp; omega) _⟩
  generalize ((W.alloc _).alloc _).alloc _ = w0 at *
  go_loopw [4] (fun i wr => ∃ (t : Nat) (L : List Int), t ≤ 8 ∧ i = .int .i64 (t : Int) ∧ Upto L T t ∧ SvI W wr (rdC A (.slice ao k c) (n : Int)) Z L) (fun i _ => 8 - (intOf i).toNat)
  case atStart => exact ⟨0, Z, by decide, rfl, U0, I0⟩
  case round =>
    clear U0 I0
    obtain ⟨t, L, ht, rfl, U, I⟩ := hrel
    by_cases hlt : t < 8
    · have ca := I.r.rowA t (by omega)
      rw [Nat.zero_add] at ca
      have cs := I.s.cell t (by rw [U.len]; omega)
      have fs := I.s.free t
      have UN : Hid (Upto (L.set t (A.getD t 0)) T (t + 1)) := U.step (by omega) _ (tA t hlt).symm
      have IN : Hid (SvI W (wr.setCell ⟨W.heap.size + 1 + 1, t, none⟩ (.int .u32 (A.getD t 0))) (rdC A (.slice ao k c) (n : Int)) Z (L.set t (A.getD t 0))) := I.set t _
      clear U I tA t8 t9 tp tz
      generalize A.getD t 0 = x at *
      generalize L.getD t 0 = x' at *
      have q0 : (t : Int) < 8 := by omega
      go_wp2
      go_roundw
      case rel => exact ⟨t + 1, _, by omega, by go_num, UN.out, IN.out⟩
      case measure => simp [intOf]; omega
    · obtain rfl : t = 8 := by omega
      rw [show ((8 : Nat) : Int) = 8 from rfl]
      have c9 := I.r.num hA
      have s8 := I.s.cell 8 (by rw [U.len]; omega)
      have f8 := I.s.free 8
      have I1 := I.set 8 ((n : Int) / 4294967296)
      have U1 := U.step (by omega) ((n : Int) / 4294967296) t8.symm
      have c9' := I1.r.num hA
      have s9 := I1.s.cell 9 (by rw [U1.len]; omega)
      have f9 := I1.s.free 9
      have I2 : Hid (SvI W _ (rdC A (.slice ao k c) (n : Int)) Z _) := I1.set 9 ((n : Int) % 4294967296)
      have U2 : Hid (Upto _ T 10) := U1.step (by omega) ((n : Int) % 4294967296) t9.symm
      clear I I1 U U1 t8 t9 tA
      generalize L.getD 8 0 = x8 at *
      generalize (L.set 8 ((n : Int) / 4294967296)).getD 9 0 = x9 at *
      have e1 : IntKind.u64.wrap (n : Int) = (n : Int) := by rw [IntKind.wrap_u64]; omega
      have e2 : IntKind.u32.wrap ((n : Int) / 4294967296) = (n : Int) / 4294967296 := by rw [IntKind.wrap_u32]; omega
      go_wp2
      generalize (wr.setCell _ _).setCell _ _ = w2 at *
      clear c9 s8 f8 c9' s9 f9
      go_loopw [5] (fun i wr => ∃ (t : Nat) (L : List Int), t ≤ k ∧ i = .int .i64 (t : Int) ∧ Upto L T (10 + t) ∧ SvI W wr (rdC A (.slice ao k c) (n : Int)) Z L) (fun i _ => k - (intOf i).toNat)
      case atStart => exact ⟨0, _, Nat.zero_le _, rfl, U2.out, I2.out⟩
      case round =>
        clear U2 I2
        obtain ⟨t, L, ht, rfl, U, I⟩ := hrel
        have c8 := I.r.wait hA
        by_cases hlt : t < k
        · rcases hat with h | ⟨b, off, rfl, hb, hr⟩
          · rw [h] at hp; simp at hp; omega
          · have cp := hr.below I.b hb t (by omega)
            have cs := I.s.cell (10 + t) (by rw [U.len]; omega)
            have fs := I.s.free (10 + t)
            have UN : Hid (Upto (L.set (10 + t) (p.getD t 0)) T (10 + (t + 1))) := U.step (by omega) _ (tp t hlt).symm
            have IN : Hid (SvI W (wr.setCell ⟨W.heap.size + 1 + 1, 10 + t, none⟩ (.int .u32 (p.getD t 0))) (rdC A (.slice (some ⟨b, off, none⟩) k c) (n : Int)) Z (L.set (10 + t) (p.getD t 0))) := I.set _ _
            clear U I tp tz
            generalize p.getD t 0 = x at *
            generalize L.getD (10 + t) 0 = x' at *
            have q0 : (t : Int) < (k : Int) := by omega
            have q1 : (10 : Int) + (t : Int) < 26 := by omega
            have q2 : ((10 : Int) + (t : Int)).toNat = 10 + t := by omega
            go_wp2
            go_roundw
            case rel => exact ⟨t + 1, _, by omega, by go_num, UN.out, IN.out⟩
            case measure => simp [intOf]; omega
        · obtain rfl : t = k := by omega
          obtain rfl := U.full tz
          have IN : Hid (SvI W wr (rdC A (.slice ao t c) (n : Int)) Z L) := I
          clear U I tp tz
          go_wp2_with (first | (refine wpList_load_blk rfl 136 _ rfl (W.heap.size + 1 + 1) L rfl IN.out.s Tryz.underlying136 (by rw [hTl]; exact size40) ?_) | (refine wpList_store_blk rfl 136 _ _ rfl (W.heap.size + 1) L rfl rfl IN.out.z (by rw [hTl]; exact size40) (by rw [hTl, hZl]) ?_))
          refine ret_cell rfl rfl (W.heap.size + 1) L rfl (IN.out.z.setRow _) Tryz.underlying136 (by rw [hTl]; exact size40) ⟨rfl, below_setRow IN.out.b (by omega) _⟩
end Go.Proofs.YtildhjiddidghaaGreatDoor.H
