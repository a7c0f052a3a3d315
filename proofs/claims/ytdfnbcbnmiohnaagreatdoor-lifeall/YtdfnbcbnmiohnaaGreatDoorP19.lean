import Derived.Test.YtdfnbcbnmiohnaaGreatDoorP15
import Derived.Test.YtdfnbcbnmiohnaaGreatDoorP18
import Derived.Deep.DeepCutAuto
import Derived.Laws.BytesArg
import Derived.Test.YtdfnbcbnmiohnaaGreatDoorP01
namespace Go.Proofs.YtdfnbcbnmiohnaaGreatDoor.H
open Go.RowKit

end Go.Proofs.YtdfnbcbnmiohnaaGreatDoor.H
namespace Go.Proofs.YtdfnbcbnmiohnaaGreatDoor.H
open Go.RowKit

def Mine (w : World) (g : Nat) (k : IntKind) (e : TypeId) (L : List Int) : Prop := ∃ cs : List Value, Cel w g e cs ∧ ∀ i, i < L.length → cs[i]? = some (.int k (L.getD i 0))
theorem Mine.lt {w : World} {g : Nat} {k : IntKind} {e : TypeId} {L : List Int} (h : Mine w g k e L) : g < w.heap.size := by
  obtain ⟨cs, hc, _⟩ := h
  exact hc.lt
theorem Mine.below {w w' : World} {B g : Nat} {k : IntKind} {e : TypeId} {L : List Int} (h : Mine w g k e L) (hb : Below B w w') (hg : g < B) : Mine w' g k e L := by
  obtain ⟨cs, hc, h⟩ := h
  exact ⟨cs, hc.below hb hg, h⟩
theorem Mine.on {w w' : World} {g : Nat} {k : IntKind} {e : TypeId} {L : List Int} (h : Mine w g k e L) (hb : Below w.heap.size w w') : Mine w' g k e L := h.below hb h.lt
theorem Mine.but {w w' : World} {g b : Nat} {k : IntKind} {e : TypeId} {L : List Int} (h : Mine w g k e L) (hb : But b w w') (hg : g ≠ b) : Mine w' g k e L := by
  obtain ⟨cs, hc, h⟩ := h
  exact ⟨cs, hc.but hb hg, h⟩
theorem Mine.row {w : World} {g : Nat} {k : IntKind} {e : TypeId} {L : List Int} (h : Mine w g k e L) : Row w k g 0 L := by
  obtain ⟨cs, hc, h⟩ := h
  intro i hi
  rw [Nat.zero_add, hc.cell i, h i hi]
theorem Mine.at {w : World} {g : Nat} {k : IntKind} {e : TypeId} {L : List Int} (h : Mine w g k e L) : At w k (some ⟨g, 0, none⟩) L := .inr ⟨g, 0, rfl, h.lt, h.row⟩
theorem Mine.head {w : World} {g : Nat} {k : IntKind} {e : TypeId} {L M : List Int} (h : Mine w g k e (L ++ M)) : At w k (some ⟨g, 0, none⟩) L := .inr ⟨g, 0, rfl, h.lt, h.row.head⟩
theorem Mine.cell {w : World} {g : Nat} {k : IntKind} {e : TypeId} {L : List Int} (h : Mine w g k e L) (j : Nat) (hj : j < L.length) : w.cell? ⟨g, j, none⟩ = some (.int k (L.getD j 0)) := by
  have := h.row j hj
  rwa [Nat.zero_add] at this
theorem Mine.free {w : World} {g : Nat} {k : IntKind} {e : TypeId} {L : List Int} (h : Mine w g k e L) (j : Nat) : w.frozen? ⟨g, j, none⟩ = false := by
  obtain ⟨cs, hc, _⟩ := h
  exact hc.free j
theorem Mine.set {w : World} {g : Nat} {k : IntKind} {e : TypeId} {L : List Int} (h : Mine w g k e L) (j : Nat) (u : Int) : Mine (w.setCell ⟨g, j, none⟩ (.int k u)) g k e (L.set j u) := by
  obtain ⟨cs, hc, h⟩ := h
  refine ⟨cs.set j (.int k u), ?_, ?_⟩
  · unfold Cel at hc ⊢
    rw [heap_setCell_same w g j _ e _ hc, tqA]
  · intro i hi
    rw [List.length_set] at hi
    have := h i hi
    have hl : i < cs.length := by
      rcases Nat.lt_or_ge i cs.length with h | h
      · exact h
      · rw [List.getElem?_eq_none h] at this; cases this
    rw [List.getElem?_set]
    simp only [List.getD_eq_getElem?_getD, List.getElem?_set]
    by_cases hj : j = i
    · subst hj
      simp [hl, hi]
    · simp only [if_neg hj]
      rw [this, List.getD_eq_getElem?_getD]
theorem Holds.mine {W wr : World} {k : IntKind} {e : TypeId} {v : Value} {L : List Int} (h : Holds W wr k e v L) (hn : 0 < L.length) : ∃ g cap, v = .slice (some ⟨g, 0, none⟩) L.length cap ∧ L.length ≤ cap ∧ W.heap.size ≤ g ∧ Mine wr g k e L := by
  rcases h.own.2 with ⟨_, h0⟩ | ⟨g, cap, cur, rfl, hg, hh, hc, hm, hs, ht⟩
  · omega
  · refine ⟨g, cap, rfl, hc, hg, cur.toList, hh, fun i hi => ?_⟩
    have h1 : (cur.toList.take (L.length * 1))[i]? = (L.map (Value.int k))[i]? := by rw [ht]
    rw [List.getElem?_take, if_pos (by omega)] at h1
    rw [h1]
    simp [List.getD_eq_getElem?_getD, hi]
end Go.Proofs.YtdfnbcbnmiohnaaGreatDoor.H
namespace Go.Proofs.YtdfnbcbnmiohnaaGreatDoor.H
open Go.RowKit
set_option maxRecDepth 100000

theorem endR_words (A p : List Int) (wp : Wds p) (b : Int) (b0 : 0 ≤ b) (b1 : b < 18446744073709551616) : endR A (bytesD p) b = S.fin A (p ++ [2147483648]) b := by
  have hl := bytesD_length p
  have hz : bz (4 * p.length) = 3 + 4 * S.pz (p.length + 1) := by unfold bz S.pz; omega
  have hpad : padR (bytesD p) b = ((bytesD p ++ [128, 0, 0, 0]) ++ List.replicate (4 * S.pz (p.length + 1)) 0) ++ lenB b 8 := by
    unfold padR
    rw [hl, hz, ← List.replicate_append_replicate]
    simp [List.replicate]
  have hq : (padR (bytesD p) b).length = 64 * ((padR (bytesD p) b).length / 64) := padR_whole _ _
  have hlen := padR_length (bytesD p) b
  rw [hl, hz] at hlen
  obtain ⟨q, hqe⟩ : ∃ q, q = (padR (bytesD p) b).length / 64 := ⟨_, rfl⟩
  rw [← hqe] at hq
  have h16 : 16 * q = (p.length + 1 + S.pz (p.length + 1)) + 2 := by omega
  have hw : wordsD (padR (bytesD p) b) (16 * q) = S.pad (p ++ [2147483648]) b := by
    rw [hpad, h16, wordsD_append _ _ (p.length + 1 + S.pz (p.length + 1)) 2 (by simp [hl]; omega), wordsD_append _ _ (p.length + 1) (S.pz (p.length + 1)) (by simp [hl]; omega), wordsD_append _ _ p.length 1 hl, words_bytes p wp, wordsD_zeros, wordsD_len b b0 b1]
    unfold S.pad
    rw [List.length_append, List.length_singleton, show wordsD [128, 0, 0, 0] 1 = [2147483648] by decide]
  unfold endR S.fin
  rw [← hqe, runB_run A _ (16 * q) q (Nat.le_refl _), hw]
  congr 1
  rw [pad_length, List.length_append, List.length_singleton]
  omega

def rdC (A : List Int) (v : Value) (n : Int) : List Value := A.map (Value.int .u32) ++ [v, .int .i64 n]
theorem rdC_length (A : List Int) (v : Value) (n : Int) (hA : A.length = 8) : (rdC A v n).length = 10 := by simp [rdC, hA]
theorem rdC_one (A : List Int) (ao : Option Addr) (k c : Nat) (n : Int) : ∀ u ∈ rdC A (.slice ao k c) n, u.oneCell' = true := by
  intro u hu
  simp only [rdC, List.mem_append, List.mem_cons, List.not_mem_nil, or_false] at hu
  rcases hu with hu | rfl | rfl
  · exact ints_oneCell .u32 A u hu
  · rfl
  · rfl
def zero59 : List Value := rdC [0, 0, 0, 0, 0, 0, 0, 0] (.slice none 0 0) 0
theorem fold59e (a0 a1 a2 a3 a4 a5 a6 a7 : Int) : List.foldl (fun (cs : Array Value) (x : Value × Nat) => cs.setIfInBounds x.snd x.fst) zero59.toArray (List.map (Value.int IntKind.u32) [a0, a1, a2, a3, a4, a5, a6, a7]).zipIdx = (rdC [a0, a1, a2, a3, a4, a5, a6, a7] (.slice none 0 0) 0).toArray := by kernel_rfl
theorem fold59 (A : List Int) (hA : A.length = 8) : List.foldl (fun (cs : Array Value) (x : Value × Nat) => cs.setIfInBounds x.snd x.fst) zero59.toArray (List.map (Value.int IntKind.u32) A).zipIdx = (rdC A (.slice none 0 0) 0).toArray := by
  match A, hA with
  | [a0, a1, a2, a3, a4, a5, a6, a7], _ => exact fold59e _ _ _ _ _ _ _ _
theorem size59 : (Tryz.prog.info? 196).map (·.size) = some 10 := by kernel_rfl
theorem ret_cel {P : Program} {fn : Func} {p : Tmp} {ty e : TypeId} {d : TypeDesc} {a : Act} {w : World} {post : Ending → World → Prop} (hr : fn.results = #[.cell p ty]) (hd : a.defers = []) (g : Nat) (cs : List Value)
    (hp : a.tmps.getD p undef = .pointer (some ⟨g, 0, none⟩)) (hb : Cel w g e cs) (hu : P.underlying ty = some d) (hdd : (match d with | .struct _ | .array _ _ => true | _ => false) = true) (hi : (P.info? ty).map (·.size) = some cs.length) (h : post (.returned (.agg cs.toArray)) w) :
    bodyPost P fn post .ret a w :=
  bodyPost_ret (results_cell_row hr _ _ g e _ (0, 0) _ hp hb hu hdd (by rw [hi]; simp)) hd h

def sl (d : Int) : Nat := (d % 6).toNat
attribute [-simp] Tryz.isAgg196 Tryz.sizeOf196 Tryz.zeroValue196
theorem rnew_any (W : World) : Calls Tryz.prog 128 #[] W fun e w => e = .returned (.agg (rdC S.First (.slice none 0 0) 0).toArray) ∧ Below W.heap.size W w := by
  obtain ⟨Z, hZ⟩ : ∃ Z : List Value, Z = zero59 := ⟨_, rfl⟩
  have hz : ∀ w, (zeroValue 196).run Tryz.prog w = .ok (.agg Z.toArray) w := fun w => by rw [Tryz.zeroValue196, hZ]; rfl
  have hZl : Z.length = 10 := by rw [hZ]; rfl
  have HZ : Hid (Cel (W.alloc (.cells Z.toArray 196)) W.heap.size 196 Z) := heap_alloc_new _ _
  obtain ⟨FI, hFI⟩ : ∃ FI, FI = S.First := ⟨_, rfl⟩
  have hFl : FI.length = 8 := by rw [hFI]; rfl
  have bt := fold59 FI hFl
  rw [← hZ] at bt
  have H1 : Hid (∀ u ∈ rdC FI (.slice none 0 0) 0, u.oneCell' = true) := rdC_one FI none 0 0 0
  have hl := rdC_length FI (.slice none 0 0) 0 hFl
  have C27 : Hid (Calls Tryz.prog 145 #[] (W.alloc (.cells Z.toArray 196)) fun e w => e = .returned (.agg (FI.map (Value.int .u32)).toArray) ∧ Below W.heap.size W w ∧ Cel w W.heap.size 196 Z) := by
    refine (rfirst_any _).mono ?_
    rintro e w ⟨rfl, hb⟩
    rw [hFI]
    exact ⟨rfl, (below_one W _).trans (hb.mono (by simp)), HZ.out.below hb HZ.out.lt⟩
  rw [← hFI]
  clear hZ hFI
  go_enter Tryz.func128, Tryz.ntmps128
  go_wp2_with fail
  refine C27.out.mono ?_
  rintro en w1 ⟨rfl, hb1, bz1⟩
  go_wp2_with (first | (refine wpList_store_cel rfl 196 _ _ rfl W.heap.size (rdC FI (.slice none 0 0) 0) rfl rfl bz1 (by rw [hl]; exact size59) (by rw [hl, hZl]) H1.out ?_; intro w2 hc2 hb2 hs2))
  refine ret_cel rfl rfl W.heap.size _ rfl hc2 Tryz.underlying196 rfl (by rw [hl]; exact size59) ⟨rfl, hb1.trans (hb2.below (Nat.le_refl _) hb1.size)⟩
end Go.Proofs.YtdfnbcbnmiohnaaGreatDoor.H
namespace Go.Proofs.YtdfnbcbnmiohnaaGreatDoor.H
open Go.RowKit

theorem Cel.rowA {w : World} {g : Nat} {e : TypeId} {A : List Int} {v : Value} {n : Int} (h : Cel w g e (rdC A v n)) : Row w .u32 g 0 A := by
  intro i hi
  rw [Nat.zero_add, h.cell i, rdC, List.getElem?_append_left (by simpa using hi)]
  simp [List.getD_eq_getElem?_getD, hi]
theorem Cel.wait {w : World} {g : Nat} {e : TypeId} {A : List Int} {v : Value} {n : Int} (h : Cel w g e (rdC A v n)) (hA : A.length = 8) : w.cell? ⟨g, 8, none⟩ = some v := by
  rw [h.cell 8, rdC, List.getElem?_append_right (by simp [hA])]
  simp [hA]
theorem Cel.num {w : World} {g : Nat} {e : TypeId} {A : List Int} {v : Value} {n : Int} (h : Cel w g e (rdC A v n)) (hA : A.length = 8) : w.cell? ⟨g, 9, none⟩ = some (.int .i64 n) := by
  rw [h.cell 9, rdC, List.getElem?_append_right (by simp [hA])]
  simp [hA]
theorem At.but {w w' : World} {g : Nat} {k : IntKind} {b off : Nat} {L : List Int} (hr : Row w k b off L) (hb : But g w w') (h1 : b < w.heap.size) (h2 : b ≠ g) : Row w' k b off L := hb.row hr h1 h2
theorem wp_store_row8 {P : Program} {op : Oper} {a : Act} {w : World} {K : Act → World → Prop} {Q : Exit → Act → World → Prop} (ty : TypeId) (x y : Operand) (ho : op.op = .store ty x y)
    (g : Nat) (L' : List Int) (hx : a.eval x = .pointer (some ⟨g, 0, none⟩)) (hy : a.eval y = Ag L') {e : TypeId} {L : List Int} (hg : Blk w g .u32 e L) (hi : (P.info? ty).map (·.size) = some L.length) (hl : L.length = L'.length)
    (h : K (a.put op.dst undef) (w.setRow g (L'.map (Value.int .u32)).toArray)) : op.wp P a w K Q := by
  have hs : (Instr.storeAt ty (.pointer (some ⟨g, 0, none⟩)) (Ag L')).run P w = .ok () (w.setRow g (L'.map (Value.int .u32)).toArray) := store_blk hg hi hl
  unfold Oper.wp execOp
  simp only [ho, hx, hy, Sem.run_bind, Sem.run_pure, hs, Result.andThen_ok]
  exact h
attribute [-simp] Tryz.isAgg196 Tryz.sizeOf196 Tryz.zeroValue196 Tryz.isAgg55 Tryz.sizeOf55 Tryz.zeroValue55
set_option maxRecDepth 20000 in
set_option maxHeartbeats 2000000 in
theorem rdsum_any (W : World) (hR : TabR W) (h2 : 1 < W.heap.size) (A : List Int) (hA : A.length = 8) (ao : Option Addr) (k c : Nat) (n : Nat) (hn : n ≤ 36028797018963968) (p : List Int) (hp : p.length = k) (hk : k < 16) (wp : Wds p) (hat : At W .u32 ao p) :
    Calls Tryz.prog 143 #[.agg (rdC A (.slice ao k c) (n : Int)).toArray] W fun e w => e = .returned (Ag (S.fin A (p ++ [2147483648]) (32 * (n : Int)))) ∧ Below W.heap.size W w := by
  obtain ⟨Z, hZ⟩ : ∃ Z : List Int, Z = List.replicate 8 0 := ⟨_, rfl⟩
  have hZl : Z.length = 8 := by rw [hZ]; simp
  have hz : ∀ w, (zeroValue 55).run Tryz.prog w = .ok (.agg (Z.map (Value.int .u32)).toArray) w := fun w => by rw [Tryz.zeroValue55, hZ]; rfl
  clear hZ
  have i1 : (n : Int) ≤ 36028797018963968 := by omega
  go_enter Tryz.func143, Tryz.ntmps143
  go_wp2_with fail
  have cR : Cel ((W.alloc (Obj.cells (rdC A (Value.slice ao k c) (n : Int)).toArray 196)).alloc (Obj.cells (List.map (Value.int IntKind.u32) Z).toArray 55)) W.heap.size 196 (rdC A (.slice ao k c) (n : Int)) := (show Cel (W.alloc _) W.heap.size 196 _ from heap_alloc_new _ _).below (below_one _ _) (by simp)
  have bZ : Blk ((W.alloc (Obj.cells (rdC A (Value.slice ao k c) (n : Int)).toArray 196)).alloc (Obj.cells (List.map (Value.int IntKind.u32) Z).toArray 55)) (W.heap.size + 1) .u32 55 Z := Blk.newAt (by simp) .u32 55 Z
  have hW0 : Below W.heap.size W ((W.alloc (Obj.cells (rdC A (Value.slice ao k c) (n : Int)).toArray 196)).alloc (Obj.cells (List.map (Value.int IntKind.u32) Z).toArray 55)) := (below_one W _).alloc (by simp) _
  generalize (W.alloc _).alloc _ = w0 at *
  have hgW := cR.lt
  obtain ⟨M, hM⟩ : ∃ M, M = S.fin A (p ++ [2147483648]) (32 * (n : Int)) := ⟨_, rfl⟩
  have hMl : M.length = 8 := by rw [hM]; exact run_length _ _ hA _
  have BL : Hid (∀ w, But (W.heap.size + 1) w0 w → Below W.heap.size W w) := fun w hw => hW0.trans (hw.below (by omega) hW0.size)
  have RA : Hid (∀ w, But (W.heap.size + 1) w0 w → w.rangeAt W.heap.size 0 (A.map (Value.int .u32))) := fun w hw => ((cR.but hw (by omega)).rowA).range
  have c8 : ∀ w, But (W.heap.size + 1) w0 w → w.cell? ⟨W.heap.size, 8, none⟩ = some (.slice ao k c) := fun w hw => (cR.but hw (by omega)).wait hA
  have c9 : ∀ w, But (W.heap.size + 1) w0 w → w.cell? ⟨W.heap.size, 9, none⟩ = some (.int .i64 (n : Int)) := fun w hw => (cR.but hw (by omega)).num hA
  have C43 : Hid (∀ w, But (W.heap.size + 1) w0 w → Blk w (W.heap.size + 1) .u32 55 Z → Calls Tryz.prog 156 #[.slice ao k c] w fun e w' => ∃ a1 c1, e = .returned (.slice a1 (4 * k) c1) ∧ But (W.heap.size + 1) w0 w' ∧ At w' .u8 a1 (bytesD p) ∧ Blk w' (W.heap.size + 1) .u32 55 Z) := fun w hw hb => by
    refine (rbytesOf_any w ao k c p hp (hat.below (BL.out w hw)) (by omega)).mono ?_
    rintro e w' ⟨v, rfl, F⟩
    obtain ⟨a1, c1, rfl, _, h1, _⟩ := F.at'
    rw [bytesD_length, hp]
    exact ⟨a1, c1, rfl, hw.trans (Below.but F.below), h1, hb.on F.below⟩
  have C45 : Hid (∀ w a1 c1, But (W.heap.size + 1) w0 w → At w .u8 a1 (bytesD p) → Blk w (W.heap.size + 1) .u32 55 Z → Calls Tryz.prog 155 #[.agg (A.map (Value.int .u32)).toArray, .slice a1 (4 * k) c1, .int .u64 (4 * (n : Int))] w fun e w' => e = .returned (.agg (M.map (Value.int .u32)).toArray) ∧ But (W.heap.size + 1) w0 w' ∧ Blk w' (W.heap.size + 1) .u32 55 Z) := fun w a1 c1 hw ha hb => by
    have hW := BL.out w hw
    have := hW.size
    refine (ended_any w (hR.below hW (by omega)) (by omega) A (bytesD p) hA a1 (4 * k) c1 (by rw [bytesD_length, hp]) (bytesD_bts p) ha (by omega) (4 * (n : Int)) (by omega) (by omega)).mono ?_
    rintro e w' ⟨rfl, hb'⟩
    rw [hM, show (8 : Int) * (4 * (n : Int)) = 32 * (n : Int) by omega, endR_words A p wp _ (by omega) (by omega)]
    exact ⟨rfl, hw.trans (Below.but hb'), hb.on hb'⟩
  have sA : (Tryz.prog.info? 55).map (·.size) = some (A.map (Value.int .u32)).length := by rw [List.length_map, hA]; exact size27
  have HB0 : Hid (But (W.heap.size + 1) w0 w0.drew) := Below.but (Below.refl _ _).drew
  have bZ0 : Hid (Blk w0.drew (W.heap.size + 1) .u32 55 Z) := bZ.drew
  have z27 := Tryz.sizeOf55
  have HM : Hid (M = S.fin A (p ++ [2147483648]) (32 * (n : Int))) := hM
  clear hM
  have u1 : IntKind.u64.wrap (n : Int) = (n : Int) := by rw [IntKind.wrap_u64]; omega
  have u2 : IntKind.u64.wrap (4 * (n : Int)) = 4 * (n : Int) := by rw [IntKind.wrap_u64]; omega
  refine wp_region_held_drew (S := fun w => But (W.heap.size + 1) w0 w) (by kernel_rfl) HB0.out (fun hHeld => ?_)
  refine tk 0 (some 3) (.pointer (some ⟨W.heap.size, 0, none⟩)) ?_
  simp only [Act.put, tqA, tqZ, tqS]
  refine tk 2 (some 5) (.pointer (some ⟨W.heap.size, 8, none⟩)) ?_
  simp only [Act.put, tqA, tqZ, tqS]
  refine tk 5 (some 8) (.pointer (some ⟨W.heap.size, 9, none⟩)) ?_
  simp only [Act.put, tqA, tqZ, tqS]
  refine tk 1 (some 4) (.agg (A.map (Value.int .u32)).toArray) ?_ (hy := yieldsIf_load_mid (by rfl) _ _ rfl _ _ rfl _ _ (fun w hSw => (RA.out w hSw)) Tryz.underlying55 rfl sA)
  simp only [Act.put, tqA, tqZ, tqS]
  refine tk 3 (some 6) (.slice ao k c) ?_
  simp only [Act.put, tqA, tqZ, tqS]
  refine tk 6 (some 9) (.int .i64 (n : Int)) ?_
  simp only [Act.put, tqA, tqZ, tqS]
  refine tk 7 (some 10) (.int .u64 (n : Int)) ?_
  simp only [Act.put, tqA, tqZ, tqS]
  refine tk 8 (some 11) (.int .u64 (4 * (n : Int))) ?_
  simp only [Act.put, tqA, tqZ, tqS]
  refine wpAnyH_ready (rs := [4]) (by kernel_rfl) (by simp) (AllReadyH.cons rfl (fun K hK => ?_) AllReadyH.nil)
  go_simp
  refine (C43.out _ HB0.out bZ0.out).mono ?_
  rintro en w1 ⟨a1, c1, rfl, hw1, hat1, bz1⟩
  go_wp2_with fail
  refine hK.out _ _ hw1 (fun hHeld => ?_)
  clear hK K
  try simp only [Act.put, tqA, tqZ, tqS]
  refine wpAnyH_ready (rs := [9]) (by kernel_rfl) (by simp) (AllReadyH.cons rfl (fun K hK => ?_) AllReadyH.nil)
  go_simp
  refine (C45.out _ _ _ hw1 hat1 bz1).mono ?_
  rintro en w2 ⟨rfl, hw2, bz2⟩
  go_wp2_with fail
  refine hK.out _ _ hw2 (fun hHeld => ?_)
  clear hK K
  try simp only [Act.put, tqA, tqZ, tqS]
  refine wpAnyH_ready (rs := [10]) (by kernel_rfl) (by simp) (AllReadyH.cons rfl (fun K hK => ?_) AllReadyH.nil)
  rw [if_pos (by rfl)]
  refine wp_store_row8 55 _ _ rfl (W.heap.size + 1) M rfl rfl bz2 (by rw [hZl]; exact size27) (by rw [hZl, hMl]) ?_
  refine hK.out _ _ (hw2.trans (but_setRow _ _ _)) (fun hHeld => ?_)
  clear hK K
  simp only [Act.put]
  refine wpAnyH_done (by kernel_rfl) ?_ _
  have HB2 : Hid (Below W.heap.size W w2) := BL.out w2 hw2
  have BZ2 : Hid (Blk w2 (W.heap.size + 1) .u32 55 Z) := bz2
  clear hw1 hw2 hat1 bz1 bz2 hHeld cR bZ hW0
  go_wp2_with fail
  refine ret_cell rfl rfl (W.heap.size + 1) M rfl (BZ2.out.setRow _) Tryz.underlying55 (by rw [hMl]; exact size27) ⟨?_, below_setRow HB2.out (by omega) _⟩
  rw [HM.out]
end Go.Proofs.YtdfnbcbnmiohnaaGreatDoor.H
namespace Go.Proofs.YtdfnbcbnmiohnaaGreatDoor.H
open Go.RowKit
set_option maxRecDepth 100000

structure Upto (L T : List Int) (t : Nat) : Prop where
  len : L.length = T.length
  lo : ∀ j, j < t → L.getD j 0 = T.getD j 0
  hi : ∀ j, t ≤ j → L.getD j 0 = 0
theorem Upto.start (T : List Int) (n : Nat) (h : T.length = n) : Upto (List.replicate n 0) T 0 :=
  ⟨by simp [h], fun j hj => by omega, fun j _ => by simp only [List.getD_eq_getElem?_getD, List.getElem?_replicate]; split <;> rfl⟩
theorem Upto.step {L T : List Int} {t : Nat} (h : Upto L T t) (ht : t < T.length) (u : Int) (hu : u = T.getD t 0) : Upto (L.set t u) T (t + 1) := by
  refine ⟨by rw [List.length_set, h.len], fun j hj => ?_, fun j hj => ?_⟩
  · by_cases hjt : j = t
    · subst hjt; simp [List.getD_eq_getElem?_getD, h.len, ht, hu]
    · rw [← h.lo j (by omega)]
      simp [List.getD_eq_getElem?_getD, Ne.symm hjt]
  · have := h.hi j (by omega)
    simpa [List.getD_eq_getElem?_getD, show t ≠ j by omega] using this
theorem Upto.full {L T : List Int} {t : Nat} (h : Upto L T t) (hz : ∀ j, t ≤ j → T.getD j 0 = 0) : L = T := by
  apply list_ext_getD h.len
  intro i _
  by_cases hi : i < t
  · exact h.lo i hi
  · rw [h.hi i (by omega), hz i (by omega)]
theorem saveL_A (A : List Int) (n : Nat) (p : List Int) (hA : A.length = 8) (j : Nat) (hj : j < 8) : (saveL A n p).getD j 0 = A.getD j 0 := by
  unfold saveL
  simp only [List.getD_eq_getElem?_getD]
  rw [List.getElem?_append_left (by simp [hA]; omega), List.getElem?_append_left (by omega)]
theorem saveL_n8 (A : List Int) (n : Nat) (p : List Int) (hA : A.length = 8) : (saveL A n p).getD 8 0 = (n : Int) / 4294967296 := by
  unfold saveL
  simp only [List.getD_eq_getElem?_getD]
  rw [List.getElem?_append_left (by simp [hA]), List.getElem?_append_right (by omega)]
  simp [hA]
theorem saveL_n9 (A : List Int) (n : Nat) (p : List Int) (hA : A.length = 8) : (saveL A n p).getD 9 0 = (n : Int) % 4294967296 := by
  unfold saveL
  simp only [List.getD_eq_getElem?_getD]
  rw [List.getElem?_append_left (by simp [hA]), List.getElem?_append_right (by omega)]
  simp [hA]
theorem saveL_p (A : List Int) (n : Nat) (p : List Int) (hA : A.length = 8) (j : Nat) (hj : j < p.length) : (saveL A n p).getD (10 + j) 0 = p.getD j 0 := by
  unfold saveL
  simp only [List.getD_eq_getElem?_getD]
  rw [List.getElem?_append_right (by simp [hA]), List.getElem?_append_left (by simp [hA]; omega)]
  simp [hA]
theorem saveL_z (A : List Int) (n : Nat) (p : List Int) (hA : A.length = 8) (j : Nat) (hj : 10 + p.length ≤ j) : (saveL A n p).getD j 0 = 0 := by
  unfold saveL
  simp only [List.getD_eq_getElem?_getD]
  rw [List.getElem?_append_right (by simp [hA]; omega), List.getElem?_append_right (by simp [hA]; omega), List.getElem?_replicate]
  split <;> rfl
structure SvI (W w : World) (cs : List Value) (Z L : List Int) : Prop where
  r : Cel w W.heap.size 196 cs
  z : Blk w (W.heap.size + 1) .u32 44 Z
  s : Blk w (W.heap.size + 1 + 1) .u32 44 L
  b : Below W.heap.size W w
theorem SvI.set {W w : World} {cs : List Value} {Z L : List Int} (h : SvI W w cs Z L) (j : Nat) (u : Int) : SvI W (w.setCell ⟨W.heap.size + 1 + 1, j, none⟩ (.int .u32 u)) cs Z (L.set j u) :=
  ⟨h.r.but (but_setCell _ _ _ _) (by omega), h.z.other _ (by omega), h.s.set j u, h.b.setCell (show W.heap.size ≤ W.heap.size + 1 + 1 by omega) _⟩
attribute [-simp] Tryz.isAgg196 Tryz.sizeOf196 Tryz.zeroValue196 Tryz.isAgg44 Tryz.sizeOf44 Tryz.zeroValue44
set_option maxRecDepth 20000 in
set_option maxHeartbeats 2000000 in
theorem rdsave_any (W : World) (A : List Int) (hA : A.length = 8) (ao : Option Addr) (k c : Nat) (n : Nat) (hn : n ≤ 36028797018963968) (p : List Int) (hp : p.length = k) (hk : k < 16) (hat : At W .u32 ao p) :
    Calls Tryz.prog 129 #[.agg (rdC A (.slice ao k c) (n : Int)).toArray] W fun e w => e = .returned (Ag (saveL A n p)) ∧ Below W.heap.size W w := by
  obtain ⟨Z, hZ⟩ : ∃ Z : List Int, Z = List.replicate 26 0 := ⟨_, rfl⟩
  have hZl : Z.length = 26 := by rw [hZ]; simp
  have hz : ∀ w, (zeroValue 44).run Tryz.prog w = .ok (.agg (Z.map (Value.int .u32)).toArray) w := fun w => by rw [Tryz.zeroValue44, hZ]; rfl
  obtain ⟨T, hT⟩ : ∃ T, T = saveL A n p := ⟨_, rfl⟩
  have hTl : T.length = 26 := by rw [hT]; exact saveL_length A n p hA (by omega)
  have U0 : Upto Z T 0 := by rw [hZ]; exact Upto.start T 26 hTl
  have tA : ∀ j, j < 8 → T.getD j 0 = A.getD j 0 := fun j hj => by rw [hT]; exact saveL_A A n p hA j hj
  have t8 : T.getD 8 0 = (n : Int) / 4294967296 := by rw [hT]; exact saveL_n8 A n p hA
  have t9 : T.getD 9 0 = (n : Int) % 4294967296 := by rw [hT]; exact saveL_n9 A n p hA
  have tp : ∀ j, j < k → T.getD (10 + j) 0 = p.getD j 0 := fun j hj => by rw [hT]; exact saveL_p A n p hA j (by omega)
  have tz : ∀ j, 10 + k ≤ j → T.getD j 0 = 0 := fun j hj => by rw [hT]; exact saveL_z A n p hA j (by omega)
  rw [← hT]
  clear hZ hT
  have i1 : (n : Int) ≤ 36028797018963968 := by omega
  have i2 : (k : Int) < 16 := by omega
  have z27 := Tryz.sizeOf55
  go_enter Tryz.func129, Tryz.ntmps129
  go_wp2
  have I0 : SvI W (((W.alloc (Obj.cells (rdC A (Value.slice ao k c) (n : Int)).toArray 196)).alloc (Obj.cells (List.map (Value.int IntKind.u32) Z).toArray 44)).alloc (Obj.cells (List.map (Value.int IntKind.u32) Z).toArray 44)) (rdC A (.slice ao k c) (n : Int)) Z Z :=
    ⟨((show Cel (W.alloc _) W.heap.size 196 _ from heap_alloc_new _ _).below (below_one _ _) (by simp)).below (below_one _ _) (by simp; omega), (Blk.newAt (by simp) .u32 44 Z).alloc _, Blk.newAt (by simp) .u32 44 Z, ((below_one W _).alloc (by simp) _).alloc (by simp; omega) _⟩
  generalize ((W.alloc _).alloc _).alloc _ = w0 at *
  go_loopw [4] (fun i wr => ∃ (t : Nat) (L : List Int), t ≤ 8 ∧ i = .int .i64 (t : Int) ∧ Upto L T t ∧ SvI W wr (rdC A (.slice ao k c) (n : Int)) Z L) (fun i _ => 8 - (intOf i).toNat)
  case atStart => exact ⟨0, Z, by decide, rfl, U0, I0⟩
  case round =>
    clear U0 I0
    obtain ⟨t, L, ht, rfl, U, I⟩ := hrel
    by_cases hlt : t < 8
    · have ca := I.r.rowA t (by omega)
      rw [Nat.zero_add] at ca
      have cs := I.s.cell t (by rw [U.len]; omega)
      have fs := I.s.free t
      have UN : Hid (Upto (L.set t (A.getD t 0)) T (t + 1)) := U.step (by omega) _ (tA t hlt).symm
      have IN : Hid (SvI W (wr.setCell ⟨W.heap.size + 1 + 1, t, none⟩ (.int .u32 (A.getD t 0))) (rdC A (.slice ao k c) (n : Int)) Z (L.set t (A.getD t 0))) := I.set t _
      clear U I tA t8 t9 tp tz
      generalize A.getD t 0 = x at *
      generalize L.getD t 0 = x' at *
      have q0 : (t : Int) < 8 := by omega
      go_wp2
      go_roundw
      case rel => exact ⟨t + 1, _, by omega, by go_num, UN.out, IN.out⟩
      case measure => simp [intOf]; omega
    · obtain rfl : t = 8 := by omega
      rw [show ((8 : Nat) : Int) = 8 from rfl]
      have c9 := I.r.num hA
      have s8 := I.s.cell 8 (by rw [U.len]; omega)
      have f8 := I.s.free 8
      have I1 := I.set 8 ((n : Int) / 4294967296)
      have U1 := U.step (by omega) ((n : Int) / 4294967296) t8.symm
      have c9' := I1.r.num hA
      have s9 := I1.s.cell 9 (by rw [U1.len]; omega)
      have f9 := I1.s.free 9
      have I2 : Hid (SvI W _ (rdC A (.slice ao k c) (n : Int)) Z _) := I1.set 9 ((n : Int) % 4294967296)
      have U2 : Hid (Upto _ T 10) := U1.step (by omega) ((n : Int) % 4294967296) t9.symm
      clear I I1 U U1 t8 t9 tA
      generalize L.getD 8 0 = x8 at *
      generalize (L.set 8 ((n : Int) / 4294967296)).getD 9 0 = x9 at *
      have e1 : IntKind.u64.wrap (n : Int) = (n : Int) := by rw [IntKind.wrap_u64]; omega
      have e2 : IntKind.u32.wrap ((n : Int) / 4294967296) = (n : Int) / 4294967296 := by rw [IntKind.wrap_u32]; omega
      go_wp2
      generalize (wr.setCell _ _).setCell _ _ = w2 at *
      clear c9 s8 f8 c9' s9 f9
      go_loopw [5] (fun i wr => ∃ (t : Nat) (L : List Int), t ≤ k ∧ i = .int .i64 (t : Int) ∧ Upto L T (10 + t) ∧ SvI W wr (rdC A (.slice ao k c) (n : Int)) Z L) (fun i _ => k - (intOf i).toNat)
      case atStart => exact ⟨0, _, Nat.zero_le _, rfl, U2.out, I2.out⟩
      case round =>
        clear U2 I2
        obtain ⟨t, L, ht, rfl, U, I⟩ := hrel
        have c8 := I.r.wait hA
        by_cases hlt : t < k
        · rcases hat with h | ⟨b, off, rfl, hb, hr⟩
          · rw [h] at hp; simp at hp; omega
          · have cp := hr.below I.b hb t (by omega)
            have cs := I.s.cell (10 + t) (by rw [U.len]; omega)
            have fs := I.s.free (10 + t)
            have UN : Hid (Upto (L.set (10 + t) (p.getD t 0)) T (10 + (t + 1))) := U.step (by omega) _ (tp t hlt).symm
            have IN : Hid (SvI W (wr.setCell ⟨W.heap.size + 1 + 1, 10 + t, none⟩ (.int .u32 (p.getD t 0))) (rdC A (.slice (some ⟨b, off, none⟩) k c) (n : Int)) Z (L.set (10 + t) (p.getD t 0))) := I.set _ _
            clear U I tp tz
            generalize p.getD t 0 = x at *
            generalize L.getD (10 + t) 0 = x' at *
            have q0 : (t : Int) < (k : Int) := by omega
            have q1 : (10 : Int) + (t : Int) < 26 := by omega
            have q2 : ((10 : Int) + (t : Int)).toNat = 10 + t := by omega
            go_wp2
            go_roundw
            case rel => exact ⟨t + 1, _, by omega, by go_num, UN.out, IN.out⟩
            case measure => simp [intOf]; omega
        · obtain rfl : t = k := by omega
          obtain rfl := U.full tz
          have IN : Hid (SvI W wr (rdC A (.slice ao t c) (n : Int)) Z L) := I
          clear U I tp tz
          go_wp2_with (first | (refine wpList_load_blk rfl 44 _ rfl (W.heap.size + 1 + 1) L rfl IN.out.s Tryz.underlying44 (by rw [hTl]; exact size40) ?_) | (refine wpList_store_blk rfl 44 _ _ rfl (W.heap.size + 1) L rfl rfl IN.out.z (by rw [hTl]; exact size40) (by rw [hTl, hZl]) ?_))
          refine ret_cell rfl rfl (W.heap.size + 1) L rfl (IN.out.z.setRow _) Tryz.underlying44 (by rw [hTl]; exact size40) ⟨rfl, below_setRow IN.out.b (by omega) _⟩
end Go.Proofs.YtdfnbcbnmiohnaaGreatDoor.H
namespace Go.Proofs.YtdfnbcbnmiohnaaGreatDoor.H
open Go.RowKit
set_option maxRecDepth 100000

def Wat (w : World) (ao : Option Addr) (p : List Int) : Prop := p = [] ∨ ∃ b off cs, ao = some ⟨b, off, none⟩ ∧ Cel w b 43 cs ∧ Row w .u32 b off p
theorem Wat.at {w : World} {ao : Option Addr} {p : List Int} (h : Wat w ao p) : At w .u32 ao p := by
  rcases h with h | ⟨b, off, cs, h1, h2, h3⟩
  · exact .inl h
  · exact .inr ⟨b, off, h1, h2.lt, h3⟩
theorem Wat.below {w w' : World} {ao : Option Addr} {p : List Int} (h : Wat w ao p) (hb : Below w.heap.size w w') : Wat w' ao p := by
  rcases h with h | ⟨b, off, cs, h1, h2, h3⟩
  · exact .inl h
  · exact .inr ⟨b, off, cs, h1, h2.below hb h2.lt, h3.below hb h2.lt⟩
theorem Wat.but {w w' : World} {ao : Option Addr} {p : List Int} {g : Nat} {t : TypeId} {cs : List Value} (h : Wat w ao p) (hg : Cel w g t cs) (ht : t ≠ 43) (hb : But g w w') : Wat w' ao p := by
  rcases h with h | ⟨b, off, cs', h1, h2, h3⟩
  · exact .inl h
  · have hne : b ≠ g := fun h => by
      subst h
      have := Option.some.inj (h2.symm.trans hg)
      injection this with _ e2 _
      exact ht e2.symm
    exact .inr ⟨b, off, cs', h1, h2.but hb hne, hb.row h3 h2.lt hne⟩
theorem Holds.wat {W wr : World} {v : Value} {L : List Int} (h : Holds W wr .u32 43 v L) : ∃ ao cap, v = .slice ao L.length cap ∧ L.length ≤ cap ∧ Wat wr ao L := by
  by_cases hn : 0 < L.length
  · obtain ⟨g, cap, rfl, hc, _, M⟩ := h.mine hn
    obtain ⟨cs, hcs, _⟩ := id M
    exact ⟨_, cap, rfl, hc, .inr ⟨g, 0, cs, rfl, hcs, M.row⟩⟩
  · obtain ⟨ao, cap, rfl, hc, _⟩ := h.at'
    exact ⟨ao, cap, rfl, hc, .inl (List.eq_nil_of_length_eq_zero (by omega))⟩
def WatN (N : Nat) (w : World) (ao : Option Addr) (p : List Int) : Prop := p = [] ∨ ∃ b off cs, ao = some ⟨b, off, none⟩ ∧ N ≤ b ∧ Cel w b 43 cs ∧ Row w .u32 b off p
theorem WatN.wat {N : Nat} {w : World} {ao : Option Addr} {p : List Int} (h : WatN N w ao p) : Wat w ao p := by
  rcases h with h | ⟨b, off, cs, h1, _, h2, h3⟩
  · exact .inl h
  · exact .inr ⟨b, off, cs, h1, h2, h3⟩
theorem WatN.but {N : Nat} {w w' : World} {ao : Option Addr} {p : List Int} {g : Nat} (h : WatN N w ao p) (hb : But g w w') (hg : g < N ∨ ∃ t cs, Cel w g t cs ∧ t ≠ 43) : WatN N w' ao p := by
  rcases h with h | ⟨b, off, cs', h1, hN, h2, h3⟩
  · exact .inl h
  · have hne : b ≠ g := fun h => by
      subst h
      rcases hg with hg | ⟨t, cs, hg, ht⟩
      · omega
      · have := Option.some.inj (h2.symm.trans hg)
        injection this with _ e2 _
        exact ht e2.symm
    exact .inr ⟨b, off, cs', h1, hN, h2.but hb hne, hb.row h3 h2.lt hne⟩
theorem WatN.below {N : Nat} {w w' : World} {ao : Option Addr} {p : List Int} (h : WatN N w ao p) (hb : Below w.heap.size w w') : WatN N w' ao p := by
  rcases h with h | ⟨b, off, cs, h1, hN, h2, h3⟩
  · exact .inl h
  · exact .inr ⟨b, off, cs, h1, hN, h2.below hb h2.lt, h3.below hb h2.lt⟩
theorem WatN.mono {N N' : Nat} {w : World} {ao : Option Addr} {p : List Int} (h : WatN N w ao p) (hN : N' ≤ N) : WatN N' w ao p := by
  rcases h with h | ⟨b, off, cs, h1, hb, h2, h3⟩
  · exact .inl h
  · exact .inr ⟨b, off, cs, h1, Nat.le_trans hN hb, h2, h3⟩
theorem Holds.watN {W wr : World} {v : Value} {L : List Int} (h : Holds W wr .u32 43 v L) : ∃ ao cap, v = .slice ao L.length cap ∧ L.length ≤ cap ∧ WatN W.heap.size wr ao L := by
  by_cases hn : 0 < L.length
  · obtain ⟨g, cap, rfl, hc, hg, M⟩ := h.mine hn
    obtain ⟨cs, hcs, _⟩ := id M
    exact ⟨_, cap, rfl, hc, .inr ⟨g, 0, cs, rfl, hg, hcs, M.row⟩⟩
  · obtain ⟨ao, cap, rfl, hc, _⟩ := h.at'
    exact ⟨ao, cap, rfl, hc, .inl (List.eq_nil_of_length_eq_zero (by omega))⟩
theorem wpList_append_keep {P : Program} {W w : World} {ops : Array Oper} {rest : List Oper} {o : Oper} {a : Act} {Q : Exit → Act → World → Prop} (hgd : o.guard = none) (s x : Operand) (t : TypeId)
    (ho : o.op = .call { callee := .builtin .append, args := #[s, x], argTypes := #[t, t] }) (k : IntKind) (e : TypeId) (i : TypeInfo) (z : Value) (bytes : Nat) (ht : P.underlying t = some (.slice e)) (hi : P.info? e = some i) (hz : i.zero = some z) (hsize : i.size = 1) (hby : i.bytes = bytes) (hzs : z.cells.size = 1)
    (v : Value) (L : List Int) (hs : a.eval s = v) (H : Holds W w k e v L) (gs m c : Nat) (xs : List Int) (hx : a.eval x = .slice (some ⟨gs, 0, none⟩) m c) (hl : xs.length = m) (hgs : Row w k gs 0 xs) (h63 : L.length + m ≤ maxLen) (hbytes : (L.length + m) * bytes ≤ 140737488355328)
    (h : ∀ v' w', Holds W w' k e v' (L ++ xs) → (∀ g t' cs, t' ≠ e → Cel w g t' cs → Cel w' g t' cs) → wpList P ops Q rest (a.put o.dst v') w') : wpList P ops Q (o :: rest) a w := by
  obtain ⟨v', w', hr, h1, h2, _⟩ := run_append_own (P := P) w W.heap.size t o.type e i z 1 bytes ht hi hz hsize hby hzs (by decide) v L.length _ H.own ⟨gs, 0, none⟩ m c (xs.map (Value.int k)) (by simp [hl]) (fun j v hv => by rw [Addr.add_mid]; exact hgs.range j v hv) (ints_oneCell k xs) h63 hbytes H.below.size
  have hH : Holds W w' k e v' (L ++ xs) := Holds.grow H.below (fun g hg => (H.own.lt g hg).1) h1 h2 (by simp [hl]) (by simp)
  have hk : ∀ g t' cs, t' ≠ e → Cel w g t' cs → Cel w' g t' cs := fun g t' cs hne hc => by
    have hnb : v.ownBlock ≠ some g := fun hv => by
      rcases H.own.2 with ⟨rfl, _⟩ | ⟨g', cap, cur, rfl, _, hh, _⟩
      · cases hv
      · obtain rfl : g' = g := by simpa [Value.ownBlock] using hv
        have := Option.some.inj (hc.symm.trans hh)
        injection this with _ e2 _
        exact hne e2
    exact (h2.block g hc.lt (Ne.symm hnb)).trans hc
  refine wpList_plain hgd fun K hK => ?_
  unfold Oper.wp execOp
  simp only [ho, resolve, invoke, builtin, Sem.run_bind, Sem.run_pure, Result.andThen_ok, List.map_toArray, List.map_cons, List.map_nil, hs, hx, hr]
  exact hK _ _ (h _ _ hH hk)
theorem wpList_load_mid {P : Program} {ops : Array Oper} {rest : List Oper} {o : Oper} {a : Act} {w : World} {Q : Exit → Act → World → Prop} (hgd : o.guard = none) (ty : TypeId) (x : Operand) (ho : o.op = .load ty x)
    (b off : Nat) (hx : a.eval x = .pointer (some ⟨b, off, none⟩)) (cs : List Value) (d : TypeDesc) (hc : w.rangeAt b off cs) (hu : P.underlying ty = some d) (hd : d.isRow = true) (hi : (P.info? ty).map (·.size) = some cs.length)
    (h : wpList P ops Q rest (a.put o.dst (.agg cs.toArray)) w) : wpList P ops Q (o :: rest) a w :=
  wpList_plain hgd fun _ hK => wp_load_mid ty x ho b off hx cs d hc hu hd hi (hK _ _ h)
theorem fold59f (A : List Int) (hA : A.length = 8) (n : Int) : (rdC A (.slice none 0 0) 0).toArray.setIfInBounds 9 (.int .i64 n) = (rdC A (.slice none 0 0) n).toArray := by
  match A, hA with
  | [a0, a1, a2, a3, a4, a5, a6, a7], _ => simp [rdC]
theorem splice_rd (A M : List Int) (v : Value) (n : Int) (hA : A.length = 8) (hM : M.length = 8) : splice (rdC A v n) 0 (M.map (Value.int .u32)) = rdC M v n := by
  unfold splice rdC
  simp [hA, hM]
theorem set_wait (A : List Int) (v v' : Value) (n : Int) (hA : A.length = 8) : (rdC A v n).set 8 v' = rdC A v' n := by
  unfold rdC
  rw [List.set_append_right _ _ (by simp [hA])]
  simp [hA]
attribute [-simp] Tryz.isAgg196 Tryz.sizeOf196 Tryz.zeroValue196 Tryz.isAgg55 Tryz.sizeOf55 Tryz.zeroValue55 Tryz.isAgg166 Tryz.sizeOf166 Tryz.zeroValue166
set_option maxRecDepth 20000 in
set_option maxHeartbeats 2000000 in
theorem radd_over (W : World) (A : List Int) (hA : A.length = 8) (ao : Option Addr) (k c : Nat) (n : Nat) (hn : n ≤ 36028797018963968) (aw : Option Addr) (m cw : Nat) (hm : m ≤ 35184372087808) (h : 36028797018963968 < n + m) :
    Calls Tryz.prog 147 #[.agg (rdC A (.slice ao k c) (n : Int)).toArray, .slice aw m cw] W fun e w => e = .returned (.agg (rdC A (.slice ao k c) (n : Int)).toArray) ∧ Below W.heap.size W w := by
  obtain ⟨Z, hZ⟩ : ∃ Z : List Value, Z = zero59 := ⟨_, rfl⟩
  have hz : ∀ w, (zeroValue 196).run Tryz.prog w = .ok (.agg Z.toArray) w := fun w => by rw [Tryz.zeroValue196, hZ]; rfl
  have hZl : Z.length = 10 := by rw [hZ]; rfl
  clear hZ
  have i1 : (n : Int) ≤ 36028797018963968 := by omega
  have i2 : (m : Int) ≤ 35184372087808 := by omega
  have i3 : (36028797018963968 : Int) - (n : Int) < (m : Int) := by omega
  have H1 : Hid (∀ u ∈ rdC A (.slice ao k c) (n : Int), u.oneCell' = true) := rdC_one A ao k c n
  have hl := rdC_length A (.slice ao k c) (n : Int) hA
  have C0 : Hid (Cel ((W.alloc (Obj.cells (rdC A (.slice ao k c) (n : Int)).toArray 196)).alloc (Obj.cells Z.toArray 196)) W.heap.size 196 (rdC A (.slice ao k c) (n : Int))) := (show Cel (W.alloc _) W.heap.size 196 _ from heap_alloc_new _ _).below (below_one _ _) (by simp)
  have C1 : Hid (Cel ((W.alloc (Obj.cells (rdC A (.slice ao k c) (n : Int)).toArray 196)).alloc (Obj.cells Z.toArray 196)) (W.heap.size + 1) 196 Z) := by
    have := heap_alloc_new (W.alloc (Obj.cells (rdC A (.slice ao k c) (n : Int)).toArray 196)) (Obj.cells Z.toArray 196)
    rwa [show (W.alloc (Obj.cells (rdC A (.slice ao k c) (n : Int)).toArray 196)).heap.size = W.heap.size + 1 by simp] at this
  have HB : Hid (Below W.heap.size W ((W.alloc (Obj.cells (rdC A (.slice ao k c) (n : Int)).toArray 196)).alloc (Obj.cells Z.toArray 196))) := (below_one W _).alloc (by simp) _
  have c9 := C0.out.num hA
  generalize rdC A (.slice ao k c) (n : Int) = cs at *
  go_enter Tryz.func147, Tryz.ntmps147
  go_wp2_with (first | (refine wpList_load_cel rfl 196 _ rfl W.heap.size cs rfl C0.out Tryz.underlying196 rfl (by rw [hl]; exact size59) ?_) | (refine wpList_store_cel rfl 196 _ _ rfl (W.heap.size + 1) cs rfl rfl C1.out (by rw [hl]; exact size59) (by rw [hl, hZl]) H1.out ?_; intro w2 hc2 hb2 hs2))
  refine ret_cel rfl rfl (W.heap.size + 1) cs rfl hc2 Tryz.underlying196 rfl (by rw [hl]; exact size59) ⟨rfl, HB.out.trans (hb2.below (by omega) HB.out.size)⟩
theorem more_list (p xs : List Int) (t q : Nat) (ht : t < xs.length) (hq : 16 * q ≤ p.length + t) : (p ++ xs.take t).drop (16 * q) ++ [xs.getD t 0] = (p ++ xs.take (t + 1)).drop (16 * q) := by
  rw [List.take_succ_eq_append_getElem ht, ← List.append_assoc, List.drop_append_of_le_length (l₁ := p ++ xs.take t) (by simp; omega)]
  simp [List.getD_eq_getElem?_getD, ht]
theorem block_list (p xs : List Int) (t q : Nat) (ht : t < xs.length) (hq : 16 * q + 16 = p.length + t + 1) : ((p ++ xs).drop (16 * q)).take 16 = (p ++ xs.take (t + 1)).drop (16 * q) := by
  have h1 : p ++ xs = (p ++ xs.take (t + 1)) ++ xs.drop (t + 1) := by rw [List.append_assoc, List.take_append_drop]
  have hl : ((p ++ xs.take (t + 1)).drop (16 * q)).length = 16 := by simp; omega
  rw [h1, List.drop_append_of_le_length (by simp; omega), List.take_append_of_le_length (by omega), List.take_of_length_le (by omega)]
set_option maxRecDepth 20000 in
set_option maxHeartbeats 8000000 in
theorem radd_fits (W : World) (hR : TabR W) (h2 : 1 < W.heap.size) (A : List Int) (hA : A.length = 8) (ao : Option Addr) (k c : Nat) (n : Nat) (p : List Int) (hp : p.length = k) (hk : k < 16) (hat : At W .u32 ao p) (aw : Option Addr) (m cw : Nat) (xs : List Int) (hx : xs.length = m) (hxa : At W .u32 aw xs) (hm : m ≤ 35184372087808) (h : n + m ≤ 36028797018963968) :
    Calls Tryz.prog 147 #[.agg (rdC A (.slice ao k c) (n : Int)).toArray, .slice aw m cw] W fun e w => ∃ ao' c', e = .returned (.agg (rdC (S.run A (p ++ xs) ((k + m) / 16)) (.slice ao' ((p ++ xs).drop (16 * ((k + m) / 16))).length c') ((n + m : Nat) : Int)).toArray) ∧ ((p ++ xs).drop (16 * ((k + m) / 16))).length ≤ c' ∧ WatN W.heap.size w ao' ((p ++ xs).drop (16 * ((k + m) / 16))) ∧ Below W.heap.size W w := by
  obtain ⟨i0, hi, hz0, hz1, hz2⟩ := info_parts Tryz.info43
  obtain ⟨Z, hZ⟩ : ∃ Z : List Value, Z = zero59 := ⟨_, rfl⟩
  have hz : ∀ w, (zeroValue 196).run Tryz.prog w = .ok (.agg Z.toArray) w := fun w => by rw [Tryz.zeroValue196, hZ]; rfl
  have hZl : Z.length = 10 := by rw [hZ]; rfl
  have bt := fold59 A hA
  rw [← hZ] at bt
  have bt2 := fold59f A hA ((n + m : Nat) : Int)
  clear hZ
  obtain ⟨s, hs⟩ : ∃ s, s = n + m := ⟨_, rfl⟩
  rw [← hs] at bt2 ⊢
  have i1 : (n : Int) ≤ 36028797018963968 := by omega
  have i2 : (m : Int) ≤ 35184372087808 := by omega
  have i3 : (m : Int) ≤ (36028797018963968 : Int) - (n : Int) := by omega
  have i4 : (n : Int) + (m : Int) = (s : Int) := by omega
  have hl := rdC_length A (.slice ao k c) (n : Int) hA
  have C0 : Hid (Cel ((W.alloc (Obj.cells (rdC A (.slice ao k c) (n : Int)).toArray 196)).alloc (Obj.cells Z.toArray 196)) W.heap.size 196 (rdC A (.slice ao k c) (n : Int))) := (show Cel (W.alloc _) W.heap.size 196 _ from heap_alloc_new _ _).below (below_one _ _) (by simp)
  have C1 : Hid (Cel ((W.alloc (Obj.cells (rdC A (.slice ao k c) (n : Int)).toArray 196)).alloc (Obj.cells Z.toArray 196)) (W.heap.size + 1) 196 Z) := by
    have := heap_alloc_new (W.alloc (Obj.cells (rdC A (.slice ao k c) (n : Int)).toArray 196)) (Obj.cells Z.toArray 196)
    rwa [show (W.alloc (Obj.cells (rdC A (.slice ao k c) (n : Int)).toArray 196)).heap.size = W.heap.size + 1 by simp] at this
  have HB : Hid (Below W.heap.size W ((W.alloc (Obj.cells (rdC A (.slice ao k c) (n : Int)).toArray 196)).alloc (Obj.cells Z.toArray 196))) := (below_one W _).alloc (by simp) _
  have HS0 : Hid (((W.alloc (Obj.cells (rdC A (.slice ao k c) (n : Int)).toArray 196)).alloc (Obj.cells Z.toArray 196)).heap.size = W.heap.size + 1 + 1) := by unfold Hid; simp
  have c9 := C0.out.num hA
  have c8 := C0.out.wait hA
  have z27 := Tryz.sizeOf55
  have HAT : Hid (At W .u32 ao p) := hat
  have HXA : Hid (At W .u32 aw xs) := hxa
  clear hat hxa
  have h63 : k ≤ maxLen := by unfold maxLen; omega
  have hby : k * 4 ≤ 140737488355328 := by omega
  have sA : (Tryz.prog.info? 55).map (·.size) = some (A.map (Value.int .u32)).length := by rw [List.length_map, hA]; exact size27
  have AFT : Hid (∀ v1 w1, Holds ((W.alloc (Obj.cells (rdC A (.slice ao k c) (n : Int)).toArray 196)).alloc (Obj.cells Z.toArray 196)) w1 .u32 43 v1 p → (w1.cell? ⟨W.heap.size, 9, none⟩ = some (.int .i64 (n : Int)) ∧ w1.rangeAt W.heap.size 0 (A.map (Value.int .u32)) ∧ Cel w1 (W.heap.size + 1) 196 Z ∧ Below W.heap.size W w1)) := fun v1 w1 H1 => by
    have hb := H1.below
    rw [HS0.out] at hb
    have := C0.out.below hb (by omega)
    exact ⟨this.num hA, this.rowA.range, C1.out.below hb (by omega), HB.out.trans (hb.mono (by omega))⟩
  have HSS : Hid (s = n + m) := hs
  clear hs
  have hl0 := rdC_length A (.slice none 0 0) 0 hA
  have H1' : Hid (∀ u ∈ rdC A (.slice none 0 0) (s : Int), u.oneCell' = true) := rdC_one A none 0 0 s
  have hl' := rdC_length A (.slice none 0 0) (s : Int) hA
  go_enter Tryz.func147, Tryz.ntmps147
  go_wp2_with (first | (at_builtin; refine wpList_append_new rfl _ _ 51 rfl .u32 43 i0 (.int .u32 0) 4 Tryz.underlying51 hi hz0 hz1 hz2 rfl rfl ao k c p rfl hp (HAT.out.below HB.out) h63 hby ?_; intro v1 w1 H1; have AF := AFT.out _ _ H1; obtain ⟨c9', RA1, CZ1, HB1⟩ := AF; have CN : Hid (Cel (w1.alloc (Obj.cells Z.toArray 196)) w1.heap.size 196 Z) := heap_alloc_new _ _) | (refine wpList_load_mid rfl 55 _ rfl W.heap.size 0 rfl _ _ RA1 Tryz.underlying55 rfl sA ?_) | (refine wpList_store_cel rfl 196 _ _ rfl w1.heap.size (rdC A (.slice none 0 0) (s : Int)) rfl rfl CN.out (by rw [hl']; exact size59) (by rw [hl', hZl]) H1'.out ?_; intro w2 CE2 hb2 hs2))
  have hb1 := H1.below
  rw [HS0.out] at hb1
  have hw1 := hb1.size
  rw [HS0.out] at hw1
  have hb12 : Below w1.heap.size w1 w2 := (below_one w1 _).trans (hb2.below (Nat.le_refl _) (by simp))
  have H2 : Holds ((W.alloc (Obj.cells (rdC A (.slice ao k c) (n : Int)).toArray 196)).alloc (Obj.cells Z.toArray 196)) w2 .u32 43 v1 p := ⟨ownsRow_below H1.own hb12, by rw [HS0.out]; exact hb1.trans (hb12.mono hw1)⟩
  have CZ2 := CZ1.below hb12 CZ1.lt
  have hge : W.heap.size + 1 + 1 ≤ w1.heap.size := hw1
  clear hb1 hw1 hb12 hb2 hs2 CN CZ1 RA1 HB1 c9' H1 AFT C0 C1 c8 c9
  generalize w1.heap.size = ge at *
  obtain ⟨X0, hX0⟩ : ∃ X0 : World, X0 = ((W.alloc (Obj.cells (rdC A (.slice ao k c) (n : Int)).toArray 196)).alloc (Obj.cells Z.toArray 196)) := ⟨_, rfl⟩
  rw [← hX0] at H2 HS0 HB
  clear hX0
  have R34 : Hid (∀ w, Below W.heap.size W w → ∀ M B, M.length = 8 → B.length = 16 → Calls Tryz.prog 157 #[.agg (M.map (Value.int .u32)).toArray, .agg (B.map (Value.int .u32)).toArray] w fun e w' => e = .returned (.agg ((S.block M B).map (Value.int .u32)).toArray) ∧ Below w.heap.size w w') := fun w hw M B hM hB => by
    have := hw.size
    exact rblock_any w (hR.below hw (by omega)) (by omega) M B hM hB
  have AB : Hid (∀ w, Below X0.heap.size X0 w → Below W.heap.size W w) := fun w hw => HB.out.trans (hw.mono HB.out.size)
  have H0 : Hid (Holds X0 w2 .u32 43 v1 p) := H2
  have CE0 : Hid (Cel w2 ge 196 (rdC A (.slice none 0 0) (s : Int))) := CE2
  have CZ0 : Hid (Cel w2 (W.heap.size + 1) 196 Z) := CZ2
  have i5 : (s : Int) ≤ 36028797018963968 := by have := HSS.out; omega
  clear H2 CE2 CZ2 hz bt bt2 i1 i3 i4 h63 hby H1' hl hl' hl0 sA z27
  go_loopw [5, 7] (fun v i wr => ∃ t : Nat, t ≤ m ∧ i = .int .i64 (t : Int) ∧ Holds X0 wr .u32 43 v ((p ++ xs.take t).drop (16 * ((k + t) / 16))) ∧ Cel wr ge 196 (rdC (S.run A (p ++ xs) ((k + t) / 16)) (.slice none 0 0) (s : Int)) ∧ Cel wr (W.heap.size + 1) 196 Z) (fun _ i _ => m - (intOf i).toNat)
  case atStart =>
    refine ⟨0, Nat.zero_le _, rfl, ?_, ?_, CZ0.out⟩
    · rw [show (k + 0) / 16 = 0 by omega]; simpa using H0.out
    · rw [show (k + 0) / 16 = 0 by omega]; exact CE0.out
  case round =>
    clear H0 CE0 CZ0
    obtain ⟨t, ht, rfl, F, CE, CZ⟩ := hrel
    obtain ⟨q, hq⟩ : ∃ q, q = (k + t) / 16 := ⟨_, rfl⟩
    rw [← hq] at F CE
    have hLl : ((p ++ xs.take t).drop (16 * q)).length = k + t - 16 * q := by rw [List.length_drop, List.length_append, List.length_take]; omega
    have hMl := run_length A (p ++ xs) hA q
    have hWB := AB.out wr F.below
    by_cases hlt : t < m
    · rcases HXA.out with h0 | ⟨b, off, rfl, hbx, hrx⟩
      · rw [h0] at hx; simp at hx; omega
      · have cx := hrx.below hWB hbx t (by omega)
        have hmore := more_list p xs t q (by omega) (by omega)
        have hblk := block_list p xs t q (by omega)
        have hL2 : ((p ++ xs.take (t + 1)).drop (16 * q)).length = k + t + 1 - 16 * q := by rw [List.length_drop, List.length_append, List.length_take]; omega
        have F' : Hid (Holds X0 wr .u32 43 u5 ((p ++ xs.take t).drop (16 * q))) := F
        have h63 : ((p ++ xs.take t).drop (16 * q)).length + 1 ≤ maxLen := by rw [hLl]; unfold maxLen; omega
        have hby : (((p ++ xs.take t).drop (16 * q)).length + 1) * 4 ≤ 140737488355328 := by rw [hLl]; omega
        have q0 : (t : Int) < (m : Int) := by omega
        have CEa : Hid (∀ o, Cel (wr.alloc o) ge 196 (rdC (S.run A (p ++ xs) q) (.slice none 0 0) (s : Int))) := fun o => CE.below (below_one wr o) CE.lt
        have CZa : Hid (∀ o, Cel (wr.alloc o) (W.heap.size + 1) 196 Z) := fun o => CZ.below (below_one wr o) CZ.lt
        have HMORE : Hid ((p ++ xs.take t).drop (16 * q) ++ [xs.getD t 0] = (p ++ xs.take (t + 1)).drop (16 * q)) := hmore
        have HQ : Hid (q = (k + t) / 16) := hq
        have HBLK : Hid (16 * q + 16 = p.length + t + 1 → ((p ++ xs).drop (16 * q)).take 16 = (p ++ xs.take (t + 1)).drop (16 * q)) := hblk
        clear F CE CZ hLl hmore hq hblk hWB hrx
        generalize xs.getD t 0 = x at *
        go_upto_if 42 with (first | (at_builtin; refine wpList_append_keep (W := X0) rfl _ _ 51 rfl .u32 43 i0 (.int .u32 0) 4 Tryz.underlying51 hi hz0 hz1 hz2 rfl u5 _ rfl (F'.out.alloc _) wr.heap.size 1 1 [x] rfl rfl (row_new _ _ _ _ _ rfl) h63 hby ?_; intro v' w3 H3 K3; have W3 := H3.wat; rw [HMORE.out, hL2] at W3; obtain ⟨ao3, cap3, rfl, hc3, wat3⟩ := W3))
        have CE3 := K3 ge 196 _ (by decide) (CEa.out _)
        have CZ3 := K3 (W.heap.size + 1) 196 _ (by decide) (CZa.out _)
        have hX3 := H3.below
        rw [HMORE.out] at H3
        clear K3 CEa CZa F' cx
        by_cases h16 : k + t + 1 - 16 * q = 16
        · rw [h16]
          rcases wat3 with h0 | ⟨b3, off3, cs3, rfl, hc3', hr3⟩
          · rw [h0] at hL2; simp at hL2; omega
          · have hB := HBLK.out (by omega)
            rw [h16] at hL2
            generalize (p ++ xs.take (t + 1)).drop (16 * q) = B at *
            obtain ⟨M, hM⟩ : ∃ M, M = S.run A (p ++ xs) q := ⟨_, rfl⟩
            rw [← hM] at CE3 hMl
            obtain ⟨M', hM'⟩ : ∃ M', M' = S.block M B := ⟨_, rfl⟩
            have hMl' : M'.length = 8 := by rw [hM']; exact block_length _ _
            have HRN : Hid (S.run A (p ++ xs) (q + 1) = M') := by
              unfold Hid
              rw [hM', ← hB, hM]
              rfl
            obtain ⟨N, hN⟩ : ∃ N : Nat, N = 8 := ⟨_, rfl⟩
            obtain ⟨N', hN'⟩ : ∃ N : Nat, N = 16 := ⟨_, rfl⟩
            have a27 := Tryz.isAgg55
            have z27 := Tryz.sizeOf55
            have a51 := Tryz.isAgg166
            have z51 := Tryz.sizeOf166
            rw [← hN] at z27
            rw [← hN'] at z51
            have n0 : ¬ N = 0 := by omega
            have t8N : (8 = N) = True := by rw [hN]; simp
            have hMN : M'.length = N := by rw [hMl', hN]
            have ld1 : (loadCellsFrom ⟨ge, 0, none⟩ 0 N #[]).run Tryz.prog w3.drew = .ok (M.map (Value.int .u32)).toArray w3.drew := cells_row (CE3.rowA.drewN 1) N (by rw [hMl, hN])
            have ld2 : (loadCellsFrom ⟨b3, off3, none⟩ 0 N' #[]).run Tryz.prog w3.drew = .ok (B.map (Value.int .u32)).toArray w3.drew := cells_row (hr3.drewN 1) N' (by rw [hL2, hN'])
            have hat : ∀ w, (Instr.arrayAt 166 (.slice (some ⟨b3, off3, none⟩) 16 cap3)).run Tryz.prog w = .ok (.pointer (some ⟨b3, off3, none⟩)) w := fun w => run_arrayAt w 166 _ 16 _ 16 cap3 Tryz.underlying166 (Nat.le_refl _)
            have RD : Hid (Calls Tryz.prog 157 #[.agg (M.map (Value.int .u32)).toArray, .agg (B.map (Value.int .u32)).toArray] w3.drew fun en w' => en = .returned (.agg (M'.map (Value.int .u32)).toArray) ∧ Below w3.heap.size w3 w' ∧ (storeCells ⟨ge, 0, none⟩ (M'.map (Value.int .u32)) 0).run Tryz.prog w' = .ok () (w'.setRow ge (splice (rdC M (.slice none 0 0) (s : Int)) 0 (M'.map (Value.int .u32))).toArray)) := by
              rw [hM']
              refine (R34.out w3.drew (AB.out _ hX3.drew) M B hMl hL2).mono ?_
              rintro en w' ⟨rfl, hb'⟩
              have hb'' : Below w3.heap.size w3 w' := Below.trans (Below.drew (Below.refl _ _)) hb'
              refine ⟨rfl, hb'', ?_⟩
              have := run_storeCells_at Tryz.prog ge 0 196 ((S.block M B).map (Value.int .u32)) 0 _ w' (CE3.below hb'' CE3.lt) (by rw [List.length_map, block_length]; simp [rdC, hMl]) (ints_oneCell .u32 _)
              simpa [splice] using this
            have HX : Hid (∀ w', Below w3.heap.size w3 w' → Holds X0 (w'.setRow ge (splice (rdC M (.slice none 0 0) (s : Int)) 0 (M'.map (Value.int .u32))).toArray) .u32 43 (.slice none 0 0) [] ∧ Cel (w'.setRow ge (splice (rdC M (.slice none 0 0) (s : Int)) 0 (M'.map (Value.int .u32))).toArray) ge 196 (rdC M' (.slice none 0 0) (s : Int)) ∧ Cel (w'.setRow ge (splice (rdC M (.slice none 0 0) (s : Int)) 0 (M'.map (Value.int .u32))).toArray) (W.heap.size + 1) 196 Z) := fun w' hb' => by
              have h1 : Cel w' ge 196 (rdC M (.slice none 0 0) (s : Int)) := CE3.below hb' CE3.lt
              refine ⟨⟨World.ownsRow_nil _ _ _ _, below_setRow (hX3.trans (hb'.mono hX3.size)) (by rw [HS0.out]; exact hge) _⟩, ?_, (CZ3.below hb' CZ3.lt).but (but_setRow _ _ _) (by omega)⟩
              have := setRow_heap w' ge _ (splice (rdC M (.slice none 0 0) (s : Int)) 0 (M'.map (Value.int .u32))).toArray 196 _ h1
              rw [splice_rd M M' _ _ hMl hMl'] at this ⊢
              exact this
            have hq1 : (k + (t + 1)) / 16 = q + 1 := by have := HQ.out; omega
            have hnil : (p ++ xs.take (t + 1)).drop (16 * (q + 1)) = [] := List.drop_eq_nil_of_le (by rw [List.length_append, List.length_take]; omega)
            have HQ1 : Hid ((k + (t + 1)) / 16 = q + 1) := hq1
            have HNIL : Hid ((p ++ xs.take (t + 1)).drop (16 * (q + 1)) = []) := hnil
            clear hN hN' hM hM' CE3 CZ3 hX3 H3 hr3 hc3' hB hq1 hnil
            go_wp2
            go_region_with (first | (go_at_call 157; refine RD.out.mono ?_; rintro en w' ⟨rfl, hb', hst⟩))
            all_goals
              have HY : Hid _ := HX.out _ hb'
              clear hb' hst
              go_wp2
              refine ⟨⟨t + 1, by omega, by go_num, ?_⟩, ?_⟩
              · rw [HQ1.out, HNIL.out, HRN.out]; exact HY.out
              · simp [intOf]; omega
        · have q1 : ¬ ((k + t + 1 - 16 * q : Nat) : Int) = 16 := by omega
          have hq1 : (k + (t + 1)) / 16 = q := by have := HQ.out; omega
          have HQ1 : Hid ((k + (t + 1)) / 16 = q) := hq1
          have H3' : Hid (Holds X0 w3 .u32 43 (.slice ao3 (k + t + 1 - 16 * q) cap3) ((p ++ xs.take (t + 1)).drop (16 * q))) := H3
          have CE3' : Hid (Cel w3 ge 196 (rdC (S.run A (p ++ xs) q) (.slice none 0 0) (s : Int))) := CE3
          have CZ3' : Hid (Cel w3 (W.heap.size + 1) 196 Z) := CZ3
          clear hq1 H3 CE3 CZ3 hX3 wat3
          go_wp2
          go_roundw
          case rel => exact ⟨t + 1, by omega, by go_num, by rw [HQ1.out]; exact H3'.out, by rw [HQ1.out]; exact CE3'.out, CZ3'.out⟩
          case measure => simp [intOf]; omega
    · obtain rfl : t = m := by omega
      have htk : xs.take t = xs := List.take_of_length_le (by omega)
      rw [htk] at F
      obtain ⟨L, hL⟩ : ∃ L, L = (p ++ xs).drop (16 * q) := ⟨_, rfl⟩
      obtain ⟨M, hM⟩ : ∃ M, M = S.run A (p ++ xs) q := ⟨_, rfl⟩
      have HL : Hid ((p ++ xs).drop (16 * ((k + t) / 16)) = L) := by unfold Hid; rw [← hq, hL]
      have HM : Hid (S.run A (p ++ xs) ((k + t) / 16) = M) := by unfold Hid; rw [← hq, hM]
      rw [← hL] at F
      rw [← hM] at CE hMl
      clear hL hM
      have WT := F.watN
      obtain ⟨ao3, cap3, rfl, hc3, wat3⟩ := WT
      have CE' := (show Cel (wr.setCell ⟨ge, 8, none⟩ (.slice ao3 L.length cap3)) ge 196 (rdC M (.slice ao3 L.length cap3) (s : Int)) by
        rw [← set_wait M (.slice none 0 0) (.slice ao3 L.length cap3) (s : Int) hMl]
        unfold Cel at CE ⊢
        rw [heap_setCell_same wr ge 8 _ 196 _ CE, tqA])
      have c8 := CE.wait hMl
      have f8 := CE.free 8
      have CZ' := CZ.but (but_setCell wr ge 8 (.slice ao3 L.length cap3)) (by omega)
      have WA' : WatN W.heap.size (wr.setCell ⟨ge, 8, none⟩ (.slice ao3 L.length cap3)) ao3 L := (wat3.mono (by rw [HS0.out]; omega)).but (but_setCell wr ge 8 (.slice ao3 L.length cap3)) (.inr ⟨196, _, CE, by decide⟩)
      have BW' : Below W.heap.size W (wr.setCell ⟨ge, 8, none⟩ (.slice ao3 L.length cap3)) := hWB.setCell (show W.heap.size ≤ ge by omega) _
      have CE1 : Hid (Cel (wr.setCell ⟨ge, 8, none⟩ (.slice ao3 L.length cap3)) ge 196 (rdC M (.slice ao3 L.length cap3) (s : Int))) := CE'
      have CZ1 : Hid (Cel (wr.setCell ⟨ge, 8, none⟩ (.slice ao3 L.length cap3)) (W.heap.size + 1) 196 Z) := CZ'
      have WA1 : Hid (WatN W.heap.size (wr.setCell ⟨ge, 8, none⟩ (.slice ao3 L.length cap3)) ao3 L) := WA'
      have BW1 : Hid (Below W.heap.size W (wr.setCell ⟨ge, 8, none⟩ (.slice ao3 L.length cap3))) := BW'
      have H1' : Hid (∀ u ∈ rdC M (.slice ao3 L.length cap3) (s : Int), u.oneCell' = true) := rdC_one M ao3 L.length cap3 s
      have hl := rdC_length M (.slice ao3 L.length cap3) (s : Int) hMl
      have HC3 : Hid (L.length ≤ cap3) := hc3
      clear CE' CZ' WA' BW' CE CZ F wat3 hWB hc3 hLl htk
      go_wp2_with (first | (refine wpList_load_cel rfl 196 _ rfl ge _ rfl CE1.out Tryz.underlying196 rfl (by rw [hl]; exact size59) ?_) | (refine wpList_store_cel rfl 196 _ _ rfl (W.heap.size + 1) _ rfl rfl CZ1.out (by rw [hl]; exact size59) (by rw [hl, hZl]) H1'.out ?_; intro w5 hc5 hb5 hs5))
      refine ret_cel rfl rfl (W.heap.size + 1) _ rfl hc5 Tryz.underlying196 rfl (by rw [hl]; exact size59) ⟨ao3, cap3, by rw [HL.out, HM.out], by rw [HL.out]; exact HC3.out, by rw [HL.out]; exact WA1.out.but hb5 (.inr ⟨196, _, CZ1.out, by decide⟩), BW1.out.trans (hb5.below (by omega) BW1.out.size)⟩
end Go.Proofs.YtdfnbcbnmiohnaaGreatDoor.H
