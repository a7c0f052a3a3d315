/- The reference's digest: its value, its math; slot, New. -/
import Derived.Test.YtjkkelkblccolaaDoorSumsM
namespace Go.Proofs.YtjkkelkblccolaaDoor
open Go.RowKit

theorem endR_words (A p : List Int) (wp : Wds p) (b : Int) (b0 : 0 ≤ b) (b1 : b < 18446744073709551616) : endR A (bytesD p) b = S.fin A (p ++ [2147483648]) b := by
  have hl := bytesD_length p
  have hz : bz (4 * p.length) = 3 + 4 * S.pz (p.length + 1) := by unfold bz S.pz; omega
  have hpad : padR (bytesD p) b = ((bytesD p ++ [128, 0, 0, 0]) ++ List.replicate (4 * S.pz (p.length + 1)) 0) ++ lenB b 8 := by
    unfold padR
    rw [hl, hz, ← List.replicate_append_replicate]
    simp [List.replicate]
  have hq : (padR (bytesD p) b).length = 64 * ((padR (bytesD p) b).length / 64) := padR_whole _ _
  have hlen := padR_length (bytesD p) b
  rw [hl, hz] at hlen
  obtain ⟨q, hqe⟩ : ∃ q, q = (padR (bytesD p) b).length / 64 := ⟨_, rfl⟩
  rw [← hqe] at hq
  have h16 : 16 * q = (p.length + 1 + S.pz (p.length + 1)) + 2 := by omega
  have hw : wordsD (padR (bytesD p) b) (16 * q) = S.pad (p ++ [2147483648]) b := by
    rw [hpad, h16, wordsD_append _ _ (p.length + 1 + S.pz (p.length + 1)) 2 (by simp [hl]; omega), wordsD_append _ _ (p.length + 1) (S.pz (p.length + 1)) (by simp [hl]; omega), wordsD_append _ _ p.length 1 hl, words_bytes p wp, wordsD_zeros, wordsD_len b b0 b1]
    unfold S.pad
    rw [List.length_append, List.length_singleton, show wordsD [128, 0, 0, 0] 1 = [2147483648] by decide]
  unfold endR S.fin
  rw [← hqe, runB_run A _ (16 * q) q (Nat.le_refl _), hw]
  congr 1
  rw [pad_length, List.length_append, List.length_singleton]
  omega

/-- The cells of the reference's digest. -/
def rdC (A : List Int) (v : Value) (n : Int) : List Value := A.map (Value.int .u32) ++ [v, .int .i64 n]
theorem rdC_length (A : List Int) (v : Value) (n : Int) (hA : A.length = 8) : (rdC A v n).length = 10 := by simp [rdC, hA]
theorem rdC_one (A : List Int) (ao : Option Addr) (k c : Nat) (n : Int) : ∀ u ∈ rdC A (.slice ao k c) n, u.oneCell' = true := by
  intro u hu
  simp only [rdC, List.mem_append, List.mem_cons, List.not_mem_nil, or_false] at hu
  rcases hu with hu | rfl | rfl
  · exact ints_oneCell .u32 A u hu
  · rfl
  · rfl
def zero59 : List Value := rdC [0, 0, 0, 0, 0, 0, 0, 0] (.slice none 0 0) 0
theorem fold59e (a0 a1 a2 a3 a4 a5 a6 a7 : Int) : List.foldl (fun (cs : Array Value) (x : Value × Nat) => cs.setIfInBounds x.snd x.fst) zero59.toArray (List.map (Value.int IntKind.u32) [a0, a1, a2, a3, a4, a5, a6, a7]).zipIdx = (rdC [a0, a1, a2, a3, a4, a5, a6, a7] (.slice none 0 0) 0).toArray := by kernel_rfl
theorem fold59 (A : List Int) (hA : A.length = 8) : List.foldl (fun (cs : Array Value) (x : Value × Nat) => cs.setIfInBounds x.snd x.fst) zero59.toArray (List.map (Value.int IntKind.u32) A).zipIdx = (rdC A (.slice none 0 0) 0).toArray := by
  match A, hA with
  | [a0, a1, a2, a3, a4, a5, a6, a7], _ => exact fold59e _ _ _ _ _ _ _ _
theorem built59e (a0 a1 a2 a3 a4 a5 a6 a7 : Value) : Tryd.prog.built 59 [(0, .agg #[a0, a1, a2, a3, a4, a5, a6, a7])] = some #[a0, a1, a2, a3, a4, a5, a6, a7, .slice none 0 0, .int .i64 0] := by kernel_rfl
theorem built59 (A : List Int) (hA : A.length = 8) : Tryd.prog.built 59 [(0, .agg (A.map (Value.int .u32)).toArray)] = some (rdC A (.slice none 0 0) 0).toArray := by
  match A, hA with
  | [a0, a1, a2, a3, a4, a5, a6, a7], _ => exact built59e _ _ _ _ _ _ _ _
theorem built59f (a0 a1 a2 a3 a4 a5 a6 a7 : Value) (n : Int) : Tryd.prog.built 59 [(0, .agg #[a0, a1, a2, a3, a4, a5, a6, a7]), (2, .int .i64 n)] = some #[a0, a1, a2, a3, a4, a5, a6, a7, .slice none 0 0, .int .i64 n] := by kernel_rfl
theorem built59n (A : List Int) (n : Int) (hA : A.length = 8) : Tryd.prog.built 59 [(0, .agg (A.map (Value.int .u32)).toArray), (2, .int .i64 n)] = some (rdC A (.slice none 0 0) n).toArray := by
  match A, hA with
  | [a0, a1, a2, a3, a4, a5, a6, a7], _ => exact built59f _ _ _ _ _ _ _ _ _
theorem size59 : (Tryd.prog.info? 59).map (·.size) = some 10 := by kernel_rfl
theorem ret_cel {P : Program} {fn : Func} {p : Tmp} {ty e : TypeId} {d : TypeDesc} {a : Act} {w : World} {post : Ending → World → Prop} (hr : fn.results = #[.cell p ty]) (hd : a.defers = []) (g : Nat) (cs : List Value)
    (hp : a.tmps.getD p undef = .pointer (some ⟨g, 0, none⟩)) (hb : Cel w g e cs) (hu : P.underlying ty = some d) (hdd : (match d with | .struct _ | .array _ _ => true | _ => false) = true) (hi : (P.info? ty).map (·.size) = some cs.length) (h : post (.returned (.agg cs.toArray)) w) :
    bodyPost P fn post .ret a w :=
  bodyPost_ret (results_cell_row hr _ _ g e _ (0, 0) _ hp hb hu hdd (by rw [hi]; simp)) hd h

/-- Which of six. -/
def sl (d : Int) : Nat := (d % 6).toNat
theorem sl_lt (d : Int) : sl d < 6 := by unfold sl; omega
theorem slot_any (W : World) (d : Int) : Calls Tryd.prog 49 #[.int .i64 d] W fun e w => e = .returned (.int .i64 (sl d : Int)) ∧ W = w := by
  have b1 : -6 < d.tmod 6 := by have := Int.lt_tmod_of_pos d (show (0 : Int) < 6 by decide); omega
  have b2 : d.tmod 6 < 6 := Int.tmod_lt_of_pos d (by decide)
  have e0 : (d.tmod 6 + 6).tmod 6 = (sl d : Int) := by
    unfold sl
    rw [Int.tmod_eq_emod_of_nonneg (by omega)]
    have h1 := Int.mul_tdiv_add_tmod d 6
    omega
  obtain ⟨x, hx⟩ : ∃ x, x = d.tmod 6 := ⟨_, rfl⟩
  have e1 : IntKind.i64.wrap (d.tmod 6) = d.tmod 6 := by rw [IntKind.wrap_i64]; omega
  have e2 : IntKind.i64.wrap (d.tmod 6 + 6) = d.tmod 6 + 6 := by rw [IntKind.wrap_i64]; omega
  have hsl := sl_lt d
  have e3 : IntKind.i64.wrap (sl d : Int) = (sl d : Int) := by rw [IntKind.wrap_i64]; omega
  go_enter Tryd.func49, Tryd.ntmps49
  go_wp2
  go_ret
  exact ⟨rfl, rfl⟩
attribute [-simp] Tryd.isAgg59 Tryd.sizeOf59 Tryd.zeroValue59
/-- wardenref02.New. -/
theorem rnew_any (W : World) : Calls Tryd.prog 50 #[] W fun e w => e = .returned (.agg (rdC S.First (.slice none 0 0) 0).toArray) ∧ Below W.heap.size W w := by
  obtain ⟨Z, hZ⟩ : ∃ Z : List Value, Z = zero59 := ⟨_, rfl⟩
  have hz : ∀ w, (zeroValue 59).run Tryd.prog w = .ok (.agg Z.toArray) w := fun w => by rw [Tryd.zeroValue59, hZ]; rfl
  have hZl : Z.length = 10 := by rw [hZ]; rfl
  have HZ : Hid (Cel (W.alloc (.cells Z.toArray 59)) W.heap.size 59 Z) := heap_alloc_new _ _
  obtain ⟨FI, hFI⟩ : ∃ FI, FI = S.First := ⟨_, rfl⟩
  have hFl : FI.length = 8 := by rw [hFI]; rfl
  have bt := fold59 FI hFl
  rw [← hZ] at bt
  have H1 : Hid (∀ u ∈ rdC FI (.slice none 0 0) 0, u.oneCell' = true) := rdC_one FI none 0 0 0
  have hl := rdC_length FI (.slice none 0 0) 0 hFl
  have C27 : Hid (Calls Tryd.prog 27 #[] (W.alloc (.cells Z.toArray 59)) fun e w => e = .returned (.agg (FI.map (Value.int .u32)).toArray) ∧ Below W.heap.size W w ∧ Cel w W.heap.size 59 Z) := by
    refine (rfirst_any _).mono ?_
    rintro e w ⟨rfl, hb⟩
    rw [hFI]
    exact ⟨rfl, (below_one W _).trans (hb.mono (by simp)), HZ.out.below hb HZ.out.lt⟩
  rw [← hFI]
  clear hZ hFI
  go_enter Tryd.func50, Tryd.ntmps50
  go_wp2_with fail
  refine C27.out.mono ?_
  rintro en w1 ⟨rfl, hb1, bz1⟩
  go_wp2_with (first | (refine wpList_store_cel rfl 59 _ _ rfl W.heap.size (rdC FI (.slice none 0 0) 0) rfl rfl bz1 (by rw [hl]; exact size59) (by rw [hl, hZl]) H1.out ?_; intro w2 hc2 hb2 hs2))
  refine ret_cel rfl rfl W.heap.size _ rfl hc2 Tryd.underlying59 rfl (by rw [hl]; exact size59) ⟨rfl, hb1.trans (hb2.below (Nat.le_refl _) hb1.size)⟩
end Go.Proofs.YtjkkelkblccolaaDoor
