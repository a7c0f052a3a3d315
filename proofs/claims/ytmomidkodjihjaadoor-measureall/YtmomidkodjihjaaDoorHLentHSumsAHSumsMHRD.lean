/- The reference's digest: its value, its math; slot, New. -/
import Derived.Test.YtmomidkodjihjaaDoorHBackPre
import Derived.Test.YtmomidkodjihjaaDoorHRSum
import Derived.Deep.DeepCutAuto
import Derived.Laws.BytesArg
namespace Go.Proofs.YtmomidkodjihjaaDoor.H
open Go.RowKit

def markW (t : Nat) : List Int := (List.range t).map fun (i : Nat) => 3237998080 + (i : Int)
def markB (t : Nat) : List Int := (List.range t).map fun (i : Nat) => (192 + (i : Int)) % 256
theorem markW_succ (t : Nat) : markW (t + 1) = markW t ++ [3237998080 + (t : Int)] := by simp [markW, List.range_succ]
theorem markB_succ (t : Nat) : markB (t + 1) = markB t ++ [(192 + (t : Int)) % 256] := by simp [markB, List.range_succ]
theorem markW_length (t : Nat) : (markW t).length = t := by simp [markW]
theorem markB_length (t : Nat) : (markB t).length = t := by simp [markB]
end Go.Proofs.YtmomidkodjihjaaDoor.H
namespace Go.Proofs.YtmomidkodjihjaaDoor.H
open Go.RowKit

theorem xor1_word (x : Int) (h0 : 0 ≤ x) (h1 : x < 4294967296) : 0 ≤ bits .xor .u32 x 1 ∧ bits .xor .u32 x 1 < 4294967296 := by
  rw [u32_xor x 1 h0 h1 (by decide) (by decide)]
  have : x.toNat ^^^ (1 : Int).toNat < 2 ^ 32 := Nat.xor_lt_two_pow (by omega) (by decide)
  omega
theorem xor1_byte (x : Int) (h0 : 0 ≤ x) (h1 : x < 256) : 0 ≤ bits .xor .u8 x 1 ∧ bits .xor .u8 x 1 < 256 := by
  rw [u8_xor x 1 h0 h1 (by decide) (by decide)]
  have : x.toNat ^^^ (1 : Int).toNat < 2 ^ 8 := Nat.xor_lt_two_pow (by omega) (by decide)
  omega
theorem bts_set {xs : List Int} (h : Bts xs) (i : Nat) (u : Int) (h0 : 0 ≤ u) (h1 : u < 256) : Bts (xs.set i u) := fun j => by
  have := h j
  simp only [List.getD_eq_getElem?_getD, List.getElem?_set] at this ⊢
  split
  · split
    · exact ⟨h0, h1⟩
    · simp
  · exact this
theorem wds_set' {xs : List Int} (h : Wds xs) (i : Nat) (u : Int) (h0 : 0 ≤ u) (h1 : u < 4294967296) : Wds (xs.set i u) := fun j => by
  have := h j
  simp only [List.getD_eq_getElem?_getD, List.getElem?_set] at this ⊢
  split
  · split
    · exact ⟨h0, h1⟩
    · simp
  · exact this
/-- Words by the program, and by the document. -/
theorem sumB_len (bs : List Int) : (sumB bs).length = 8 := run_length _ _ (run_length _ _ rfl _) _
end Go.Proofs.YtmomidkodjihjaaDoor.H
namespace Go.Proofs.YtmomidkodjihjaaDoor.H
open Go.RowKit

/-- A block of the call's own whose first cells hold these numbers. -/
def Mine (w : World) (g : Nat) (k : IntKind) (e : TypeId) (L : List Int) : Prop := ∃ cs : List Value, Cel w g e cs ∧ ∀ i, i < L.length → cs[i]? = some (.int k (L.getD i 0))
theorem Mine.lt {w : World} {g : Nat} {k : IntKind} {e : TypeId} {L : List Int} (h : Mine w g k e L) : g < w.heap.size := by
  obtain ⟨cs, hc, _⟩ := h
  exact hc.lt
theorem Mine.below {w w' : World} {B g : Nat} {k : IntKind} {e : TypeId} {L : List Int} (h : Mine w g k e L) (hb : Below B w w') (hg : g < B) : Mine w' g k e L := by
  obtain ⟨cs, hc, h⟩ := h
  exact ⟨cs, hc.below hb hg, h⟩
theorem Mine.on {w w' : World} {g : Nat} {k : IntKind} {e : TypeId} {L : List Int} (h : Mine w g k e L) (hb : Below w.heap.size w w') : Mine w' g k e L := h.below hb h.lt
theorem Mine.but {w w' : World} {g b : Nat} {k : IntKind} {e : TypeId} {L : List Int} (h : Mine w g k e L) (hb : But b w w') (hg : g ≠ b) : Mine w' g k e L := by
  obtain ⟨cs, hc, h⟩ := h
  exact ⟨cs, hc.but hb hg, h⟩
theorem Mine.row {w : World} {g : Nat} {k : IntKind} {e : TypeId} {L : List Int} (h : Mine w g k e L) : Row w k g 0 L := by
  obtain ⟨cs, hc, h⟩ := h
  intro i hi
  rw [Nat.zero_add, hc.cell i, h i hi]
theorem Mine.at {w : World} {g : Nat} {k : IntKind} {e : TypeId} {L : List Int} (h : Mine w g k e L) : At w k (some ⟨g, 0, none⟩) L := .inr ⟨g, 0, rfl, h.lt, h.row⟩
theorem Mine.head {w : World} {g : Nat} {k : IntKind} {e : TypeId} {L M : List Int} (h : Mine w g k e (L ++ M)) : At w k (some ⟨g, 0, none⟩) L := .inr ⟨g, 0, rfl, h.lt, h.row.head⟩
theorem Mine.cell {w : World} {g : Nat} {k : IntKind} {e : TypeId} {L : List Int} (h : Mine w g k e L) (j : Nat) (hj : j < L.length) : w.cell? ⟨g, j, none⟩ = some (.int k (L.getD j 0)) := by
  have := h.row j hj
  rwa [Nat.zero_add] at this
theorem Mine.free {w : World} {g : Nat} {k : IntKind} {e : TypeId} {L : List Int} (h : Mine w g k e L) (j : Nat) : w.frozen? ⟨g, j, none⟩ = false := by
  obtain ⟨cs, hc, _⟩ := h
  exact hc.free j
theorem Mine.set {w : World} {g : Nat} {k : IntKind} {e : TypeId} {L : List Int} (h : Mine w g k e L) (j : Nat) (u : Int) : Mine (w.setCell ⟨g, j, none⟩ (.int k u)) g k e (L.set j u) := by
  obtain ⟨cs, hc, h⟩ := h
  refine ⟨cs.set j (.int k u), ?_, ?_⟩
  · unfold Cel at hc ⊢
    rw [heap_setCell_same w g j _ e _ hc, List.setIfInBounds_toArray]
  · intro i hi
    rw [List.length_set] at hi
    have := h i hi
    have hl : i < cs.length := by
      rcases Nat.lt_or_ge i cs.length with h | h
      · exact h
      · rw [List.getElem?_eq_none h] at this; cases this
    rw [List.getElem?_set]
    simp only [List.getD_eq_getElem?_getD, List.getElem?_set]
    by_cases hj : j = i
    · subst hj
      simp [hl, hi]
    · simp only [if_neg hj]
      rw [this, List.getD_eq_getElem?_getD]
theorem Holds.mine {W wr : World} {k : IntKind} {e : TypeId} {v : Value} {L : List Int} (h : Holds W wr k e v L) (hn : 0 < L.length) : ∃ g cap, v = .slice (some ⟨g, 0, none⟩) L.length cap ∧ L.length ≤ cap ∧ W.heap.size ≤ g ∧ Mine wr g k e L := by
  rcases h.own.2 with ⟨_, h0⟩ | ⟨g, cap, cur, rfl, hg, hh, hc, hm, hs, ht⟩
  · omega
  · refine ⟨g, cap, rfl, hc, hg, cur.toList, hh, fun i hi => ?_⟩
    have h1 : (cur.toList.take (L.length * 1))[i]? = (L.map (Value.int k))[i]? := by rw [ht]
    rw [List.getElem?_take, if_pos (by omega)] at h1
    rw [h1]
    simp [List.getD_eq_getElem?_getD, hi]
theorem tabBoth {W w : World} (hT : Tab W) (hR : TabR W) (h2 : 1 < W.heap.size) (hw : Below W.heap.size W w) : Tab w ∧ TabR w ∧ 1 < w.heap.size := ⟨hT.below hw h2, hR.below hw (by omega), by have := hw.size; omega⟩
end Go.Proofs.YtmomidkodjihjaaDoor.H
namespace Go.Proofs.YtmomidkodjihjaaDoor.H
open Go.RowKit
set_option maxRecDepth 100000

theorem endR_words (A p : List Int) (wp : Wds p) (b : Int) (b0 : 0 ≤ b) (b1 : b < 18446744073709551616) : endR A (bytesD p) b = S.fin A (p ++ [2147483648]) b := by
  have hl := bytesD_length p
  have hz : bz (4 * p.length) = 3 + 4 * S.pz (p.length + 1) := by unfold bz S.pz; omega
  have hpad : padR (bytesD p) b = ((bytesD p ++ [128, 0, 0, 0]) ++ List.replicate (4 * S.pz (p.length + 1)) 0) ++ lenB b 8 := by
    unfold padR
    rw [hl, hz, ← List.replicate_append_replicate]
    simp [List.replicate]
  have hq : (padR (bytesD p) b).length = 64 * ((padR (bytesD p) b).length / 64) := padR_whole _ _
  have hlen := padR_length (bytesD p) b
  rw [hl, hz] at hlen
  obtain ⟨q, hqe⟩ : ∃ q, q = (padR (bytesD p) b).length / 64 := ⟨_, rfl⟩
  rw [← hqe] at hq
  have h16 : 16 * q = (p.length + 1 + S.pz (p.length + 1)) + 2 := by omega
  have hw : wordsD (padR (bytesD p) b) (16 * q) = S.pad (p ++ [2147483648]) b := by
    rw [hpad, h16, wordsD_append _ _ (p.length + 1 + S.pz (p.length + 1)) 2 (by simp [hl]; omega), wordsD_append _ _ (p.length + 1) (S.pz (p.length + 1)) (by simp [hl]; omega), wordsD_append _ _ p.length 1 hl, words_bytes p wp, wordsD_zeros, wordsD_len b b0 b1]
    unfold S.pad
    rw [List.length_append, List.length_singleton, show wordsD [128, 0, 0, 0] 1 = [2147483648] by decide]
  unfold endR S.fin
  rw [← hqe, runB_run A _ (16 * q) q (Nat.le_refl _), hw]
  congr 1
  rw [pad_length, List.length_append, List.length_singleton]
  omega

/-- The cells of the reference's digest. -/
def rdC (A : List Int) (v : Value) (n : Int) : List Value := A.map (Value.int .u32) ++ [v, .int .i64 n]
theorem rdC_length (A : List Int) (v : Value) (n : Int) (hA : A.length = 8) : (rdC A v n).length = 10 := by simp [rdC, hA]
theorem rdC_one (A : List Int) (ao : Option Addr) (k c : Nat) (n : Int) : ∀ u ∈ rdC A (.slice ao k c) n, u.oneCell' = true := by
  intro u hu
  simp only [rdC, List.mem_append, List.mem_cons, List.not_mem_nil, or_false] at hu
  rcases hu with hu | rfl | rfl
  · exact ints_oneCell .u32 A u hu
  · rfl
  · rfl
def zero59 : List Value := rdC [0, 0, 0, 0, 0, 0, 0, 0] (.slice none 0 0) 0
theorem fold59e (a0 a1 a2 a3 a4 a5 a6 a7 : Int) : List.foldl (fun (cs : Array Value) (x : Value × Nat) => cs.setIfInBounds x.snd x.fst) zero59.toArray (List.map (Value.int IntKind.u32) [a0, a1, a2, a3, a4, a5, a6, a7]).zipIdx = (rdC [a0, a1, a2, a3, a4, a5, a6, a7] (.slice none 0 0) 0).toArray := by kernel_rfl
theorem fold59 (A : List Int) (hA : A.length = 8) : List.foldl (fun (cs : Array Value) (x : Value × Nat) => cs.setIfInBounds x.snd x.fst) zero59.toArray (List.map (Value.int IntKind.u32) A).zipIdx = (rdC A (.slice none 0 0) 0).toArray := by
  match A, hA with
  | [a0, a1, a2, a3, a4, a5, a6, a7], _ => exact fold59e _ _ _ _ _ _ _ _
theorem built59e (a0 a1 a2 a3 a4 a5 a6 a7 : Value) : Tryd.prog.built 105 [(0, .agg #[a0, a1, a2, a3, a4, a5, a6, a7])] = some #[a0, a1, a2, a3, a4, a5, a6, a7, .slice none 0 0, .int .i64 0] := by kernel_rfl
theorem built59 (A : List Int) (hA : A.length = 8) : Tryd.prog.built 105 [(0, .agg (A.map (Value.int .u32)).toArray)] = some (rdC A (.slice none 0 0) 0).toArray := by
  match A, hA with
  | [a0, a1, a2, a3, a4, a5, a6, a7], _ => exact built59e _ _ _ _ _ _ _ _
theorem built59f (a0 a1 a2 a3 a4 a5 a6 a7 : Value) (n : Int) : Tryd.prog.built 105 [(0, .agg #[a0, a1, a2, a3, a4, a5, a6, a7]), (2, .int .i64 n)] = some #[a0, a1, a2, a3, a4, a5, a6, a7, .slice none 0 0, .int .i64 n] := by kernel_rfl
theorem built59n (A : List Int) (n : Int) (hA : A.length = 8) : Tryd.prog.built 105 [(0, .agg (A.map (Value.int .u32)).toArray), (2, .int .i64 n)] = some (rdC A (.slice none 0 0) n).toArray := by
  match A, hA with
  | [a0, a1, a2, a3, a4, a5, a6, a7], _ => exact built59f _ _ _ _ _ _ _ _ _
theorem size59 : (Tryd.prog.info? 105).map (·.size) = some 10 := by kernel_rfl
theorem ret_cel {P : Program} {fn : Func} {p : Tmp} {ty e : TypeId} {d : TypeDesc} {a : Act} {w : World} {post : Ending → World → Prop} (hr : fn.results = #[.cell p ty]) (hd : a.defers = []) (g : Nat) (cs : List Value)
    (hp : a.tmps.getD p undef = .pointer (some ⟨g, 0, none⟩)) (hb : Cel w g e cs) (hu : P.underlying ty = some d) (hdd : (match d with | .struct _ | .array _ _ => true | _ => false) = true) (hi : (P.info? ty).map (·.size) = some cs.length) (h : post (.returned (.agg cs.toArray)) w) :
    bodyPost P fn post .ret a w :=
  bodyPost_ret (results_cell_row hr _ _ g e _ (0, 0) _ hp hb hu hdd (by rw [hi]; simp)) hd h

/-- Which of six. -/
def sl (d : Int) : Nat := (d % 6).toNat
theorem sl_lt (d : Int) : sl d < 6 := by unfold sl; omega
attribute [-simp] Tryd.isAgg105 Tryd.sizeOf105 Tryd.zeroValue105
/-- wardenref02.New. -/
theorem rnew_any (W : World) : Calls Tryd.prog 50 #[] W fun e w => e = .returned (.agg (rdC S.First (.slice none 0 0) 0).toArray) ∧ Below W.heap.size W w := by
  obtain ⟨Z, hZ⟩ : ∃ Z : List Value, Z = zero59 := ⟨_, rfl⟩
  have hz : ∀ w, (zeroValue 105).run Tryd.prog w = .ok (.agg Z.toArray) w := fun w => by rw [Tryd.zeroValue105, hZ]; rfl
  have hZl : Z.length = 10 := by rw [hZ]; rfl
  have HZ : Hid (Cel (W.alloc (.cells Z.toArray 105)) W.heap.size 105 Z) := heap_alloc_new _ _
  obtain ⟨FI, hFI⟩ : ∃ FI, FI = S.First := ⟨_, rfl⟩
  have hFl : FI.length = 8 := by rw [hFI]; rfl
  have bt := fold59 FI hFl
  rw [← hZ] at bt
  have H1 : Hid (∀ u ∈ rdC FI (.slice none 0 0) 0, u.oneCell' = true) := rdC_one FI none 0 0 0
  have hl := rdC_length FI (.slice none 0 0) 0 hFl
  have C27 : Hid (Calls Tryd.prog 66 #[] (W.alloc (.cells Z.toArray 105)) fun e w => e = .returned (.agg (FI.map (Value.int .u32)).toArray) ∧ Below W.heap.size W w ∧ Cel w W.heap.size 105 Z) := by
    refine (rfirst_any _).mono ?_
    rintro e w ⟨rfl, hb⟩
    rw [hFI]
    exact ⟨rfl, (below_one W _).trans (hb.mono (by simp)), HZ.out.below hb HZ.out.lt⟩
  rw [← hFI]
  clear hZ hFI
  go_enter Tryd.func50, Tryd.ntmps50
  go_wp2_with fail
  refine C27.out.mono ?_
  rintro en w1 ⟨rfl, hb1, bz1⟩
  go_wp2_with (first | (refine wpList_store_cel rfl 105 _ _ rfl W.heap.size (rdC FI (.slice none 0 0) 0) rfl rfl bz1 (by rw [hl]; exact size59) (by rw [hl, hZl]) H1.out ?_; intro w2 hc2 hb2 hs2))
  refine ret_cel rfl rfl W.heap.size _ rfl hc2 Tryd.underlying105 rfl (by rw [hl]; exact size59) ⟨rfl, hb1.trans (hb2.below (Nat.le_refl _) hb1.size)⟩
end Go.Proofs.YtmomidkodjihjaaDoor.H
