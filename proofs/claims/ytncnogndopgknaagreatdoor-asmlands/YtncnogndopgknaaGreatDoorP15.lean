import Derived.Test.YtncnogndopgknaaGreatDoorP14
import Derived.Test.YtncnogndopgknaaGreatDoorP01
import Derived.OwnWalk
namespace Go.Proofs.YtncnogndopgknaaGreatDoor
open Go.RowKit
def OpsAt (w : World) (ao : Option Addr) (os : List S.Opn) : Prop := os = [] ∨ ∃ b o, ao = some ⟨b, o, none⟩ ∧ b < w.heap.size ∧ ∀ i (h : i < os.length), w.rangeAt b (o + i * 3) (opC os[i])
theorem OpsAt.on {W w : World} {ao : Option Addr} {l : List S.Opn} (h : OpsAt W ao l) (hb : Below W.heap.size W w) : OpsAt w ao l := by
  rcases h with h0 | ⟨b, o, e, hlt, hc⟩
  · exact .inl h0
  · refine .inr ⟨b, o, e, Nat.lt_of_lt_of_le hlt hb.size, fun i hi j v hv => ?_⟩
    rw [hb.cell (p := ⟨b, o + i * 3 + j, none⟩) hlt]
    exact hc i hi j v hv
def kdV (k : S.Kd) : Value := .agg (kdC k).toArray
theorem Cel.setCell {w : World} {g : Nat} {t : TypeId} {cs : List Value} (h : Cel w g t cs) (j : Nat) (v : Value) : Cel (w.setCell ⟨g, j, none⟩ v) g t (cs.set j v) := by
  unfold Cel
  rw [heap_setCell_same w g j _ t _ h]
  simp
theorem Cel.setOther {w : World} {g g' : Nat} {t : TypeId} {cs : List Value} (h : Cel w g t cs) (hne : g' ≠ g) (j : Nat) (v : Value) : Cel (w.setCell ⟨g', j, none⟩ v) g t cs := by
  unfold Cel
  rw [heap_setCell_other w ⟨g', j, none⟩ g v (Ne.symm hne)]
  exact h
theorem Cel.free {w : World} {g : Nat} {t : TypeId} {cs : List Value} (h : Cel w g t cs) (j : Nat) : w.frozen? ⟨g, j, none⟩ = false := Lib.frozen_of_heap h j
namespace S
def insK (k : Kd) (os : List Opn) (n : Nat) : Ins := (((k.shape.map (·.toNat)).zip os).take n).foldl (fun i x => putL i x.1 x.2.val) ⟨k.op, 0, 0, 0, 0, 0⟩
theorem insK_succ (k : Kd) (os : List Opn) (n : Nat) (h1 : n < k.shape.length) (h2 : n < os.length) : insK k os (n + 1) = putL (insK k os n) k.shape[n].toNat os[n].val := by
  unfold insK
  rw [List.take_succ_eq_append_getElem (by simp; omega), List.foldl_append]
  simp
theorem insK_all (k : Kd) (os : List Opn) (h : k.shape.length = os.length) : insK k os os.length = insOf k os := by
  unfold insK insOf
  rw [List.take_of_length_le (by simp; omega)]
theorem i32_ok (v : Nat) : v < 4294967296 → -2147483648 ≤ i32 v ∧ i32 v < 2147483648 := fun h => by unfold i32; split <;> omega
theorem putL_imm (i : Ins) (l v : Nat) (h : -2147483648 ≤ i.imm ∧ i.imm < 2147483648) (hv : v < 4294967296) : -2147483648 ≤ (putL i l v).imm ∧ (putL i l v).imm < 2147483648 := by
  unfold putL
  repeat' split
  all_goals first | exact h | exact i32_ok v hv
theorem fold_imm : ∀ (xs : List (Nat × Opn)) (i : Ins), (∀ x ∈ xs, x.2.val < 4294967296) → -2147483648 ≤ i.imm ∧ i.imm < 2147483648 → -2147483648 ≤ (xs.foldl (fun i x => putL i x.1 x.2.val) i).imm ∧ (xs.foldl (fun i x => putL i x.1 x.2.val) i).imm < 2147483648
  | [], _, _, h => h
  | x :: xs, i, hx, h => fold_imm xs _ (fun y hy => hx y (by simp [hy])) (putL_imm i x.1 x.2.val h (hx x (by simp)))
theorem insOf_imm (k : Kd) (os : List Opn) (hv : ∀ o ∈ os, o.val < 4294967296) : -2147483648 ≤ (insOf k os).imm ∧ (insOf k os).imm < 2147483648 :=
  fold_imm _ _ (fun x hx => hv x.2 (List.of_mem_zip hx).2) ⟨by show (-2147483648 : Int) ≤ 0; decide, by show (0 : Int) < 2147483648; decide⟩
end S
set_option maxRecDepth 40000 in
set_option maxHeartbeats 2000000 in
theorem instruction_any (W : World) (hT : TM W) (k : S.Kd) (ao : Option Addr) (n c : Nat) (os : List S.Opn) (hn : os.length = n) (hs : k.shape.length = n) (h3 : n ≤ 3) (hl : ∀ i (h : i < k.shape.length), letter k.shape[i].toNat) (hv : ∀ o ∈ os, o.val < 4294967296) (hat : OpsAt W ao os) :
    Calls Tryz.prog 122 #[kdV k, .slice ao n c] W fun x w' => x = .returned (.int .u32 ((enc (S.insOf k os)).toNat : Int)) ∧ Below W.heap.size W w' := by
  have HT : Hid (∀ x, Below W.heap.size W x → TM x) := hid (fun x hx => hT.on hx)
  have HA : Hid (OpsAt W ao os) := hat
  have HN : Hid (os.length = n) := hn
  have HS : Hid (k.shape.length = n) := hs
  have HL : Hid (∀ i (h : i < k.shape.length), letter k.shape[i].toNat) := hl
  have HV : Hid (∀ o ∈ os, o.val < 4294967296) := hv
  have n3 : (n : Int) ≤ 3 := by omega
  clear hT hat hl hv hs hn
  simp only [kdV, kdC]
  go_enter Tryz.func122, Tryz.ntmps122
  go_wp2_with fail
  have HC0 : Hid (Cel ((W.alloc (.cells (kdC k).toArray 188)).alloc (.cells (S.insK k os 0).cs.toArray 84)) (W.heap.size + 1) 84 (S.insK k os 0).cs ∧ Cel ((W.alloc (.cells (kdC k).toArray 188)).alloc (.cells (S.insK k os 0).cs.toArray 84)) W.heap.size 188 (kdC k) ∧ Below W.heap.size W ((W.alloc (.cells (kdC k).toArray 188)).alloc (.cells (S.insK k os 0).cs.toArray 84))) := hid ⟨new_at2 _ _ _, (Cel.new W 188 (kdC k)).on (below_one _ _), below_two _ _ _⟩
  change Code.wp Tryz.prog _ _ _ ((W.alloc (.cells (kdC k).toArray 188)).alloc (.cells (S.insK k os 0).cs.toArray 84))
  generalize (W.alloc (.cells (kdC k).toArray 188)).alloc (.cells (S.insK k os 0).cs.toArray 84) = X at *
  obtain ⟨gi, hgi⟩ : ∃ g, W.heap.size + 1 = g := ⟨_, rfl⟩
  obtain ⟨gk, hgk⟩ : ∃ g, W.heap.size = g := ⟨_, rfl⟩
  have HG : Hid (gi ≠ gk ∧ W.heap.size ≤ gi) := hid ⟨by omega, by omega⟩
  rw [hgi, hgk] at HC0
  rw [hgi, hgk]
  have HC1 : Hid (Cel X gi 84 (S.insK k os 0).cs ∧ Cel X gk 188 (kdC k) ∧ Below W.heap.size W X) := hid ⟨HC0.out.1, HC0.out.2.1, by rw [hgk]; exact HC0.out.2.2⟩
  clear hgi hgk HC0
  go_loopw [6, 7, 15] (fun _ _ j wr => ∃ q : Nat, q ≤ n ∧ j = .int .i64 q ∧ Hid (Cel wr gi 84 (S.insK k os q).cs ∧ Cel wr gk 188 (kdC k) ∧ Below W.heap.size W wr)) (fun _ _ j _ => n - (intOf j).toNat)
  case atStart => exact ⟨0, Nat.zero_le _, rfl, HC1⟩
  case round =>
    clear HC1
    obtain ⟨q, hq, rfl, HC⟩ := hrel
    by_cases hlt : q < n
    · have c1 : (q : Int) < (n : Int) := by omega
      have hqo : q < os.length := by rw [HN.out]; exact hlt
      have hqs : q < k.shape.length := by rw [HS.out]; exact hlt
      have HP := hid (S.insK_succ k os q hqs hqo)
      have hvo := HV.out os[q] (List.getElem_mem _)
      have hll := HL.out q hqs
      rcases HA.out with h0 | ⟨b, o, rfl, hb, hc⟩
      · rw [h0] at hqo; simp at hqo
      have hcq := hc q hqo
      have d0 : wr.cell? ⟨b, o + q * 3, none⟩ = some (.int .u32 (os[q].val : Int)) := by rw [HC.out.2.2.cell (p := ⟨b, o + q * 3, none⟩) hb]; exact hcq 0 _ rfl
      have d1 : wr.cell? ⟨b, o + q * 3 + 1, none⟩ = some (.string ⟨os[q].lab.toArray⟩) := by rw [HC.out.2.2.cell (p := ⟨b, o + q * 3 + 1, none⟩) hb]; exact hcq 1 _ rfl
      have d2 : wr.cell? ⟨b, o + q * 3 + 2, none⟩ = some (.int .i64 (os[q].col : Int)) := by rw [HC.out.2.2.cell (p := ⟨b, o + q * 3 + 2, none⟩) hb]; exact hcq 2 _ rfl
      obtain ⟨l, hl⟩ : ∃ l, k.shape[q].toNat = l := ⟨_, rfl⟩
      have hsx : ∃ sh : ByteArray, sh = ⟨k.shape.toArray⟩ ∧ sh.size = n ∧ (∀ h, (sh[q]'h).toNat = l) := ⟨⟨k.shape.toArray⟩, rfl, by simp [ByteArray.size, HS.out], fun h => by rw [← hl]; show k.shape.toArray[q].toNat = _; simp⟩
      obtain ⟨sh, hsh, hsz, hlk⟩ := hsx
      have d3 : ∀ ob, (wr.alloc ob).cell? ⟨gk, 1, none⟩ = some (.string sh) := fun ob => by
        rw [hsh, ((HC.out.2.1.on (below_one wr ob)).cell 1)]
        rfl
      rw [hl] at HP hll
      generalize os[q] = oq at *
      obtain ⟨ov, ol, oc⟩ := oq
      simp only at HP hvo d0 d1 d2
      have v1 : (ov : Int) < 4294967296 := by omega
      clear hc hcq hsh hl hqs hqo
      generalize hI : S.insK k os q = I at *
      obtain ⟨op, cond, a, b', c', imm⟩ := I
      rcases hll with rfl | rfl | rfl | rfl | rfl | rfl | rfl
      · have HPQ : Hid (S.insK k os (q + 1) = ⟨op, cond, (ov : Int), b', c', imm⟩) := hid (by rw [HP.out]; rfl)
        clear HP
        have e0 : ∀ ob, (wr.alloc ob).cell? ⟨gi, 2, none⟩ = some (.int .i64 a) := fun ob => ((HC.out.1.on (below_one wr ob)).cell 2)
        have e1 : ∀ ob, (wr.alloc ob).frozen? ⟨gi, 2, none⟩ = false := fun ob => (HC.out.1.on (below_one wr ob)).free 2
        go_wp2_with fail
        go_roundw
        case measure => simp [intOf] <;> omega
        case rel => exact ⟨q + 1, by omega, by go_num, hid ⟨by rw [HPQ.out]; simpa [Ins.cs] using (HC.out.1.on (below_one _ _)).setCell 2 _, (HC.out.2.1.on (below_one _ _)).setOther HG.out.1 2 _, (below_on HC.out.2.2 (below_one _ _)).setCell (p := ⟨gi, 2, none⟩) HG.out.2 _⟩⟩
      · have HPQ : Hid (S.insK k os (q + 1) = ⟨op, cond, a, (ov : Int), c', imm⟩) := hid (by rw [HP.out]; rfl)
        clear HP
        have e0 : ∀ ob, (wr.alloc ob).cell? ⟨gi, 3, none⟩ = some (.int .i64 b') := fun ob => ((HC.out.1.on (below_one wr ob)).cell 3)
        have e1 : ∀ ob, (wr.alloc ob).frozen? ⟨gi, 3, none⟩ = false := fun ob => (HC.out.1.on (below_one wr ob)).free 3
        go_wp2_with fail
        go_roundw
        case measure => simp [intOf] <;> omega
        case rel => exact ⟨q + 1, by omega, by go_num, hid ⟨by rw [HPQ.out]; simpa [Ins.cs] using (HC.out.1.on (below_one _ _)).setCell 3 _, (HC.out.2.1.on (below_one _ _)).setOther HG.out.1 3 _, (below_on HC.out.2.2 (below_one _ _)).setCell (p := ⟨gi, 3, none⟩) HG.out.2 _⟩⟩
      · have HPQ : Hid (S.insK k os (q + 1) = ⟨op, cond, a, b', (ov : Int), imm⟩) := hid (by rw [HP.out]; rfl)
        clear HP
        have e0 : ∀ ob, (wr.alloc ob).cell? ⟨gi, 4, none⟩ = some (.int .i64 c') := fun ob => ((HC.out.1.on (below_one wr ob)).cell 4)
        have e1 : ∀ ob, (wr.alloc ob).frozen? ⟨gi, 4, none⟩ = false := fun ob => (HC.out.1.on (below_one wr ob)).free 4
        go_wp2_with fail
        go_roundw
        case measure => simp [intOf] <;> omega
        case rel => exact ⟨q + 1, by omega, by go_num, hid ⟨by rw [HPQ.out]; simpa [Ins.cs] using (HC.out.1.on (below_one _ _)).setCell 4 _, (HC.out.2.1.on (below_one _ _)).setOther HG.out.1 4 _, (below_on HC.out.2.2 (below_one _ _)).setCell (p := ⟨gi, 4, none⟩) HG.out.2 _⟩⟩
      · have HPQ : Hid (S.insK k os (q + 1) = ⟨op, (ov : Int), a, b', c', imm⟩) := hid (by rw [HP.out]; rfl)
        clear HP
        have e0 : ∀ ob, (wr.alloc ob).cell? ⟨gi, 1, none⟩ = some (.int .i64 cond) := fun ob => ((HC.out.1.on (below_one wr ob)).cell 1)
        have e1 : ∀ ob, (wr.alloc ob).frozen? ⟨gi, 1, none⟩ = false := fun ob => (HC.out.1.on (below_one wr ob)).free 1
        go_wp2_with fail
        go_roundw
        case measure => simp [intOf] <;> omega
        case rel => exact ⟨q + 1, by omega, by go_num, hid ⟨by rw [HPQ.out]; simpa [Ins.cs] using (HC.out.1.on (below_one _ _)).setCell 1 _, (HC.out.2.1.on (below_one _ _)).setOther HG.out.1 1 _, (below_on HC.out.2.2 (below_one _ _)).setCell (p := ⟨gi, 1, none⟩) HG.out.2 _⟩⟩
      · have HPQ : Hid (S.insK k os (q + 1) = ⟨op, cond, a, b', c', wrap32 (ov : Int)⟩) := hid (by rw [show wrap32 (ov : Int) = S.i32 ov by unfold wrap32 S.i32; split <;> omega, HP.out]; rfl)
        clear HP
        have e0 : ∀ ob, (wr.alloc ob).cell? ⟨gi, 5, none⟩ = some (.int .i32 imm) := fun ob => ((HC.out.1.on (below_one wr ob)).cell 5)
        have e1 : ∀ ob, (wr.alloc ob).frozen? ⟨gi, 5, none⟩ = false := fun ob => (HC.out.1.on (below_one wr ob)).free 5
        go_wp2_with fail
        go_roundw
        case measure => simp [intOf] <;> omega
        case rel => exact ⟨q + 1, by omega, by go_num, hid ⟨by rw [HPQ.out]; simpa [Ins.cs] using (HC.out.1.on (below_one _ _)).setCell 5 _, (HC.out.2.1.on (below_one _ _)).setOther HG.out.1 5 _, (below_on HC.out.2.2 (below_one _ _)).setCell (p := ⟨gi, 5, none⟩) HG.out.2 _⟩⟩
      · have HPQ : Hid (S.insK k os (q + 1) = ⟨op, cond, a, b', c', wrap32 (ov : Int)⟩) := hid (by rw [show wrap32 (ov : Int) = S.i32 ov by unfold wrap32 S.i32; split <;> omega, HP.out]; rfl)
        clear HP
        have e0 : ∀ ob, (wr.alloc ob).cell? ⟨gi, 5, none⟩ = some (.int .i32 imm) := fun ob => ((HC.out.1.on (below_one wr ob)).cell 5)
        have e1 : ∀ ob, (wr.alloc ob).frozen? ⟨gi, 5, none⟩ = false := fun ob => (HC.out.1.on (below_one wr ob)).free 5
        go_wp2_with fail
        go_roundw
        case measure => simp [intOf] <;> omega
        case rel => exact ⟨q + 1, by omega, by go_num, hid ⟨by rw [HPQ.out]; simpa [Ins.cs] using (HC.out.1.on (below_one _ _)).setCell 5 _, (HC.out.2.1.on (below_one _ _)).setOther HG.out.1 5 _, (below_on HC.out.2.2 (below_one _ _)).setCell (p := ⟨gi, 5, none⟩) HG.out.2 _⟩⟩
      · have HPQ : Hid (S.insK k os (q + 1) = ⟨op, cond, a, b', c', wrap32 (ov : Int)⟩) := hid (by rw [show wrap32 (ov : Int) = S.i32 ov by unfold wrap32 S.i32; split <;> omega, HP.out]; rfl)
        clear HP
        have e0 : ∀ ob, (wr.alloc ob).cell? ⟨gi, 5, none⟩ = some (.int .i32 imm) := fun ob => ((HC.out.1.on (below_one wr ob)).cell 5)
        have e1 : ∀ ob, (wr.alloc ob).frozen? ⟨gi, 5, none⟩ = false := fun ob => (HC.out.1.on (below_one wr ob)).free 5
        go_wp2_with fail
        go_roundw
        case measure => simp [intOf] <;> omega
        case rel => exact ⟨q + 1, by omega, by go_num, hid ⟨by rw [HPQ.out]; simpa [Ins.cs] using (HC.out.1.on (below_one _ _)).setCell 5 _, (HC.out.2.1.on (below_one _ _)).setOther HG.out.1 5 _, (below_on HC.out.2.2 (below_one _ _)).setCell (p := ⟨gi, 5, none⟩) HG.out.2 _⟩⟩
    · obtain rfl : q = n := by omega
      have HI : Hid (S.insK k os q = S.insOf k os) := hid (by have := S.insK_all k os (by rw [HS.out, HN.out]); rw [HN.out] at this; exact this)
      rw [HI.out] at HC
      have hbd := enc_bounds (S.insOf k os)
      have HIB : Hid (-2147483648 ≤ (S.insOf k os).imm ∧ (S.insOf k os).imm < 2147483648) := hid (S.insOf_imm k os HV.out)
      have HE : Hid (∀ x, Below W.heap.size W x → Calls Tryz.prog 28 #[(S.insOf k os).v] x fun e W' => e = .returned (.tuple #[.int .u32 (enc (S.insOf k os)), .int .i64 (chk (S.insOf k os))]) ∧ Below x.heap.size x W') := hid (fun x hx => encode_any x (HT.out x hx).f (HT.out x hx).t (HT.out x hx).z _ HIB.out.1 HIB.out.2)
      obtain ⟨en, hen⟩ : ∃ en, enc (S.insOf k os) = en := ⟨_, rfl⟩
      have HR : Hid (en = ((enc (S.insOf k os)).toNat : Int)) := hid (by omega)
      rw [hen] at HE
      clear hbd HIB HI hlt hq hen
      generalize S.insOf k os = I at HE HC
      generalize chk I = ck at *
      obtain ⟨op, cond, a, b', c', imm⟩ := I
      simp only [Ins.v] at HE
      have d0 : wr.cell? ⟨gi, 0, none⟩ = some (.int .i64 op) := HC.out.1.cell 0
      have d1 : wr.cell? ⟨gi, 1, none⟩ = some (.int .i64 cond) := HC.out.1.cell 1
      have d2 : wr.cell? ⟨gi, 2, none⟩ = some (.int .i64 a) := HC.out.1.cell 2
      have d3 : wr.cell? ⟨gi, 3, none⟩ = some (.int .i64 b') := HC.out.1.cell 3
      have d4 : wr.cell? ⟨gi, 4, none⟩ = some (.int .i64 c') := HC.out.1.cell 4
      have d5 : wr.cell? ⟨gi, 5, none⟩ = some (.int .i32 imm) := HC.out.1.cell 5
      go_wp2_with (go_at_call 28; refine (HE.out _ HC.out.2.2).mono ?_; rintro e w' ⟨rfl, hb1⟩)
      go_ret
      exact ⟨ret_int HR.out, below_on HC.out.2.2 hb1⟩
end Go.Proofs.YtncnogndopgknaaGreatDoor
namespace Go.Proofs.YtncnogndopgknaaGreatDoor
open Go.RowKit
def u32s (l : List Nat) : List Value := l.map fun (u : Nat) => .int .u32 (u : Int)
theorem Tryz.info22 : (Tryz.prog.info? 22).map (fun i => (i.zero, i.size, i.bytes)) = some (some (.int .u32 0), 1, 4) := by kernel_rfl
theorem cel_of_own {w : World} {B g n : Nat} {e : TypeId} {xs : List Value} (h : w.ownsRow B e 1 (.slice (some ⟨g, 0, none⟩) n n) n xs) : Cel w g e xs ∧ B ≤ g := by
  rcases h.2 with ⟨h0, _⟩ | ⟨g', cap, cur, h1, h2, h3, h4, h5, h6, h7⟩
  · cases h0
  · injection h1 with a1 a2 a3
    injection a1 with a1
    injection a1 with a1
    subst a1 a3
    rw [Nat.mul_one] at h6 h7
    have hx : xs = cur.toList := by rw [← h7, List.take_of_length_le (by simp; omega)]
    refine ⟨?_, h2⟩
    unfold Cel
    rw [h3, hx]
theorem made_list (z : Value) (n : Nat) : (madeCells #[z] (n * 1)).toList = List.replicate n z := by
  rw [List.eq_replicate_iff]
  refine ⟨by simp [madeCells], fun v hv => ?_⟩
  simp only [madeCells, Array.toList_map, List.mem_map] at hv
  obtain ⟨j, _, rfl⟩ := hv
  simp [Nat.mod_one]
theorem bl_grown {W w w' : World} (h : Below W.heap.size W w) (hg : w.grownBy w' none) : Below W.heap.size W w' := h.grown hg h.size (fun g hg => by cases hg)
namespace S
structure KOk (k : Kd) : Prop where
  op : k.op < 25
  four : (k.name = wordN ∧ k.shape = [120]) ∨ (k.name = liN ∧ k.shape = [97, 120]) ∨ (k.name = zeroN ∧ k.shape = [110]) ∨ (k.name ≠ wordN ∧ k.name ≠ liN ∧ k.name ≠ zeroN ∧ k.shape = shapeT.getD k.op [])
theorem shape_ok (n : Nat) (h : n < 25) : (shapeT.getD n []).length ≤ 3 ∧ ∀ i (hi : i < (shapeT.getD n []).length), letter (shapeT.getD n [])[i].toNat := by
  have : ∀ n < 25, (shapeT.getD n []).length ≤ 3 ∧ ∀ x ∈ shapeT.getD n [], x.toNat = 97 ∨ x.toNat = 98 ∨ x.toNat = 99 ∨ x.toNat = 107 ∨ x.toNat = 117 ∨ x.toNat = 115 ∨ x.toNat = 111 := by decide +kernel
  exact ⟨(this n h).1, fun i hi => (this n h).2 _ (List.getElem_mem hi)⟩
theorem kindOf_ok {s : List UInt8} {k : Kd} (h : kindOf s = some k) : KOk k := by
  unfold kindOf at h
  split at h
  · rename_i h1
    cases h; exact ⟨Nat.zero_lt_succ _, .inl ⟨h1, rfl⟩⟩
  · split at h
    · rename_i h1
      cases h; exact ⟨Nat.zero_lt_succ _, .inr (.inl ⟨h1, rfl⟩)⟩
    · split at h
      · rename_i h1
        cases h; exact ⟨Nat.zero_lt_succ _, .inr (.inr (.inl ⟨h1, rfl⟩))⟩
      · rename_i h1 h2 h3
        cases ho : opOf s with
        | none => rw [ho] at h; cases h
        | some n =>
          rw [ho] at h
          cases h
          refine ⟨?_, .inr (.inr (.inr ⟨h1, h2, h3, rfl⟩))⟩
          have : ∀ hi k, find1 (fun n => nameT.getD n []) 1 hi s = some k → k < hi := by
            intro hi
            induction hi with
            | zero => intro k hk; cases hk
            | succ m ih =>
              intro k hk
              unfold find1 at hk
              split at hk
              · rename_i k' hk'
                cases hk
                have := ih _ hk'
                omega
              · split at hk
                · cases hk; omega
                · cases hk
          exact this 25 n ho
structure OsOk (k : Kd) (os : List Opn) : Prop where
  len : k.shape.length = os.length
  val : ∀ o ∈ os, o.val < 4294967296
  zero : k.name = zeroN → ∀ o ∈ os, o.val ≤ 2048
end S
theorem mine_new (w : World) (l : List Nat) (C : Array Value) (hC : C = (u32s l).toArray) : Cel (w.alloc (.cells C 22)) w.heap.size 22 (u32s l) := by subst hC; exact Cel.new _ _ _
set_option maxRecDepth 40000 in
set_option maxHeartbeats 2000000 in
theorem words_any6 (W : World) (hT : TM W) (k : S.Kd) (hk : S.KOk k) (ao : Option Addr) (n c : Nat) (os : List S.Opn) (hn : os.length = n) (ho : S.OsOk k os) (hat : OpsAt W ao os) :
    Calls Tryz.prog 91 #[kdV k, .slice ao n c] W fun x w' => (∃ g, x = .returned (.slice (some ⟨g, 0, none⟩) (S.words k os).length (S.words k os).length) ∧ W.heap.size ≤ g ∧ Cel w' g 22 (u32s (S.words k os))) ∧ Below W.heap.size W w' := by
  obtain ⟨i0, hi, hz0, hz1, hz2⟩ := info_parts Tryz.info22
  have HT : Hid (∀ x, Below W.heap.size W x → TM x) := hid (fun x hx => hT.on hx)
  clear hT
  rcases hk.four with ⟨e1, e2⟩ | ⟨e1, e2⟩ | ⟨e1, e2⟩ | ⟨e1, e2, e3, e4⟩
  · -- word
    have hl1 : os.length = 1 := by rw [← ho.len, e2]; rfl
    obtain ⟨o0, rfl⟩ : ∃ o0, os = [o0] := by
      match os, hl1 with
      | [o0], _ => exact ⟨o0, rfl⟩
    obtain rfl : n = 1 := by simpa using hn.symm
    have HR : Hid (S.words k [o0] = [o0.val]) := hid (by unfold S.words; rw [if_pos e1]; rfl)
    rw [HR.out]
    rcases hat with h0 | ⟨b, o, rfl, hb, hc⟩
    · cases h0
    have d0 : W.cell? ⟨b, o, none⟩ = some (.int .u32 (o0.val : Int)) := by have := hc 0 (by simp) 0 _ rfl; simpa using this
    have d1 : ∀ ob, (W.alloc ob).cell? ⟨b, o, none⟩ = some (.int .u32 (o0.val : Int)) := fun ob => by rw [(below_one W ob).cell (p := ⟨b, o, none⟩) hb]; exact d0
    obtain ⟨nm, sh, le, op⟩ := k
    simp only at e1 e2
    subst e1 e2
    clear hc ho hk HT
    generalize o0.val = v at *
    simp only [kdV, kdC]
    go_enter Tryz.func91, Tryz.ntmps91
    go_wp2_with fail
    go_ret
    exact ⟨⟨W.heap.size + 1, rfl, by omega, new_at2 _ _ _⟩, below_two _ _ _⟩
  · -- li
    have hl1 : os.length = 2 := by rw [← ho.len, e2]; rfl
    obtain ⟨o0, o1, rfl⟩ : ∃ o0 o1, os = [o0, o1] := by
      match os, hl1 with
      | [o0, o1], _ => exact ⟨o0, o1, rfl⟩
    obtain rfl : n = 2 := by simpa using hn.symm
    have v0 := ho.val o0 (by simp)
    have v1 := ho.val o1 (by simp)
    have HR : Hid (S.words k [o0, o1] = [S.half 1 o0.val (o1.val % 65536), S.half 2 o0.val (o1.val / 65536)]) := hid (by unfold S.words; rw [if_neg (by rw [e1]; decide), if_pos e1]; rfl)
    rw [HR.out]
    rcases hat with h0 | ⟨b, o, rfl, hb, hc⟩
    · cases h0
    have HU0 : Hid (∀ x, Below W.heap.size W x → x.cell? ⟨b, o, none⟩ = some (.int .u32 (o0.val : Int))) := hid (fun x hx => by rw [hx.cell (p := ⟨b, o, none⟩) hb]; have := hc 0 (by simp) 0 _ rfl; simpa using this)
    have HU1 : Hid (∀ x, Below W.heap.size W x → x.cell? ⟨b, o + 3, none⟩ = some (.int .u32 (o1.val : Int))) := hid (fun x hx => by rw [hx.cell (p := ⟨b, o + 3, none⟩) hb]; have := hc 1 (by simp) 0 _ rfl; simpa using this)
    have HF0 : Hid (∀ x, Below W.heap.size W x → Calls Tryz.prog 46 #[.int .u32 (o1.val : Int), .int .i64 0, .int .i64 16] x fun e w' => e = .returned (.int .u32 ((o1.val % 65536 : Nat) : Int)) ∧ Below x.heap.size x w') := hid (fun x hx => (field_yes x (HT.out x hx).t (o1.val : Int) 0 16 (by omega) (by omega) (by decide) (by decide) (by decide)).mono (by
      rintro e w' ⟨rfl, q, rfl⟩
      exact ⟨ret_int (by simp only [M.Fld]; simp only [Int.reducePow, Int.reduceToNat]; omega), below_drewN (Below.refl _ _) q⟩))
    have HF1 : Hid (∀ x, Below W.heap.size W x → Calls Tryz.prog 46 #[.int .u32 (o1.val : Int), .int .i64 16, .int .i64 16] x fun e w' => e = .returned (.int .u32 ((o1.val / 65536 : Nat) : Int)) ∧ Below x.heap.size x w') := hid (fun x hx => (field_yes x (HT.out x hx).t (o1.val : Int) 16 16 (by omega) (by omega) (by decide) (by decide) (by decide)).mono (by
      rintro e w' ⟨rfl, q, rfl⟩
      exact ⟨ret_int (by simp only [M.Fld]; simp only [Int.reducePow, Int.reduceToNat]; omega), below_drewN (Below.refl _ _) q⟩))
    have HH0 : Hid (∀ x, Below W.heap.size W x → Calls Tryz.prog 121 #[.int .i64 1, .int .u32 (o0.val : Int), .int .u32 ((o1.val % 65536 : Nat) : Int)] x fun e w' => e = .returned (.int .u32 (S.half 1 o0.val (o1.val % 65536) : Int)) ∧ Below x.heap.size x w') := hid (fun x hx => half_any x (HT.out x hx) 1 o0.val _ v0 (by omega))
    have HH1 : Hid (∀ x, Below W.heap.size W x → Calls Tryz.prog 121 #[.int .i64 2, .int .u32 (o0.val : Int), .int .u32 ((o1.val / 65536 : Nat) : Int)] x fun e w' => e = .returned (.int .u32 (S.half 2 o0.val (o1.val / 65536) : Int)) ∧ Below x.heap.size x w') := hid (fun x hx => half_any x (HT.out x hx) 2 o0.val _ v0 (by omega))
    obtain ⟨nm, sh, le, op⟩ := k
    simp only at e1 e2
    subst e1 e2
    clear hc ho hk HT HR v0 v1
    generalize S.half 1 o0.val (o1.val % 65536) = r0 at *
    generalize S.half 2 o0.val (o1.val / 65536) = r1 at *
    generalize o1.val % 65536 = x0 at *
    generalize o1.val / 65536 = x1 at *
    generalize o0.val = y0 at *
    generalize o1.val = y1 at *
    simp only [kdV, kdC]
    go_enter Tryz.func91, Tryz.ntmps91
    go_wp2_with fail
    refine wp_region_held_drew (S := fun x => Below W.heap.size W x) (by kernel_rfl) (below_on (below_one _ _) (Below.refl _ _).drew) (fun hHeld => ?_)
    refine tk 0 ⟨some 18, .move (.tmp 1), 192, "statement.go:51", #[], none⟩ (.slice (some ⟨b, o, none⟩) 2 c) ?_
    simp only [Act.put, List.setIfInBounds_toArray, List.set_cons_zero, List.set_cons_succ]
    refine tk 1 ⟨some 19, .indexAddr 192 (.tmp 18) (.const (.int .i64 0)), 0, "statement.go:51", #[⟨0, .data⟩], none⟩ (.pointer (some ⟨b, o, none⟩)) ?_
    simp only [Act.put, List.setIfInBounds_toArray, List.set_cons_zero, List.set_cons_succ]
    refine tk 2 ⟨some 20, .fieldAddr 197 (.tmp 19) 0, 0, "statement.go:51", #[⟨1, .data⟩], none⟩ (.pointer (some ⟨b, o, none⟩)) ?_
    simp only [Act.put, List.setIfInBounds_toArray, List.set_cons_zero, List.set_cons_succ]
    refine tk 3 ⟨some 21, .load 22 (.tmp 20), 22, "statement.go:51", #[⟨2, .data⟩], none⟩ (.int .u32 (y0 : Int)) ?_ (hy := Or.inl ⟨by rfl, by intro w hSw; have hcc := HU0.out w hSw; go_simp⟩)
    simp only [Act.put, List.setIfInBounds_toArray, List.set_cons_zero, List.set_cons_succ]
    refine tk 4 ⟨some 22, .move (.tmp 1), 192, "statement.go:51", #[{ on := 8, ground := .gcOnly Departure.lateStores }], none⟩ (.slice (some ⟨b, o, none⟩) 2 c) ?_
    simp only [Act.put, List.setIfInBounds_toArray, List.set_cons_zero, List.set_cons_succ]
    refine tk 5 ⟨some 23, .indexAddr 192 (.tmp 22) (.const (.int .i64 1)), 0, "statement.go:51", #[⟨4, .data⟩, { on := 8, ground := .gcOnly Departure.lateStores }], none⟩ (.pointer (some ⟨b, o + 3, none⟩)) ?_
    simp only [Act.put, List.setIfInBounds_toArray, List.set_cons_zero, List.set_cons_succ]
    refine tk 6 ⟨some 24, .fieldAddr 197 (.tmp 23) 0, 0, "statement.go:51", #[⟨5, .data⟩, { on := 8, ground := .gcOnly Departure.lateStores }], none⟩ (.pointer (some ⟨b, o + 3, none⟩)) ?_
    simp only [Act.put, List.setIfInBounds_toArray, List.set_cons_zero, List.set_cons_succ]
    refine tk 7 ⟨some 25, .load 22 (.tmp 24), 22, "statement.go:51", #[⟨6, .data⟩, { on := 8, ground := .gcOnly Departure.lateStores }], none⟩ (.int .u32 (y1 : Int)) ?_ (hy := Or.inl ⟨by rfl, by intro w hSw; have hcc := HU1.out w hSw; go_simp⟩)
    simp only [Act.put, List.setIfInBounds_toArray, List.set_cons_zero, List.set_cons_succ]
    refine wpAnyH_ready (rs := [8]) (by kernel_rfl) (by simp) (AllReadyH.cons (o := ⟨some 5, .assign (.tmp 21), 22, "statement.go:51", #[⟨3, .data⟩, ⟨0, .phase⟩, ⟨1, .phase⟩, ⟨2, .phase⟩, ⟨3, .phase⟩, { on := 4, ground := .textOnly Departure.lateStores }, { on := 5, ground := .textOnly Departure.lateStores }, { on := 6, ground := .textOnly Departure.lateStores }, { on := 7, ground := .textOnly Departure.lateStores }], none⟩) rfl (fun KQ hK => ?_) AllReadyH.nil)
    go_simp
    refine hK.out _ _ (below_on (below_one _ _) (Below.refl _ _).drew) (fun hHeld => ?_)
    clear hK KQ
    try simp only [Act.put, List.setIfInBounds_toArray, List.set_cons_zero, List.set_cons_succ]
    refine wpAnyH_ready (rs := [9]) (by kernel_rfl) (by simp) (AllReadyH.cons (o := ⟨some 6, .assign (.tmp 25), 22, "statement.go:51", #[⟨7, .data⟩, ⟨8, .chain⟩, ⟨0, .phase⟩, ⟨1, .phase⟩, ⟨2, .phase⟩, ⟨3, .phase⟩, ⟨4, .phase⟩, ⟨5, .phase⟩, ⟨6, .phase⟩, ⟨7, .phase⟩, ⟨8, .phase⟩], none⟩) rfl (fun KQ hK => ?_) AllReadyH.nil)
    go_simp
    refine hK.out _ _ (below_on (below_one _ _) (Below.refl _ _).drew) (fun hHeld => ?_)
    clear hK KQ
    try simp only [Act.put, List.setIfInBounds_toArray, List.set_cons_zero, List.set_cons_succ]
    refine wpAnyH_done (by kernel_rfl) ?_ _
    clear hHeld
    generalize hY : (W.alloc (Obj.cells #[Value.string { data := S.liN.toArray }, Value.string { data := [97, 120].toArray }, Value.int IntKind.i64 ↑le, Value.int IntKind.i64 ↑op] 188)).drew = Y at *
    have hbY : Below W.heap.size W Y := by rw [← hY]; exact below_on (below_one _ _) (Below.refl _ _).drew
    clear hY
    go_wp2_with fail
    refine (HF0.out _ hbY).mono ?_
    rintro e w1 ⟨rfl, hb1⟩
    have hB1 := below_on hbY hb1
    go_wp2_with fail
    refine (HH0.out _ hB1).mono ?_
    rintro e w2 ⟨rfl, hb2⟩
    have hB2 := below_on hB1 hb2
    go_wp2_with fail
    refine (HF1.out _ hB2).mono ?_
    rintro e w3 ⟨rfl, hb3⟩
    have hB3 := below_on hB2 hb3
    go_wp2_with fail
    refine (HH1.out _ hB3).mono ?_
    rintro e w4 ⟨rfl, hb4⟩
    have hB4 := below_on hB3 hb4
    clear hb1 hb2 hb3 hb4 hB1 hB2 hB3
    go_wp2_with fail
    go_ret
    exact ⟨⟨_, rfl, hB4.size, mine_new _ [r0, r1] _ rfl⟩, below_on hB4 (below_one _ _)⟩
  · -- zero
    have hl1 : os.length = 1 := by rw [← ho.len, e2]; rfl
    obtain ⟨o0, rfl⟩ : ∃ o0, os = [o0] := by
      match os, hl1 with
      | [o0], _ => exact ⟨o0, rfl⟩
    obtain rfl : n = 1 := by simpa using hn.symm
    have hz := ho.zero e1 o0 (by simp)
    have HR : Hid (S.words k [o0] = List.replicate o0.val 0) := hid (by unfold S.words; rw [if_neg (by rw [e1]; decide), if_neg (by rw [e1]; decide), if_pos e1]; rfl)
    rw [HR.out]
    rcases hat with h0 | ⟨b, o, rfl, hb, hc⟩
    · cases h0
    have d0 : W.cell? ⟨b, o, none⟩ = some (.int .u32 (o0.val : Int)) := by have := hc 0 (by simp) 0 _ rfl; simpa using this
    have d1 : ∀ ob, (W.alloc ob).cell? ⟨b, o, none⟩ = some (.int .u32 (o0.val : Int)) := fun ob => by rw [(below_one W ob).cell (p := ⟨b, o, none⟩) hb]; exact d0
    obtain ⟨nm, sh, le, op⟩ := k
    simp only at e1 e2
    subst e1 e2
    clear hc ho hk HT HR
    generalize o0.val = v at *
    have v1 : (v : Int) ≤ 2048 := by omega
    simp only [kdV, kdC]
    go_enter Tryz.func91, Tryz.ntmps91
    go_wp2_with (at_make; refine wpList_make_full _ rfl _ _ 24 rfl (W.heap.size) 22 i0 (.int .u32 0) 1 Tryz.underlying24 hi hz0 hz1 .u32 .u32 _ _ v rfl rfl rfl rfl (by rw [hz2]; omega) (by unfold maxLen; omega) (below_one _ _).size ?_; intro w1 ho1 hg1)
    go_ret
    have hcc := cel_of_own ho1
    rw [show (Value.int .u32 0).cells = #[.int .u32 0] from rfl, made_list] at hcc
    rw [List.length_replicate]
    refine ⟨⟨W.heap.size + 1, rfl, by omega, ?_⟩, bl_grown (below_one _ _) hg1⟩
    rw [show u32s (List.replicate v 0) = List.replicate v (.int .u32 0) by simp [u32s]]
    have hsz : (W.alloc (Obj.cells #[Value.string { data := S.zeroN.toArray }, Value.string { data := [110].toArray }, Value.int IntKind.i64 ↑le, Value.int IntKind.i64 ↑op] 188)).heap.size = W.heap.size + 1 := by simp
    rw [← hsz]
    exact hcc.1
  · -- an instruction
    have hsl := S.shape_ok k.op hk.op
    rw [← e4] at hsl
    have HI : Hid (∀ x, Below W.heap.size W x → Calls Tryz.prog 122 #[kdV k, .slice ao n c] x fun y w' => y = .returned (.int .u32 ((enc (S.insOf k os)).toNat : Int)) ∧ Below x.heap.size x w') := hid (fun x hx => instruction_any x (HT.out x hx) k ao n c os hn (by rw [ho.len, hn]) (by rw [← hn, ← ho.len]; exact hsl.1) hsl.2 ho.val (hat.on hx))
    have HR : Hid (S.words k os = [(enc (S.insOf k os)).toNat]) := hid (by unfold S.words; rw [if_neg e1, if_neg e2, if_neg e3])
    rw [HR.out]
    generalize (enc (S.insOf k os)).toNat = v at *
    clear hsl hat ho hk HT HR e4
    obtain ⟨nm, sh, le, op⟩ := k
    simp only at e1 e2 e3
    have q1 : (nm == [119, 111, 114, 100]) = false := by simpa [S.wordN] using e1
    have q2 : (nm == [108, 105]) = false := by simpa [S.liN] using e2
    have q3 : (nm == [122, 101, 114, 111]) = false := by simpa [S.zeroN] using e3
    simp only [kdV, kdC] at HI ⊢
    clear e1 e2 e3
    go_enter Tryz.func91, Tryz.ntmps91
    go_wp2_with (go_at_call 122; refine (HI.out _ (below_one _ _)).mono ?_; rintro e w' ⟨rfl, hb1⟩)
    go_ret
    exact ⟨⟨_, rfl, (below_on (below_one _ _) hb1).size, mine_new _ [v] _ rfl⟩, below_on (below_on (below_one _ _) hb1) (below_one _ _)⟩
end Go.Proofs.YtncnogndopgknaaGreatDoor
