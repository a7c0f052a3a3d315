import Derived.Test.YtncnogndopgknaaGreatDoorP17
namespace Go.Proofs.YtncnogndopgknaaGreatDoor
open Go.RowKit
def OpsAt (w : World) (ao : Option Addr) (os : List S.Opn) : Prop := os = [] ∨ ∃ b o, ao = some ⟨b, o, none⟩ ∧ b < w.heap.size ∧ ∀ i (h : i < os.length), w.rangeAt b (o + i * 3) (opC os[i])
theorem OpsAt.on {W w : World} {ao : Option Addr} {l : List S.Opn} (h : OpsAt W ao l) (hb : Below W.heap.size W w) : OpsAt w ao l := by
  rcases h with h0 | ⟨b, o, e, hlt, hc⟩
  · exact .inl h0
  · refine .inr ⟨b, o, e, Nat.lt_of_lt_of_le hlt hb.size, fun i hi j v hv => ?_⟩
    rw [hb.cell (p := ⟨b, o + i * 3 + j, none⟩) hlt]
    exact hc i hi j v hv
def kdV (k : S.Kd) : Value := .agg (kdC k).toArray
theorem Cel.setCell {w : World} {g : Nat} {t : TypeId} {cs : List Value} (h : Cel w g t cs) (j : Nat) (v : Value) : Cel (w.setCell ⟨g, j, none⟩ v) g t (cs.set j v) := by
  unfold Cel
  rw [heap_setCell_same w g j _ t _ h]
  simp
theorem Cel.setOther {w : World} {g g' : Nat} {t : TypeId} {cs : List Value} (h : Cel w g t cs) (hne : g' ≠ g) (j : Nat) (v : Value) : Cel (w.setCell ⟨g', j, none⟩ v) g t cs := by
  unfold Cel
  rw [heap_setCell_other w ⟨g', j, none⟩ g v (Ne.symm hne)]
  exact h
theorem Cel.free {w : World} {g : Nat} {t : TypeId} {cs : List Value} (h : Cel w g t cs) (j : Nat) : w.frozen? ⟨g, j, none⟩ = false := Lib.frozen_of_heap h j
namespace S
def insK (k : Kd) (os : List Opn) (n : Nat) : Ins := (((k.shape.map (·.toNat)).zip os).take n).foldl (fun i x => putL i x.1 x.2.val) ⟨k.op, 0, 0, 0, 0, 0⟩
theorem insK_succ (k : Kd) (os : List Opn) (n : Nat) (h1 : n < k.shape.length) (h2 : n < os.length) : insK k os (n + 1) = putL (insK k os n) k.shape[n].toNat os[n].val := by
  unfold insK
  rw [List.take_succ_eq_append_getElem (by simp; omega), List.foldl_append]
  simp
theorem insK_all (k : Kd) (os : List Opn) (h : k.shape.length = os.length) : insK k os os.length = insOf k os := by
  unfold insK insOf
  rw [List.take_of_length_le (by simp; omega)]
theorem i32_ok (v : Nat) : v < 4294967296 → -2147483648 ≤ i32 v ∧ i32 v < 2147483648 := fun h => by unfold i32; split <;> omega
theorem putL_imm (i : Ins) (l v : Nat) (h : -2147483648 ≤ i.imm ∧ i.imm < 2147483648) (hv : v < 4294967296) : -2147483648 ≤ (putL i l v).imm ∧ (putL i l v).imm < 2147483648 := by
  unfold putL
  repeat' split
  all_goals first | exact h | exact i32_ok v hv
theorem fold_imm : ∀ (xs : List (Nat × Opn)) (i : Ins), (∀ x ∈ xs, x.2.val < 4294967296) → -2147483648 ≤ i.imm ∧ i.imm < 2147483648 → -2147483648 ≤ (xs.foldl (fun i x => putL i x.1 x.2.val) i).imm ∧ (xs.foldl (fun i x => putL i x.1 x.2.val) i).imm < 2147483648
  | [], _, _, h => h
  | x :: xs, i, hx, h => fold_imm xs _ (fun y hy => hx y (by simp [hy])) (putL_imm i x.1 x.2.val h (hx x (by simp)))
theorem insOf_imm (k : Kd) (os : List Opn) (hv : ∀ o ∈ os, o.val < 4294967296) : -2147483648 ≤ (insOf k os).imm ∧ (insOf k os).imm < 2147483648 :=
  fold_imm _ _ (fun x hx => hv x.2 (List.of_mem_zip hx).2) ⟨by show (-2147483648 : Int) ≤ 0; decide, by show (0 : Int) < 2147483648; decide⟩
end S
set_option maxRecDepth 40000 in
set_option maxHeartbeats 2000000 in
theorem instruction_any (W : World) (hT : TM W) (k : S.Kd) (ao : Option Addr) (n c : Nat) (os : List S.Opn) (hn : os.length = n) (hs : k.shape.length = n) (h3 : n ≤ 3) (hl : ∀ i (h : i < k.shape.length), letter k.shape[i].toNat) (hv : ∀ o ∈ os, o.val < 4294967296) (hat : OpsAt W ao os) :
    Calls Tryz.prog 122 #[kdV k, .slice ao n c] W fun x w' => x = .returned (.int .u32 ((enc (S.insOf k os)).toNat : Int)) ∧ Below W.heap.size W w' := by
  have HT : Hid (∀ x, Below W.heap.size W x → TM x) := hid (fun x hx => hT.on hx)
  have HA : Hid (OpsAt W ao os) := hat
  have HN : Hid (os.length = n) := hn
  have HS : Hid (k.shape.length = n) := hs
  have HL : Hid (∀ i (h : i < k.shape.length), letter k.shape[i].toNat) := hl
  have HV : Hid (∀ o ∈ os, o.val < 4294967296) := hv
  have n3 : (n : Int) ≤ 3 := by omega
  clear hT hat hl hv hs hn
  simp only [kdV, kdC]
  go_enter Tryz.func122, Tryz.ntmps122
  go_wp2_with fail
  have HC0 : Hid (Cel ((W.alloc (.cells (kdC k).toArray 188)).alloc (.cells (S.insK k os 0).cs.toArray 84)) (W.heap.size + 1) 84 (S.insK k os 0).cs ∧ Cel ((W.alloc (.cells (kdC k).toArray 188)).alloc (.cells (S.insK k os 0).cs.toArray 84)) W.heap.size 188 (kdC k) ∧ Below W.heap.size W ((W.alloc (.cells (kdC k).toArray 188)).alloc (.cells (S.insK k os 0).cs.toArray 84))) := hid ⟨new_at2 _ _ _, (Cel.new W 188 (kdC k)).on (below_one _ _), below_two _ _ _⟩
  change Code.wp Tryz.prog _ _ _ ((W.alloc (.cells (kdC k).toArray 188)).alloc (.cells (S.insK k os 0).cs.toArray 84))
  generalize (W.alloc (.cells (kdC k).toArray 188)).alloc (.cells (S.insK k os 0).cs.toArray 84) = X at *
  obtain ⟨gi, hgi⟩ : ∃ g, W.heap.size + 1 = g := ⟨_, rfl⟩
  obtain ⟨gk, hgk⟩ : ∃ g, W.heap.size = g := ⟨_, rfl⟩
  have HG : Hid (gi ≠ gk ∧ W.heap.size ≤ gi) := hid ⟨by omega, by omega⟩
  rw [hgi, hgk] at HC0
  rw [hgi, hgk]
  have HC1 : Hid (Cel X gi 84 (S.insK k os 0).cs ∧ Cel X gk 188 (kdC k) ∧ Below W.heap.size W X) := hid ⟨HC0.out.1, HC0.out.2.1, by rw [hgk]; exact HC0.out.2.2⟩
  clear hgi hgk HC0
  go_loopw [6, 7, 15] (fun _ _ j wr => ∃ q : Nat, q ≤ n ∧ j = .int .i64 q ∧ Hid (Cel wr gi 84 (S.insK k os q).cs ∧ Cel wr gk 188 (kdC k) ∧ Below W.heap.size W wr)) (fun _ _ j _ => n - (intOf j).toNat)
  case atStart => exact ⟨0, Nat.zero_le _, rfl, HC1⟩
  case round =>
    clear HC1
    obtain ⟨q, hq, rfl, HC⟩ := hrel
    by_cases hlt : q < n
    · have c1 : (q : Int) < (n : Int) := by omega
      have hqo : q < os.length := by rw [HN.out]; exact hlt
      have hqs : q < k.shape.length := by rw [HS.out]; exact hlt
      have HP := hid (S.insK_succ k os q hqs hqo)
      have hvo := HV.out os[q] (List.getElem_mem _)
      have hll := HL.out q hqs
      rcases HA.out with h0 | ⟨b, o, rfl, hb, hc⟩
      · rw [h0] at hqo; simp at hqo
      have hcq := hc q hqo
      have d0 : wr.cell? ⟨b, o + q * 3, none⟩ = some (.int .u32 (os[q].val : Int)) := by rw [HC.out.2.2.cell (p := ⟨b, o + q * 3, none⟩) hb]; exact hcq 0 _ rfl
      have d1 : wr.cell? ⟨b, o + q * 3 + 1, none⟩ = some (.string ⟨os[q].lab.toArray⟩) := by rw [HC.out.2.2.cell (p := ⟨b, o + q * 3 + 1, none⟩) hb]; exact hcq 1 _ rfl
      have d2 : wr.cell? ⟨b, o + q * 3 + 2, none⟩ = some (.int .i64 (os[q].col : Int)) := by rw [HC.out.2.2.cell (p := ⟨b, o + q * 3 + 2, none⟩) hb]; exact hcq 2 _ rfl
      obtain ⟨l, hl⟩ : ∃ l, k.shape[q].toNat = l := ⟨_, rfl⟩
      have hsx : ∃ sh : ByteArray, sh = ⟨k.shape.toArray⟩ ∧ sh.size = n ∧ (∀ h, (sh[q]'h).toNat = l) := ⟨⟨k.shape.toArray⟩, rfl, by simp [ByteArray.size, HS.out], fun h => by rw [← hl]; show k.shape.toArray[q].toNat = _; simp⟩
      obtain ⟨sh, hsh, hsz, hlk⟩ := hsx
      have d3 : ∀ ob, (wr.alloc ob).cell? ⟨gk, 1, none⟩ = some (.string sh) := fun ob => by
        rw [hsh, ((HC.out.2.1.on (below_one wr ob)).cell 1)]
        rfl
      rw [hl] at HP hll
      generalize os[q] = oq at *
      obtain ⟨ov, ol, oc⟩ := oq
      simp only at HP hvo d0 d1 d2
      have v1 : (ov : Int) < 4294967296 := by omega
      clear hc hcq hsh hl hqs hqo
      generalize hI : S.insK k os q = I at *
      obtain ⟨op, cond, a, b', c', imm⟩ := I
      rcases hll with rfl | rfl | rfl | rfl | rfl | rfl | rfl
      · have HPQ : Hid (S.insK k os (q + 1) = ⟨op, cond, (ov : Int), b', c', imm⟩) := hid (by rw [HP.out]; rfl)
        clear HP
        have e0 : ∀ ob, (wr.alloc ob).cell? ⟨gi, 2, none⟩ = some (.int .i64 a) := fun ob => ((HC.out.1.on (below_one wr ob)).cell 2)
        have e1 : ∀ ob, (wr.alloc ob).frozen? ⟨gi, 2, none⟩ = false := fun ob => (HC.out.1.on (below_one wr ob)).free 2
        go_wp2_with fail
        go_roundw
        case measure => simp [intOf] <;> omega
        case rel => exact ⟨q + 1, by omega, by go_num, hid ⟨by rw [HPQ.out]; simpa [Ins.cs] using (HC.out.1.on (below_one _ _)).setCell 2 _, (HC.out.2.1.on (below_one _ _)).setOther HG.out.1 2 _, (below_on HC.out.2.2 (below_one _ _)).setCell (p := ⟨gi, 2, none⟩) HG.out.2 _⟩⟩
      · have HPQ : Hid (S.insK k os (q + 1) = ⟨op, cond, a, (ov : Int), c', imm⟩) := hid (by rw [HP.out]; rfl)
        clear HP
        have e0 : ∀ ob, (wr.alloc ob).cell? ⟨gi, 3, none⟩ = some (.int .i64 b') := fun ob => ((HC.out.1.on (below_one wr ob)).cell 3)
        have e1 : ∀ ob, (wr.alloc ob).frozen? ⟨gi, 3, none⟩ = false := fun ob => (HC.out.1.on (below_one wr ob)).free 3
        go_wp2_with fail
        go_roundw
        case measure => simp [intOf] <;> omega
        case rel => exact ⟨q + 1, by omega, by go_num, hid ⟨by rw [HPQ.out]; simpa [Ins.cs] using (HC.out.1.on (below_one _ _)).setCell 3 _, (HC.out.2.1.on (below_one _ _)).setOther HG.out.1 3 _, (below_on HC.out.2.2 (below_one _ _)).setCell (p := ⟨gi, 3, none⟩) HG.out.2 _⟩⟩
      · have HPQ : Hid (S.insK k os (q + 1) = ⟨op, cond, a, b', (ov : Int), imm⟩) := hid (by rw [HP.out]; rfl)
        clear HP
        have e0 : ∀ ob, (wr.alloc ob).cell? ⟨gi, 4, none⟩ = some (.int .i64 c') := fun ob => ((HC.out.1.on (below_one wr ob)).cell 4)
        have e1 : ∀ ob, (wr.alloc ob).frozen? ⟨gi, 4, none⟩ = false := fun ob => (HC.out.1.on (below_one wr ob)).free 4
        go_wp2_with fail
        go_roundw
        case measure => simp [intOf] <;> omega
        case rel => exact ⟨q + 1, by omega, by go_num, hid ⟨by rw [HPQ.out]; simpa [Ins.cs] using (HC.out.1.on (below_one _ _)).setCell 4 _, (HC.out.2.1.on (below_one _ _)).setOther HG.out.1 4 _, (below_on HC.out.2.2 (below_one _ _)).setCell (p := ⟨gi, 4, none⟩) HG.out.2 _⟩⟩
      · have HPQ : Hid (S.insK k os (q + 1) = ⟨op, (ov : Int), a, b', c', imm⟩) := hid (by rw [HP.out]; rfl)
        clear HP
        have e0 : ∀ ob, (wr.alloc ob).cell? ⟨gi, 1, none⟩ = some (.int .i64 cond) := fun ob => ((HC.out.1.on (below_one wr ob)).cell 1)
        have e1 : ∀ ob, (wr.alloc ob).frozen? ⟨gi, 1, none⟩ = false := fun ob => (HC.out.1.on (below_one wr ob)).free 1
        go_wp2_with fail
        go_roundw
        case measure => simp [intOf] <;> omega
        case rel => exact ⟨q + 1, by omega, by go_num, hid ⟨by rw [HPQ.out]; simpa [Ins.cs] using (HC.out.1.on (below_one _ _)).setCell 1 _, (HC.out.2.1.on (below_one _ _)).setOther HG.out.1 1 _, (below_on HC.out.2.2 (below_one _ _)).setCell (p := ⟨gi, 1, none⟩) HG.out.2 _⟩⟩
      · have HPQ : Hid (S.insK k os (q + 1) = ⟨op, cond, a, b', c', wrap32 (ov : Int)⟩) := hid (by rw [show wrap32 (ov : Int) = S.i32 ov by unfold wrap32 S.i32; split <;> omega, HP.out]; rfl)
        clear HP
        have e0 : ∀ ob, (wr.alloc ob).cell? ⟨gi, 5, none⟩ = some (.int .i32 imm) := fun ob => ((HC.out.1.on (below_one wr ob)).cell 5)
        have e1 : ∀ ob, (wr.alloc ob).frozen? ⟨gi, 5, none⟩ = false := fun ob => (HC.out.1.on (below_one wr ob)).free 5
        go_wp2_with fail
        go_roundw
        case measure => simp [intOf] <;> omega
        case rel => exact ⟨q + 1, by omega, by go_num, hid ⟨by rw [HPQ.out]; simpa [Ins.cs] using (HC.out.1.on (below_one _ _)).setCell 5 _, (HC.out.2.1.on (below_one _ _)).setOther HG.out.1 5 _, (below_on HC.out.2.2 (below_one _ _)).setCell (p := ⟨gi, 5, none⟩) HG.out.2 _⟩⟩
      · have HPQ : Hid (S.insK k os (q + 1) = ⟨op, cond, a, b', c', wrap32 (ov : Int)⟩) := hid (by rw [show wrap32 (ov : Int) = S.i32 ov by unfold wrap32 S.i32; split <;> omega, HP.out]; rfl)
        clear HP
        have e0 : ∀ ob, (wr.alloc ob).cell? ⟨gi, 5, none⟩ = some (.int .i32 imm) := fun ob => ((HC.out.1.on (below_one wr ob)).cell 5)
        have e1 : ∀ ob, (wr.alloc ob).frozen? ⟨gi, 5, none⟩ = false := fun ob => (HC.out.1.on (below_one wr ob)).free 5
        go_wp2_with fail
        go_roundw
        case measure => simp [intOf] <;> omega
        case rel => exact ⟨q + 1, by omega, by go_num, hid ⟨by rw [HPQ.out]; simpa [Ins.cs] using (HC.out.1.on (below_one _ _)).setCell 5 _, (HC.out.2.1.on (below_one _ _)).setOther HG.out.1 5 _, (below_on HC.out.2.2 (below_one _ _)).setCell (p := ⟨gi, 5, none⟩) HG.out.2 _⟩⟩
      · have HPQ : Hid (S.insK k os (q + 1) = ⟨op, cond, a, b', c', wrap32 (ov : Int)⟩) := hid (by rw [show wrap32 (ov : Int) = S.i32 ov by unfold wrap32 S.i32; split <;> omega, HP.out]; rfl)
        clear HP
        have e0 : ∀ ob, (wr.alloc ob).cell? ⟨gi, 5, none⟩ = some (.int .i32 imm) := fun ob => ((HC.out.1.on (below_one wr ob)).cell 5)
        have e1 : ∀ ob, (wr.alloc ob).frozen? ⟨gi, 5, none⟩ = false := fun ob => (HC.out.1.on (below_one wr ob)).free 5
        go_wp2_with fail
        go_roundw
        case measure => simp [intOf] <;> omega
        case rel => exact ⟨q + 1, by omega, by go_num, hid ⟨by rw [HPQ.out]; simpa [Ins.cs] using (HC.out.1.on (below_one _ _)).setCell 5 _, (HC.out.2.1.on (below_one _ _)).setOther HG.out.1 5 _, (below_on HC.out.2.2 (below_one _ _)).setCell (p := ⟨gi, 5, none⟩) HG.out.2 _⟩⟩
    · obtain rfl : q = n := by omega
      have HI : Hid (S.insK k os q = S.insOf k os) := hid (by have := S.insK_all k os (by rw [HS.out, HN.out]); rw [HN.out] at this; exact this)
      rw [HI.out] at HC
      have hbd := enc_bounds (S.insOf k os)
      have HIB : Hid (-2147483648 ≤ (S.insOf k os).imm ∧ (S.insOf k os).imm < 2147483648) := hid (S.insOf_imm k os HV.out)
      have HE : Hid (∀ x, Below W.heap.size W x → Calls Tryz.prog 28 #[(S.insOf k os).v] x fun e W' => e = .returned (.tuple #[.int .u32 (enc (S.insOf k os)), .int .i64 (chk (S.insOf k os))]) ∧ Below x.heap.size x W') := hid (fun x hx => encode_any x (HT.out x hx).f (HT.out x hx).t (HT.out x hx).z _ HIB.out.1 HIB.out.2)
      obtain ⟨en, hen⟩ : ∃ en, enc (S.insOf k os) = en := ⟨_, rfl⟩
      have HR : Hid (en = ((enc (S.insOf k os)).toNat : Int)) := hid (by omega)
      rw [hen] at HE
      clear hbd HIB HI hlt hq hen
      generalize S.insOf k os = I at HE HC
      generalize chk I = ck at *
      obtain ⟨op, cond, a, b', c', imm⟩ := I
      simp only [Ins.v] at HE
      have d0 : wr.cell? ⟨gi, 0, none⟩ = some (.int .i64 op) := HC.out.1.cell 0
      have d1 : wr.cell? ⟨gi, 1, none⟩ = some (.int .i64 cond) := HC.out.1.cell 1
      have d2 : wr.cell? ⟨gi, 2, none⟩ = some (.int .i64 a) := HC.out.1.cell 2
      have d3 : wr.cell? ⟨gi, 3, none⟩ = some (.int .i64 b') := HC.out.1.cell 3
      have d4 : wr.cell? ⟨gi, 4, none⟩ = some (.int .i64 c') := HC.out.1.cell 4
      have d5 : wr.cell? ⟨gi, 5, none⟩ = some (.int .i32 imm) := HC.out.1.cell 5
      go_wp2_with (go_at_call 28; refine (HE.out _ HC.out.2.2).mono ?_; rintro e w' ⟨rfl, hb1⟩)
      go_ret
      exact ⟨ret_int HR.out, below_on HC.out.2.2 hb1⟩
end Go.Proofs.YtncnogndopgknaaGreatDoor
