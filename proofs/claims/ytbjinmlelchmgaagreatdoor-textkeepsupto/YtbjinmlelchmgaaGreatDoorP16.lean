import Derived.Test.YtbjinmlelchmgaaGreatDoorP15
import Derived.Test.YtbjinmlelchmgaaGreatDoorP01
import Derived.Deep.DeepCutAuto
import Derived.Test.YtbjinmlelchmgaaGreatDoorP07
import Derived.Test.YtbjinmlelchmgaaGreatDoorP14
import Derived.Test.YtbjinmlelchmgaaGreatDoorP05
namespace Go.Proofs.YtbjinmlelchmgaaGreatDoor
open Go.RowKit

def IntsAt (w : World) (ao : Option Addr) (l : List Nat) : Prop := l = [] ∨ ∃ b o, ao = some ⟨b, o, none⟩ ∧ b < w.heap.size ∧ ∀ i (h : i < l.length), w.cell? ⟨b, o + i, none⟩ = some (.int .i64 (l[i] : Int))
theorem HV.ints_at {W w : World} {v : Value} {ws : List Nat} {nw : Nat} (h : HV W w 3 v (ints ws)) (hn : ws.length = nw) : ∃ aw cw, v = .slice aw nw cw ∧ IntsAt w aw ws := by
  subst hn
  obtain ⟨aw, cw, hv⟩ := h.anyN (n := ws.length) (ints_length ws)
  refine ⟨aw, cw, hv, ?_⟩
  by_cases h0 : ws.length = 0
  · exact .inl (List.eq_nil_of_length_eq_zero h0)
  · obtain ⟨g, cap, hv2, _, hg⟩ := h.formN (n := ws.length) (ints_length ws) (by omega)
    rw [hv2] at hv h
    injection hv with h1 h2 h3
    subst h1
    refine .inr ⟨g, 0, rfl, hg, fun i hi => ?_⟩
    rw [Nat.zero_add]
    exact h.cell i _ (ints_get ws i hi)
theorem fills_le (ws : List Nat) (row : List (List UInt8)) (k : Nat) (h : k + 1 ≤ T.upTo row) : (T.fills ws row k).length ≤ (T.line ws row).length := by
  unfold T.line
  rw [if_neg (by omega)]
  obtain ⟨d, hd⟩ : ∃ d, T.upTo row - 1 = k + d := ⟨T.upTo row - 1 - k, by omega⟩
  rw [hd, List.length_append]
  have : ∀ d, (T.fills ws row k).length ≤ (T.fills ws row (k + d)).length := by
    intro d
    induction d with
    | zero => exact Nat.le_refl _
    | succ d ih => rw [← Nat.add_assoc, T.fills_succ, List.length_append]; omega
  have := this d
  omega
set_option maxRecDepth 40000 in
set_option maxHeartbeats 4000000 in
theorem lay_any (V w : World) (b : Nat) (pre : List UInt8) (F : BL V w b pre) (ao : Option Addr) (n c : Nat) (row : List (List UInt8)) (hl : row.length = n) (hn : n ≤ 1000000000) (hx : ∀ x ∈ row, x.length ≤ 1000000000) (hat : StrsAt V ao row) (aw : Option Addr) (nw cw : Nat) (ws : List Nat) (hws : ws.length = nw) (hnw : n ≤ nw) (hfit : ∀ i (h : i < ws.length), row.getD i [] = [] ∨ (row.getD i []).length ≤ ws[i]) (hwb : ∀ x ∈ ws, x ≤ 1000000000) (hwat : IntsAt V aw ws) (hT : pre.length + (T.line ws row).length ≤ 140737488355328) :
    Calls Tryz.prog 54 #[.pointer (some ⟨b, 0, none⟩), .slice ao n c, .slice aw nw cw] w fun e w' => e = .returned (.tuple #[]) ∧ BL V w' b (pre ++ T.line ws row) := by
  have b1 : (n : Int) ≤ 1000000000 := by omega
  have HA : Hid (StrsAt V ao row) := hat
  have HWA : Hid (IntsAt V aw ws) := hwat
  have HX : Hid (∀ x ∈ row, x.length ≤ 1000000000) := hx
  have HWB : Hid (∀ x ∈ ws, x ≤ 1000000000) := hwb
  have HFT : Hid (∀ i (h : i < ws.length), row.getD i [] = [] ∨ (row.getD i []).length ≤ ws[i]) := hfit
  have HLN : Hid (row.length = n) := hl
  have HWN : Hid (ws.length = nw) := hws
  clear hat hwat hx hwb hfit hl hws
  go_enter Tryz.func54, Tryz.ntmps54
  go_wp2_with fail
  go_loopw [6] (fun i wr => ∃ k : Nat, k ≤ n ∧ i = .int .i64 ((k : Int) - 1) ∧ T.upTo row = T.upTo (row.take k) ∧ wr = w) (fun i _ => ((intOf i) + 1).toNat)
  case atStart => exact ⟨n, Nat.le_refl _, rfl, by rw [List.take_of_length_le (by rw [HLN.out]; exact Nat.le_refl _)], rfl⟩
  case round =>
    obtain ⟨k, hk, rfl, hup, rfl⟩ := hrel
    cases k with
    | zero =>
      have h0 : T.upTo row = 0 := by rw [hup]; simp [T.upTo]
      have HL : Hid (pre ++ T.line ws row = pre) := hid (by unfold T.line; rw [if_pos h0]; simp)
      clear h0 hup
      simp only [Int.natCast_zero, Int.zero_sub]
      go_wp2_with fail
      go_loopw [7, 24] (fun _ i wx => i = .int .i64 0 ∧ wx = wr) (fun _ _ _ => 0)
      case atStart => exact ⟨rfl, rfl⟩
      case round =>
        obtain ⟨rfl, rfl⟩ := hrel
        go_wp2_with fail
        go_end0
        exact ⟨rfl, by rw [HL.out]; exact F⟩
    | succ k =>
      rw [show ((k + 1 : Nat) : Int) - 1 = (k : Int) from by omega]
      rcases HA.out with h0 | ⟨g, off, rfl, hg, hc⟩
      · have := HLN.out; rw [h0] at this; simp at this; omega
      · have hkl : k < row.length := by rw [HLN.out]; omega
        have hck := hc k hkl
        rw [← F.below.cell (p := ⟨g, off + k, none⟩) hg] at hck
        have hxk := HX.out row[k] (List.getElem_mem _)
        have c1 : (k : Int) < (n : Int) := by omega
        cases ht : T.trim row[k] with
        | nil =>
          have HU : Hid (T.upTo row = T.upTo (row.take k)) := hid (by rw [hup, T.upTo_take_blank row k hkl (by rw [ht]; rfl)])
          have HT : Hid (∀ w, Calls Tryz.prog 75 #[.string ⟨row[k].toArray⟩] w fun e w' => e = .returned (.string ⟨#[]⟩) ∧ w' = w) := hid (fun w => by have := without_any row[k] w (by omega); rw [ht] at this; exact this)
          clear hup ht hc hxk
          generalize row[k] = x at *
          clear hkl
          go_wp2_with fail
          refine (HT.out _).mono ?_
          rintro e w' ⟨rfl, rfl⟩
          go_wp2_with fail
          exact ⟨⟨k, by omega, by go_num, HU.out, trivial⟩, by simp [intOf]⟩
        | cons y0 t0 =>
          have HU : Hid (T.upTo row = k + 1) := hid (by rw [hup, T.upTo_take_full row k hkl (by rw [ht]; rfl)])
          have HT : Hid (∀ w, Calls Tryz.prog 75 #[.string ⟨row[k].toArray⟩] w fun e w' => e = .returned (.string ⟨(T.trim row[k]).toArray⟩) ∧ w' = w) := hid (fun w => without_any row[k] w (by omega))
          have HLine : Hid (T.line ws row = T.fills ws row k ++ T.trim row[k]) := hid (by
            unfold T.line
            rw [HU.out, if_neg (by omega), Nat.add_sub_cancel, List.getD_eq_getElem?_getD, List.getElem?_eq_getElem hkl]
            rfl)
          have HE : Hid (∀ w : World, BL V w b pre → w.cell? ⟨g, off + k, none⟩ = some (.string ⟨row[k].toArray⟩)) := hid (fun w h => by rw [h.below.cell (p := ⟨g, off + k, none⟩) hg]; exact hc k hkl)
          have HC0 : Hid (∀ (w : World), Below V.heap.size V w → w.cell? ⟨g, off + k, none⟩ = some (.string ⟨row[k].toArray⟩)) := hid (fun w h => by rw [h.cell (p := ⟨g, off + k, none⟩) hg]; exact hc k hkl)
          have HC : Hid (∀ i (h : i < row.length), V.cell? ⟨g, off + i, none⟩ = some (.string ⟨row[i].toArray⟩)) := hc
          rw [ht] at HT HLine
          clear hup hc hxk
          generalize hxx : row[k] = x0 at *
          clear hxx hkl ht
          go_wp2_with fail
          refine (HT.out _).mono ?_
          rintro e w' ⟨rfl, rfl⟩
          go_wp2_with fail
          rcases HWA.out with hw0 | ⟨g2, off2, rfl, hg2, hcw⟩
          · have := HWN.out; rw [hw0] at this; simp at this; omega
          have HCW : Hid (∀ i (h : i < ws.length), V.cell? ⟨g2, off2 + i, none⟩ = some (.int .i64 (ws[i] : Int))) := hcw
          have HTT : Hid (pre.length + (T.line ws row).length ≤ 140737488355328) := hT
          clear hck hcw hT
          go_loopw [7, 24] (fun _ i wx => ∃ j : Nat, j ≤ k ∧ i = .int .i64 j ∧ BL V wx b (pre ++ T.fills ws row j)) (fun _ i _ => k - (intOf i).toNat)
          case atStart => exact ⟨0, Nat.zero_le _, rfl, by rw [T.fills_zero, List.append_nil]; exact F⟩
          case round =>
            clear F
            obtain ⟨j, hj, rfl, F⟩ := hrel
            by_cases hlt : j < k
            · have c2 : (j : Int) < (k : Int) := by omega
              have hjr : j < row.length := by rw [HLN.out]; omega
              have hjw : j < ws.length := by rw [HWN.out]; omega
              have HF1 := T.fills_succ ws row j
              have hle := fills_le ws row (j + 1) (by rw [HU.out]; omega)
              have hget : row.getD j [] = row[j] := by rw [List.getD_eq_getElem?_getD, List.getElem?_eq_getElem hjr]; rfl
              have hwget : ws.getD j 0 = ws[j] := by rw [List.getD_eq_getElem?_getD, List.getElem?_eq_getElem hjw]; rfl
              have hxy : row[j].length ≤ ws[j] := by
                rcases HFT.out j hjw with h1 | h1
                · rw [hget] at h1; rw [h1]; exact Nat.zero_le _
                · rw [hget] at h1; exact h1
              have hyb := HWB.out ws[j] (List.getElem_mem _)
              have HC1 : Hid (∀ (w : World), Below V.heap.size V w → w.cell? ⟨g, off + j, none⟩ = some (.string ⟨row[j].toArray⟩)) := hid (fun w h => by rw [h.cell (p := ⟨g, off + j, none⟩) hg]; exact HC.out j hjr)
              have HC2 : Hid (∀ (w : World), Below V.heap.size V w → w.cell? ⟨g2, off2 + j, none⟩ = some (.int .i64 (ws[j] : Int))) := hid (fun w h => by rw [h.cell (p := ⟨g2, off2 + j, none⟩) hg2]; exact HCW.out j hjw)
              rw [T.fillTo, hget, hwget] at HF1
              generalize row[j] = x at *
              generalize ws[j] = y at *
              generalize hq : pre ++ T.fills ws row j = q at *
              obtain ⟨sp, hsp⟩ : ∃ sp, sp = List.replicate (y - x.length) (32 : UInt8) := ⟨_, rfl⟩
              have HNX : Hid (pre ++ T.fills ws row (j + 1) = q ++ x ++ sp ++ [32, 32]) := hid (by rw [HF1, ← List.append_assoc, hq, hsp]; simp)
              have hql : q.length + x.length + sp.length + 2 ≤ 140737488355328 := by
                have h1 := congrArg List.length HNX.out
                have h2 := HTT.out
                simp only [List.length_append, List.length_cons, List.length_nil] at h1
                omega
              have HL6 : Hid (q.length + x.length ≤ 140737488355328) := hid (by omega)
              have HL7 : Hid ((q ++ x).length + sp.length ≤ 140737488355328) := hid (by simp; omega)
              have HL8 : Hid ((q ++ x ++ sp).length + ([32, 32] : List UInt8).length ≤ 140737488355328) := hid (by simp; omega)
              have HRP : Hid (∀ w, Calls Tryz.prog 77 #[.string ⟨#[32]⟩, .int .i64 ((y : Int) - (x.length : Int))] w fun e w' => e = .returned (.string ⟨sp.toArray⟩) ∧ Below w.heap.size w w') := hid (fun w => by
                have := blanks_any (y - x.length) w (by omega)
                rw [show ((y - x.length : Nat) : Int) = (y : Int) - (x.length : Int) from by omega, ← hsp] at this
                exact this)
              have hsz := arr_size x
              have c3 : (x.length : Int) ≤ (y : Int) := by omega
              have c4 : (y : Int) ≤ 1000000000 := by omega
              have c5 : (j : Int) < (n : Int) := by omega
              have c6 : (j : Int) < (nw : Int) := by omega
              have c7 : (j : Int) < 1000000000 := by omega
              have HWR : Hid (IntKind.i64.wrap ((y : Int) - (x.length : Int)) = (y : Int) - (x.length : Int)) := hid (by rw [IntKind.wrap_i64]; omega)
              have hcx := HC1.out _ F.below
              clear HF1 hle hget hwget hxy hyb hq hsp hql hjr hjw HE HC0 HC HCW HTT HT HLine HU
              go_wp2_with fail
              refine (write_any V _ b q x F HL6.out).mono ?_
              rintro e w6 ⟨rfl, F6'⟩
              have F6 : Hid (BL V w6.drew b (q ++ x)) := F6'.drew
              clear F6' F hcx
              go_wp2_with fail
              refine wp_region_held_drew (S := fun w => Below V.heap.size V w) (by kernel_rfl) F6.out.below (fun hHeld => ?_)
              refine tk 0 ⟨some 33, .move (.tmp 0), 90, "columns.go:39", #[], none⟩ (.pointer (some ⟨b, 0, none⟩)) ?_
              simp only [Act.put, List.setIfInBounds_toArray, List.set_cons_zero, List.set_cons_succ]
              refine tk 1 ⟨some 34, .move (.tmp 2), 88, "columns.go:39", #[], none⟩ (.slice (some ⟨g2, off2, none⟩) nw cw) ?_
              simp only [Act.put, List.setIfInBounds_toArray, List.set_cons_zero, List.set_cons_succ]
              refine tk 2 ⟨some 35, .move (.tmp 7), 3, "columns.go:39", #[], none⟩ (.int .i64 (j : Int)) ?_
              simp only [Act.put, List.setIfInBounds_toArray, List.set_cons_zero, List.set_cons_succ]
              refine tk 3 ⟨some 36, .indexAddr 88 (.tmp 34) (.tmp 35), 0, "columns.go:39", #[⟨1, .data⟩, ⟨2, .data⟩], none⟩ (.pointer (some ⟨g2, off2 + j, none⟩)) ?_
              simp only [Act.put, List.setIfInBounds_toArray, List.set_cons_zero, List.set_cons_succ]
              refine tk 4 ⟨some 37, .load 3 (.tmp 36), 3, "columns.go:39", #[⟨3, .data⟩], none⟩ (.int .i64 (y : Int)) ?_ (hy := Or.inl ⟨by rfl, by intro w hSw; have hcc := HC2.out w hSw; go_simp⟩)
              simp only [Act.put, List.setIfInBounds_toArray, List.set_cons_zero, List.set_cons_succ]
              refine tk 5 ⟨some 38, .move (.tmp 1), 24, "columns.go:39", #[], none⟩ (.slice (some ⟨g, off, none⟩) n c) ?_
              simp only [Act.put, List.setIfInBounds_toArray, List.set_cons_zero, List.set_cons_succ]
              refine tk 6 ⟨some 39, .move (.tmp 7), 3, "columns.go:39", #[], none⟩ (.int .i64 (j : Int)) ?_
              simp only [Act.put, List.setIfInBounds_toArray, List.set_cons_zero, List.set_cons_succ]
              refine tk 7 ⟨some 40, .indexAddr 24 (.tmp 38) (.tmp 39), 0, "columns.go:39", #[⟨5, .data⟩, ⟨6, .data⟩], none⟩ (.pointer (some ⟨g, off + j, none⟩)) ?_
              simp only [Act.put, List.setIfInBounds_toArray, List.set_cons_zero, List.set_cons_succ]
              refine tk 8 ⟨some 41, .load 9 (.tmp 40), 9, "columns.go:39", #[⟨7, .data⟩], none⟩ (.string ⟨x.toArray⟩) ?_ (hy := Or.inl ⟨by rfl, by intro w hSw; have hcc := HC1.out w hSw; go_simp⟩)
              simp only [Act.put, List.setIfInBounds_toArray, List.set_cons_zero, List.set_cons_succ]
              refine tk 9 ⟨some 42, .call { callee := .builtin .len, args := #[.tmp 41], argTypes := #[9] }, 3, "columns.go:39", #[⟨8, .data⟩], none⟩ (.int .i64 (x.length : Int)) ?_
              simp only [Act.put, List.setIfInBounds_toArray, List.set_cons_zero, List.set_cons_succ]
              refine tk 10 ⟨some 43, .binOp .sub 3 (.tmp 37) (.tmp 42) 3, 3, "columns.go:39", #[⟨4, .data⟩, ⟨9, .data⟩], none⟩ (.int .i64 ((y : Int) - (x.length : Int))) ?_ (hy := Or.inl ⟨by rfl, by intro w hSw; have hwr := HWR.out; go_simp⟩)
              simp only [Act.put, List.setIfInBounds_toArray, List.set_cons_zero, List.set_cons_succ]
              refine wpAnyH_ready (rs := [11]) (by kernel_rfl) (by simp) (AllReadyH.cons (o := ⟨some 44, .call { callee := .value (.func 77), args := #[.const (.string { data := #[32] }), .tmp 43], argTypes := #[9, 3] }, 9, "columns.go:39", #[⟨10, .data⟩], none⟩) rfl (fun KQ hK => ?_) AllReadyH.nil)
              go_simp
              refine (HRP.out _).mono ?_
              rintro en w2 ⟨rfl, hb2⟩
              go_wp2_with fail
              refine hK.out _ _ (F6.out.on hb2).below (fun hHeld => ?_)
              clear hK KQ
              try simp only [Act.put, List.setIfInBounds_toArray, List.set_cons_zero, List.set_cons_succ]
              refine wpAnyH_ready (rs := [12]) (by kernel_rfl) (by simp) (AllReadyH.cons (o := ⟨some 45, .call { callee := .value (.func 76), args := #[.tmp 33, .tmp 44], argTypes := #[90, 9] }, 113, "columns.go:39", #[⟨0, .data⟩, ⟨11, .data⟩, ⟨11, .chain⟩], none⟩) rfl (fun KQ hK => ?_) AllReadyH.nil)
              go_simp
              refine (write_any V _ b _ sp (F6.out.on hb2) HL7.out).mono ?_
              rintro en w3 ⟨rfl, F7⟩
              go_wp2_with fail
              refine hK.out _ _ F7.below (fun hHeld => ?_)
              clear hK KQ
              try simp only [Act.put, List.setIfInBounds_toArray, List.set_cons_zero, List.set_cons_succ]
              refine wpAnyH_done (by kernel_rfl) ?_ _
              go_wp2_with fail
              refine (write_any V _ b _ [32, 32] F7 HL8.out).mono ?_
              rintro e w8 ⟨rfl, F8⟩
              go_wp2_with fail
              exact ⟨⟨j + 1, by omega, by go_num, by rw [HNX.out]; exact F8⟩, by simp [intOf]; omega⟩
            · obtain rfl : j = k := by omega
              have HNX : Hid (pre ++ T.fills ws row j ++ (y0 :: t0) = pre ++ T.line ws row) := hid (by rw [HLine.out, List.append_assoc])
              have HL6 : Hid ((pre ++ T.fills ws row j).length + (y0 :: t0).length ≤ 140737488355328) := hid (by
                have h1 := congrArg List.length HNX.out
                have h2 := HTT.out
                simp only [List.length_append] at h1 ⊢
                omega)
              have hcx := HC0.out _ F.below
              clear HE HC0 HC HCW HTT HLine HU
              generalize pre ++ T.fills ws row j = q at *
              go_wp2_with fail
              refine (HT.out _).mono ?_
              rintro e w6 ⟨rfl, rfl⟩
              go_wp2_with fail
              refine (write_any V _ b q (y0 :: t0) F HL6.out).mono ?_
              rintro e w7 ⟨rfl, F7⟩
              go_wp2_with fail
              go_end0
              exact ⟨rfl, by rw [← HNX.out]; exact F7⟩
end Go.Proofs.YtbjinmlelchmgaaGreatDoor
namespace Go.Proofs.YtbjinmlelchmgaaGreatDoor
open Go.RowKit
namespace T
theorem foldl_ge (rows : List (List (List UInt8))) : ∀ (ws : List Nat), ws.length ≤ (rows.foldl mrg ws).length ∧ (∀ i, ws.getD i 0 ≤ (rows.foldl mrg ws).getD i 0) ∧ ∀ r ∈ rows, r.length ≤ (rows.foldl mrg ws).length ∧ ∀ i, (r.getD i []).length ≤ (rows.foldl mrg ws).getD i 0 := by
  induction rows with
  | nil => intro ws; simp
  | cons r rows ih =>
    intro ws
    obtain ⟨h1, h2, h3⟩ := ih (mrg ws r)
    have hl := mrg_length ws r
    simp only [List.foldl_cons]
    refine ⟨by omega, fun i => ?_, ?_⟩
    · have := h2 i
      rw [mrg_getD] at this
      omega
    · intro r' hr'
      rcases List.mem_cons.1 hr' with rfl | hr'
      · refine ⟨by omega, fun i => ?_⟩
        have := h2 i
        rw [mrg_getD] at this
        omega
      · exact h3 r' hr'
theorem widths_ge (rows : List (List (List UInt8))) (r : List (List UInt8)) (hr : r ∈ rows) : r.length ≤ (widths rows).length ∧ ∀ i, (r.getD i []).length ≤ (widths rows).getD i 0 := (foldl_ge rows []).2.2 r hr
theorem foldl_is (rows : List (List (List UInt8))) : ∀ (ws : List Nat) (i : Nat), (rows.foldl mrg ws).getD i 0 = ws.getD i 0 ∨ ∃ r ∈ rows, (r.getD i []).length = (rows.foldl mrg ws).getD i 0 := by
  induction rows with
  | nil => intro ws i; left; rfl
  | cons r rows ih =>
    intro ws i
    simp only [List.foldl_cons]
    rcases ih (mrg ws r) i with h | ⟨r', hr', h⟩
    · rw [mrg_getD] at h
      rcases Nat.le_total (ws.getD i 0) (r.getD i []).length with h1 | h1
      · right; exact ⟨r, by simp, by omega⟩
      · left; omega
    · right; exact ⟨r', by simp [hr'], h⟩
theorem widths_is (rows : List (List (List UInt8))) (i : Nat) : (widths rows).getD i 0 = 0 ∨ ∃ r ∈ rows, (r.getD i []).length = (widths rows).getD i 0 := by
  rcases foldl_is rows [] i with h | h
  · left; simpa [widths] using h
  · right; exact h
theorem widths_length_is (rows : List (List (List UInt8))) : ∀ ws : List Nat, (rows.foldl mrg ws).length = ws.length ∨ ∃ r ∈ rows, r.length = (rows.foldl mrg ws).length := by
  induction rows with
  | nil => intro ws; left; rfl
  | cons r rows ih =>
    intro ws
    simp only [List.foldl_cons]
    have hl := mrg_length ws r
    rcases ih (mrg ws r) with h | ⟨r', hr', h⟩
    · rcases Nat.le_total ws.length r.length with h1 | h1
      · right; exact ⟨r, by simp, by omega⟩
      · left; omega
    · right; exact ⟨r', by simp [hr'], h⟩
theorem getD_len (r : List (List UInt8)) (M : Nat) (h : ∀ x ∈ r, x.length ≤ M) (i : Nat) : (r.getD i []).length ≤ M := by
  rw [List.getD_eq_getElem?_getD]
  cases hi : r[i]? with
  | none => simp
  | some x => exact h x (List.mem_of_getElem? hi)
theorem widths_le (rows : List (List (List UInt8))) (M : Nat) (h : ∀ r ∈ rows, r.length ≤ M ∧ ∀ x ∈ r, x.length ≤ M) : (widths rows).length ≤ M ∧ ∀ x ∈ widths rows, x ≤ M := by
  refine ⟨?_, fun x hx => ?_⟩
  · rcases widths_length_is rows [] with h1 | ⟨r, hr, h1⟩
    · unfold widths; rw [h1]; exact Nat.zero_le _
    · unfold widths; rw [← h1]; exact (h r hr).1
  · obtain ⟨i, hi, rfl⟩ := List.getElem_of_mem hx
    have e : (widths rows)[i] = (widths rows).getD i 0 := by rw [List.getD_eq_getElem?_getD, List.getElem?_eq_getElem hi]; rfl
    rw [e]
    rcases widths_is rows i with h1 | ⟨r, hr, h1⟩
    · omega
    · rw [← h1]; exact getD_len r M (h r hr).2 i
theorem table_take (rows : List (List (List UInt8))) (ws : List Nat) (k : Nat) : (table (rows.take k) ws).length ≤ (table rows ws).length := by
  have : table rows ws = table (rows.take k) ws ++ table (rows.drop k) ws := by
    unfold table
    rw [← List.flatten_append, ← List.map_append, List.take_append_drop]
  rw [this, List.length_append]
  omega
end T
set_option maxRecDepth 40000 in
set_option maxHeartbeats 4000000 in
theorem columns_any (W : World) (ao : Option Addr) (n c : Nat) (rows : List (List (List UInt8))) (hl : rows.length = n) (hn : n ≤ 1000000000) (hr : ∀ r ∈ rows, r.length ≤ 1000000000 ∧ ∀ x ∈ r, x.length ≤ 1000000000) (hat : RowsAt W ao rows) (hT : (T.columns rows).length ≤ 140737488355328) :
    Calls Tryz.prog 22 #[.slice ao n c] W fun e w' => e = .returned (.string ⟨(T.columns rows).toArray⟩) ∧ Below W.heap.size W w' := by
  have b1 : (n : Int) ≤ 1000000000 := by omega
  have HW : Hid (Calls Tryz.prog 53 #[.slice ao n c] W fun e w' => ∃ v, e = .returned v ∧ HV W w' 3 v (ints (T.widths rows))) := widths_any W ao n c rows hl hn hr hat
  have hle := T.widths_le rows 1000000000 hr
  have HGE : Hid (∀ r ∈ rows, r.length ≤ (T.widths rows).length ∧ ∀ i, (r.getD i []).length ≤ (T.widths rows).getD i 0) := hid (fun r h => T.widths_ge rows r h)
  have HTT : Hid ((T.table rows (T.widths rows)).length ≤ 140737488355328) := hT
  have HFin : Hid (T.columns rows = T.table rows (T.widths rows)) := hid rfl
  have HA : Hid (RowsAt W ao rows) := hat
  have HR : Hid (∀ r ∈ rows, r.length ≤ 1000000000 ∧ ∀ x ∈ r, x.length ≤ 1000000000) := hr
  have HLN : Hid (rows.length = n) := hl
  generalize T.widths rows = ws at *
  have HLE : Hid (ws.length ≤ 1000000000 ∧ ∀ x ∈ ws, x ≤ 1000000000) := hle
  obtain ⟨nw, hnw⟩ : ∃ nw, ws.length = nw := ⟨_, rfl⟩
  have HNW : Hid (ws.length = nw) := hnw
  clear hat hr hl hT hle hnw
  go_enter Tryz.func22, Tryz.ntmps22
  go_wp2_with fail
  refine HW.out.mono ?_
  rintro e V ⟨v, rfl, FV⟩
  obtain ⟨aw, cw, rfl, hwat⟩ := FV.ints_at HNW.out
  have hbV := FV.below
  have HWAT : Hid (IntsAt V aw ws) := hwat
  have HAV : Hid (RowsAt V ao rows) := hid (HA.out.on hbV)
  clear hwat FV HA HW
  go_wp2_with fail
  have F0 := BL.fresh V
  go_loopw [6, 11] (fun _ i wr => ∃ k : Nat, k ≤ n ∧ i = .int .i64 k ∧ BL V wr V.heap.size (T.table (rows.take k) ws)) (fun _ i _ => n - (intOf i).toNat)
  case atStart => exact ⟨0, Nat.zero_le _, rfl, F0⟩
  case round =>
    clear F0
    obtain ⟨k, hk, rfl, F⟩ := hrel
    by_cases hlt : k < n
    · have c1 : (k : Int) < (n : Int) := by omega
      have hkl : k < rows.length := by rw [HLN.out]; exact hlt
      rcases HAV.out with h0 | ⟨g, off, rfl, hg, hc⟩
      · rw [h0] at hkl; simp at hkl
      · obtain ⟨ai, ci, hck, hs⟩ := hc k hkl
        rw [← F.below.cell (p := ⟨g, off + k, none⟩) hg] at hck
        have hge := HGE.out rows[k] (List.getElem_mem _)
        have hrb := HR.out rows[k] (List.getElem_mem _)
        have HNX : Hid (T.table (rows.take (k + 1)) ws = T.table (rows.take k) ws ++ T.line ws rows[k] ++ [10]) := hid (by rw [List.take_succ_eq_append_getElem hkl, T.table_snoc])
        have htk := T.table_take rows ws (k + 1)
        rw [HNX.out] at htk
        have hTT := HTT.out
        simp only [List.length_append, List.length_cons, List.length_nil] at htk
        have HL : Hid ((T.table (rows.take k) ws ++ T.line ws rows[k]).length + 1 ≤ 140737488355328) := hid (by rw [List.length_append]; omega)
        have HLY : Hid (∀ w, BL V w V.heap.size (T.table (rows.take k) ws) → Calls Tryz.prog 54 #[.pointer (some ⟨V.heap.size, 0, none⟩), .slice ai rows[k].length ci, .slice aw nw cw] w fun e w' => e = .returned (.tuple #[]) ∧ BL V w' V.heap.size (T.table (rows.take k) ws ++ T.line ws rows[k])) := hid (fun w h => by
          refine lay_any V w V.heap.size _ h ai rows[k].length ci rows[k] rfl hrb.1 hrb.2 hs aw nw cw ws HNW.out (by rw [← HNW.out]; exact hge.1) (fun i hi => .inr ?_) HLE.out.2 HWAT.out (by omega)
          have := hge.2 i
          rw [List.getD_eq_getElem?_getD (l := ws), List.getElem?_eq_getElem hi] at this
          exact this)
        clear hge hrb htk hTT hs hc
        generalize rows[k].length = m at *
        generalize T.line ws rows[k] = ln at *
        generalize T.table (rows.take k) ws = q at *
        clear hkl
        go_wp2_with fail
        refine (HLY.out _ F).mono ?_
        rintro e w2 ⟨rfl, F2⟩
        go_wp2_with fail
        refine (writeByte_any V _ _ _ F2 HL.out).mono ?_
        rintro e w3 ⟨rfl, F3⟩
        go_wp2_with fail
        exact ⟨⟨k + 1, by omega, by go_num, by rw [HNX.out]; exact F3⟩, by simp [intOf]; omega⟩
    · obtain rfl : k = n := by omega
      rw [List.take_of_length_le (by rw [HLN.out]; exact Nat.le_refl _)] at F
      rw [← HFin.out] at F
      obtain ⟨q, hq⟩ : ∃ q, T.columns rows = q := ⟨_, rfl⟩
      rw [hq] at F
      have HQ : Hid (T.columns rows = q) := hq
      clear hq
      go_wp2_with fail
      refine (string_any V _ _ q F).mono ?_
      rintro e w2 ⟨rfl, hb2⟩
      go_wp2_with fail
      go_ret
      exact ⟨by rw [HQ.out]; rfl, hbV.trans (hb2.mono hbV.size)⟩
end Go.Proofs.YtbjinmlelchmgaaGreatDoor
namespace Go.Proofs.YtbjinmlelchmgaaGreatDoor
open Go.RowKit
theorem AtB.on {W w : World} {ao : Option Addr} {l : List UInt8} (h : AtB W ao l) (hb : Below W.heap.size W w) : AtB w ao l := by
  rcases h with h0 | ⟨b, o, e, hlt, hc⟩
  · exact .inl h0
  · exact .inr ⟨b, o, e, Nat.lt_of_lt_of_le hlt hb.size, fun i hi => by rw [hb.cell (p := ⟨b, o + i, none⟩) hlt]; exact hc i hi⟩
end Go.Proofs.YtbjinmlelchmgaaGreatDoor
