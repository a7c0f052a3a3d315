/- A builder of the call's own, in plain words. layRow (27). -/
import Derived.Test.YtbjinmlelchmgaaGreatDoorCol1
import Derived.Deep.DeepCutAuto
namespace Go.Proofs.YtbjinmlelchmgaaGreatDoor
open Go.RowKit

/-- The builder in block b holds these bytes; what was there at V is as it was. -/
structure BL (V w : World) (b : Nat) (l : List UInt8) : Prop where
  bld : Lib.IsBuilderF 92 5 V.heap.size b (Lib.byteCells l) w
  below : Below V.heap.size V w
theorem builderAtF_on {B b : Nat} {p : Value} {bs : List Value} {w w' : World} (h : Lib.BuilderAtF 92 5 B b p bs w) (hb : Below w.heap.size w w') : Lib.BuilderAtF 92 5 B b p bs w' := by
  obtain ⟨hB, v, hbk, hown, hne⟩ := h
  refine ⟨hB, v, by rw [hb.block b (Array.getElem?_eq_some_iff.1 hbk).1]; exact hbk, ⟨hown.1, ?_⟩, hne⟩
  exact hown.2.imp id fun ⟨g, cap, cur, fz, hv, hbg, hg, r⟩ => ⟨g, cap, cur, fz, hv, hbg, by rw [hb.block g (Array.getElem?_eq_some_iff.1 hg).1]; exact hg, r⟩
theorem BL.on {V w w' : World} {b : Nat} {l : List UInt8} (h : BL V w b l) (hb : Below w.heap.size w w') : BL V w' b l :=
  ⟨h.bld.imp (fun x => builderAtF_on x hb) (fun x => builderAtF_on x hb), h.below.trans (hb.mono h.below.size)⟩
theorem BL.drew {V w : World} {b : Nat} {l : List UInt8} (h : BL V w b l) : BL V w.drew b l := h.on ((Below.refl _ _).drew)
theorem BL.fresh (w : World) : BL w (w.alloc (.cells #[.pointer none, .slice none 0 0] 92)) w.heap.size [] :=
  ⟨(Lib.fresh_isBuilder 92 5 w).imp (fun x => Lib.BuilderAtF.of x) (fun x => Lib.BuilderAtF.of x), (Below.refl _ w).alloc (Nat.le_refl _) _⟩
theorem write_any (V w : World) (b : Nat) (l s : List UInt8) (h : BL V w b l) (hlen : l.length + s.length ≤ 140737488355328) :
    Calls Tryz.prog 76 #[.pointer (some ⟨b, 0, none⟩), .string ⟨s.toArray⟩] w fun e w' => e = .returned (.tuple #[.int .i64 (s.length : Int), .nilIface]) ∧ BL V w' b (l ++ s) := by
  refine (Tryz.Builder_WriteString_k V.heap.size b _ ⟨s.toArray⟩ w h.bld (by rw [Lib.byteCells_length, arr_size]; exact hlen) h.below.size).mono ?_
  rintro e w' ⟨rfl, h1, h2, _⟩
  rw [arr_size]
  refine ⟨rfl, .inr ?_, h.below.trans h2⟩
  rw [Lib.byteCells_append]
  exact h1
theorem writeByte_any (V w : World) (b : Nat) (l : List UInt8) (h : BL V w b l) (hlen : l.length + 1 ≤ 140737488355328) :
    Calls Tryz.prog 55 #[.pointer (some ⟨b, 0, none⟩), .int .u8 10] w fun e w' => e = .returned .nilIface ∧ BL V w' b (l ++ [10]) := by
  refine (Tryz.Builder_WriteByte_k V.heap.size b _ 10 w h.bld (by rw [Lib.byteCells_length]; exact hlen) h.below.size).mono ?_
  rintro e w' ⟨rfl, h1, h2, _⟩
  refine ⟨rfl, .inr ?_, h.below.trans h2⟩
  rw [Lib.byteCells_append]
  exact h1
theorem string_any (V w : World) (b : Nat) (l : List UInt8) (h : BL V w b l) :
    Calls Tryz.prog 56 #[.pointer (some ⟨b, 0, none⟩)] w fun e w' => e = .returned (.string ⟨l.toArray⟩) ∧ Below V.heap.size V w' := by
  refine (Tryz.Builder_String_any_k V.heap.size b l w h.bld h.below.size).mono ?_
  rintro e w' ⟨rfl, _, h2, _⟩
  exact ⟨rfl, h.below.trans h2⟩
theorem blanks_any (c : Nat) (w : World) (hc : c ≤ 140737488355328) :
    Calls Tryz.prog 77 #[.string ⟨#[32]⟩, .int .i64 (c : Int)] w fun e w' => e = .returned (.string ⟨(List.replicate c 32).toArray⟩) ∧ Below w.heap.size w w' := by
  refine (Tryz.strings_Repeat ⟨#[32]⟩ c w (by omega) (by rw [show (⟨#[32]⟩ : ByteArray).size = 1 from rfl]; omega)).mono ?_
  rintro e w' ⟨rfl, hb⟩
  refine ⟨?_, hb⟩
  have := Lib.repeatL_replicate 32 1 c
  rw [Nat.mul_one] at this
  rw [← this]
  rfl
end Go.Proofs.YtbjinmlelchmgaaGreatDoor
namespace Go.Proofs.YtbjinmlelchmgaaGreatDoor
open Go.RowKit

def IntsAt (w : World) (ao : Option Addr) (l : List Nat) : Prop := l = [] ∨ ∃ b o, ao = some ⟨b, o, none⟩ ∧ b < w.heap.size ∧ ∀ i (h : i < l.length), w.cell? ⟨b, o + i, none⟩ = some (.int .i64 (l[i] : Int))
theorem HV.ints_at {W w : World} {v : Value} {ws : List Nat} {nw : Nat} (h : HV W w 3 v (ints ws)) (hn : ws.length = nw) : ∃ aw cw, v = .slice aw nw cw ∧ IntsAt w aw ws := by
  subst hn
  obtain ⟨aw, cw, hv⟩ := h.anyN (n := ws.length) (ints_length ws)
  refine ⟨aw, cw, hv, ?_⟩
  by_cases h0 : ws.length = 0
  · exact .inl (List.eq_nil_of_length_eq_zero h0)
  · obtain ⟨g, cap, hv2, _, hg⟩ := h.formN (n := ws.length) (ints_length ws) (by omega)
    rw [hv2] at hv h
    injection hv with h1 h2 h3
    subst h1
    refine .inr ⟨g, 0, rfl, hg, fun i hi => ?_⟩
    rw [Nat.zero_add]
    exact h.cell i _ (ints_get ws i hi)
theorem fills_le (ws : List Nat) (row : List (List UInt8)) (k : Nat) (h : k + 1 ≤ T.upTo row) : (T.fills ws row k).length ≤ (T.line ws row).length := by
  unfold T.line
  rw [if_neg (by omega)]
  obtain ⟨d, hd⟩ : ∃ d, T.upTo row - 1 = k + d := ⟨T.upTo row - 1 - k, by omega⟩
  rw [hd, List.length_append]
  have : ∀ d, (T.fills ws row k).length ≤ (T.fills ws row (k + d)).length := by
    intro d
    induction d with
    | zero => exact Nat.le_refl _
    | succ d ih => rw [← Nat.add_assoc, T.fills_succ, List.length_append]; omega
  have := this d
  omega
set_option maxRecDepth 40000 in
set_option maxHeartbeats 4000000 in
theorem lay_any (V w : World) (b : Nat) (pre : List UInt8) (F : BL V w b pre) (ao : Option Addr) (n c : Nat) (row : List (List UInt8)) (hl : row.length = n) (hn : n ≤ 1000000000) (hx : ∀ x ∈ row, x.length ≤ 1000000000) (hat : StrsAt V ao row) (aw : Option Addr) (nw cw : Nat) (ws : List Nat) (hws : ws.length = nw) (hnw : n ≤ nw) (hfit : ∀ i (h : i < ws.length), row.getD i [] = [] ∨ (row.getD i []).length ≤ ws[i]) (hwb : ∀ x ∈ ws, x ≤ 1000000000) (hwat : IntsAt V aw ws) (hT : pre.length + (T.line ws row).length ≤ 140737488355328) :
    Calls Tryz.prog 54 #[.pointer (some ⟨b, 0, none⟩), .slice ao n c, .slice aw nw cw] w fun e w' => e = .returned (.tuple #[]) ∧ BL V w' b (pre ++ T.line ws row) := by
  have b1 : (n : Int) ≤ 1000000000 := by omega
  have HA : Hid (StrsAt V ao row) := hat
  have HWA : Hid (IntsAt V aw ws) := hwat
  have HX : Hid (∀ x ∈ row, x.length ≤ 1000000000) := hx
  have HWB : Hid (∀ x ∈ ws, x ≤ 1000000000) := hwb
  have HFT : Hid (∀ i (h : i < ws.length), row.getD i [] = [] ∨ (row.getD i []).length ≤ ws[i]) := hfit
  have HLN : Hid (row.length = n) := hl
  have HWN : Hid (ws.length = nw) := hws
  clear hat hwat hx hwb hfit hl hws
  go_enter Tryz.func54, Tryz.ntmps54
  go_wp2_with fail
  go_loopw [6] (fun i wr => ∃ k : Nat, k ≤ n ∧ i = .int .i64 ((k : Int) - 1) ∧ T.upTo row = T.upTo (row.take k) ∧ wr = w) (fun i _ => ((intOf i) + 1).toNat)
  case atStart => exact ⟨n, Nat.le_refl _, rfl, by rw [List.take_of_length_le (by rw [HLN.out]; exact Nat.le_refl _)], rfl⟩
  case round =>
    obtain ⟨k, hk, rfl, hup, rfl⟩ := hrel
    cases k with
    | zero =>
      have h0 : T.upTo row = 0 := by rw [hup]; simp [T.upTo]
      have HL : Hid (pre ++ T.line ws row = pre) := hid (by unfold T.line; rw [if_pos h0]; simp)
      clear h0 hup
      simp only [Int.natCast_zero, Int.zero_sub]
      go_wp2_with fail
      go_loopw [7, 24] (fun _ i wx => i = .int .i64 0 ∧ wx = wr) (fun _ _ _ => 0)
      case atStart => exact ⟨rfl, rfl⟩
      case round =>
        obtain ⟨rfl, rfl⟩ := hrel
        go_wp2_with fail
        go_end0
        exact ⟨rfl, by rw [HL.out]; exact F⟩
    | succ k =>
      rw [show ((k + 1 : Nat) : Int) - 1 = (k : Int) from by omega]
      rcases HA.out with h0 | ⟨g, off, rfl, hg, hc⟩
      · have := HLN.out; rw [h0] at this; simp at this; omega
      · have hkl : k < row.length := by rw [HLN.out]; omega
        have hck := hc k hkl
        rw [← F.below.cell (p := ⟨g, off + k, none⟩) hg] at hck
        have hxk := HX.out row[k] (List.getElem_mem _)
        have c1 : (k : Int) < (n : Int) := by omega
        cases ht : T.trim row[k] with
        | nil =>
          have HU : Hid (T.upTo row = T.upTo (row.take k)) := hid (by rw [hup, T.upTo_take_blank row k hkl (by rw [ht]; rfl)])
          have HT : Hid (∀ w, Calls Tryz.prog 75 #[.string ⟨row[k].toArray⟩] w fun e w' => e = .returned (.string ⟨#[]⟩) ∧ w' = w) := hid (fun w => by have := without_any row[k] w (by omega); rw [ht] at this; exact this)
          clear hup ht hc hxk
          generalize row[k] = x at *
          clear hkl
          go_wp2_with fail
          refine (HT.out _).mono ?_
          rintro e w' ⟨rfl, rfl⟩
          go_wp2_with fail
          exact ⟨⟨k, by omega, by go_num, HU.out, trivial⟩, by simp [intOf]⟩
        | cons y0 t0 =>
          have HU : Hid (T.upTo row = k + 1) := hid (by rw [hup, T.upTo_take_full row k hkl (by rw [ht]; rfl)])
          have HT : Hid (∀ w, Calls Tryz.prog 75 #[.string ⟨row[k].toArray⟩] w fun e w' => e = .returned (.string ⟨(T.trim row[k]).toArray⟩) ∧ w' = w) := hid (fun w => without_any row[k] w (by omega))
          have HLine : Hid (T.line ws row = T.fills ws row k ++ T.trim row[k]) := hid (by
            unfold T.line
            rw [HU.out, if_neg (by omega), Nat.add_sub_cancel, List.getD_eq_getElem?_getD, List.getElem?_eq_getElem hkl]
            rfl)
          have HE : Hid (∀ w : World, BL V w b pre → w.cell? ⟨g, off + k, none⟩ = some (.string ⟨row[k].toArray⟩)) := hid (fun w h => by rw [h.below.cell (p := ⟨g, off + k, none⟩) hg]; exact hc k hkl)
          have HC0 : Hid (∀ (w : World), Below V.heap.size V w → w.cell? ⟨g, off + k, none⟩ = some (.string ⟨row[k].toArray⟩)) := hid (fun w h => by rw [h.cell (p := ⟨g, off + k, none⟩) hg]; exact hc k hkl)
          have HC : Hid (∀ i (h : i < row.length), V.cell? ⟨g, off + i, none⟩ = some (.string ⟨row[i].toArray⟩)) := hc
          rw [ht] at HT HLine
          clear hup hc hxk
          generalize hxx : row[k] = x0 at *
          clear hxx hkl ht
          go_wp2_with fail
          refine (HT.out _).mono ?_
          rintro e w' ⟨rfl, rfl⟩
          go_wp2_with fail
          rcases HWA.out with hw0 | ⟨g2, off2, rfl, hg2, hcw⟩
          · have := HWN.out; rw [hw0] at this; simp at this; omega
          have HCW : Hid (∀ i (h : i < ws.length), V.cell? ⟨g2, off2 + i, none⟩ = some (.int .i64 (ws[i] : Int))) := hcw
          have HTT : Hid (pre.length + (T.line ws row).length ≤ 140737488355328) := hT
          clear hck hcw hT
          go_loopw [7, 24] (fun _ i wx => ∃ j : Nat, j ≤ k ∧ i = .int .i64 j ∧ BL V wx b (pre ++ T.fills ws row j)) (fun _ i _ => k - (intOf i).toNat)
          case atStart => exact ⟨0, Nat.zero_le _, rfl, by rw [T.fills_zero, List.append_nil]; exact F⟩
          case round =>
            clear F
            obtain ⟨j, hj, rfl, F⟩ := hrel
            by_cases hlt : j < k
            · have c2 : (j : Int) < (k : Int) := by omega
              have hjr : j < row.length := by rw [HLN.out]; omega
              have hjw : j < ws.length := by rw [HWN.out]; omega
              have HF1 := T.fills_succ ws row j
              have hle := fills_le ws row (j + 1) (by rw [HU.out]; omega)
              have hget : row.getD j [] = row[j] := by rw [List.getD_eq_getElem?_getD, List.getElem?_eq_getElem hjr]; rfl
              have hwget : ws.getD j 0 = ws[j] := by rw [List.getD_eq_getElem?_getD, List.getElem?_eq_getElem hjw]; rfl
              have hxy : row[j].length ≤ ws[j] := by
                rcases HFT.out j hjw with h1 | h1
                · rw [hget] at h1; rw [h1]; exact Nat.zero_le _
                · rw [hget] at h1; exact h1
              have hyb := HWB.out ws[j] (List.getElem_mem _)
              have HC1 : Hid (∀ (w : World), Below V.heap.size V w → w.cell? ⟨g, off + j, none⟩ = some (.string ⟨row[j].toArray⟩)) := hid (fun w h => by rw [h.cell (p := ⟨g, off + j, none⟩) hg]; exact HC.out j hjr)
              have HC2 : Hid (∀ (w : World), Below V.heap.size V w → w.cell? ⟨g2, off2 + j, none⟩ = some (.int .i64 (ws[j] : Int))) := hid (fun w h => by rw [h.cell (p := ⟨g2, off2 + j, none⟩) hg2]; exact HCW.out j hjw)
              rw [T.fillTo, hget, hwget] at HF1
              generalize row[j] = x at *
              generalize ws[j] = y at *
              generalize hq : pre ++ T.fills ws row j = q at *
              obtain ⟨sp, hsp⟩ : ∃ sp, sp = List.replicate (y - x.length) (32 : UInt8) := ⟨_, rfl⟩
              have HNX : Hid (pre ++ T.fills ws row (j + 1) = q ++ x ++ sp ++ [32, 32]) := hid (by rw [HF1, ← List.append_assoc, hq, hsp]; simp)
              have hql : q.length + x.length + sp.length + 2 ≤ 140737488355328 := by
                have h1 := congrArg List.length HNX.out
                have h2 := HTT.out
                simp only [List.length_append, List.length_cons, List.length_nil] at h1
                omega
              have HL6 : Hid (q.length + x.length ≤ 140737488355328) := hid (by omega)
              have HL7 : Hid ((q ++ x).length + sp.length ≤ 140737488355328) := hid (by simp; omega)
              have HL8 : Hid ((q ++ x ++ sp).length + ([32, 32] : List UInt8).length ≤ 140737488355328) := hid (by simp; omega)
              have HRP : Hid (∀ w, Calls Tryz.prog 77 #[.string ⟨#[32]⟩, .int .i64 ((y : Int) - (x.length : Int))] w fun e w' => e = .returned (.string ⟨sp.toArray⟩) ∧ Below w.heap.size w w') := hid (fun w => by
                have := blanks_any (y - x.length) w (by omega)
                rw [show ((y - x.length : Nat) : Int) = (y : Int) - (x.length : Int) from by omega, ← hsp] at this
                exact this)
              have hsz := arr_size x
              have c3 : (x.length : Int) ≤ (y : Int) := by omega
              have c4 : (y : Int) ≤ 1000000000 := by omega
              have c5 : (j : Int) < (n : Int) := by omega
              have c6 : (j : Int) < (nw : Int) := by omega
              have c7 : (j : Int) < 1000000000 := by omega
              have HWR : Hid (IntKind.i64.wrap ((y : Int) - (x.length : Int)) = (y : Int) - (x.length : Int)) := hid (by rw [IntKind.wrap_i64]; omega)
              have hcx := HC1.out _ F.below
              clear HF1 hle hget hwget hxy hyb hq hsp hql hjr hjw HE HC0 HC HCW HTT HT HLine HU
              go_wp2_with fail
              refine (write_any V _ b q x F HL6.out).mono ?_
              rintro e w6 ⟨rfl, F6'⟩
              have F6 : Hid (BL V w6.drew b (q ++ x)) := F6'.drew
              clear F6' F hcx
              go_wp2_with fail
              refine wp_region_held_drew (S := fun w => Below V.heap.size V w) (by kernel_rfl) F6.out.below (fun hHeld => ?_)
              refine wpAnyH_take (i := 0) (oi := { dst := some 33, op := Op.move (Operand.tmp 0), type := 90, pos := "columns.go:39", after := #[], guard := none }) (v := .pointer (some ⟨b, 0, none⟩)) rfl (by kernel_rfl) (by kernel_rfl) (by kernel_rfl) (fun _ _ _ h => h) (Or.inl ⟨by rfl, by intro w hSw; go_simp⟩) (by assumption) ?_
              simp only [Act.put, List.setIfInBounds_toArray, List.set_cons_zero, List.set_cons_succ]
              refine wpAnyH_take (i := 1) (oi := { dst := some 34, op := Op.move (Operand.tmp 2), type := 88, pos := "columns.go:39", after := #[], guard := none }) (v := .slice (some ⟨g2, off2, none⟩) nw cw) rfl (by kernel_rfl) (by kernel_rfl) (by kernel_rfl) (fun _ _ _ h => h) (Or.inl ⟨by rfl, by intro w hSw; go_simp⟩) (by assumption) ?_
              simp only [Act.put, List.setIfInBounds_toArray, List.set_cons_zero, List.set_cons_succ]
              refine wpAnyH_take (i := 2) (oi := { dst := some 35, op := Op.move (Operand.tmp 7), type := 3, pos := "columns.go:39", after := #[], guard := none }) (v := .int .i64 (j : Int)) rfl (by kernel_rfl) (by kernel_rfl) (by kernel_rfl) (fun _ _ _ h => h) (Or.inl ⟨by rfl, by intro w hSw; go_simp⟩) (by assumption) ?_
              simp only [Act.put, List.setIfInBounds_toArray, List.set_cons_zero, List.set_cons_succ]
              refine wpAnyH_take (i := 3) (oi := { dst := some 36, op := Op.indexAddr 88 (Operand.tmp 34) (Operand.tmp 35), type := 0, pos := "columns.go:39", after := #[{ on := 1, ground := Ground.data }, { on := 2, ground := Ground.data }], guard := none }) (v := .pointer (some ⟨g2, off2 + j, none⟩)) rfl (by kernel_rfl) (by kernel_rfl) (by kernel_rfl) (fun _ _ _ h => h) (Or.inl ⟨by rfl, by intro w hSw; go_simp⟩) (by assumption) ?_
              simp only [Act.put, List.setIfInBounds_toArray, List.set_cons_zero, List.set_cons_succ]
              refine wpAnyH_take (i := 4) (oi := { dst := some 37, op := Op.load 3 (Operand.tmp 36), type := 3, pos := "columns.go:39", after := #[{ on := 3, ground := Ground.data }], guard := none }) (v := .int .i64 (y : Int)) rfl (by kernel_rfl) (by kernel_rfl) (by kernel_rfl) (fun _ _ _ h => h) (Or.inl ⟨by rfl, by intro w hSw; have hcc := HC2.out w hSw; go_simp⟩) (by assumption) ?_
              simp only [Act.put, List.setIfInBounds_toArray, List.set_cons_zero, List.set_cons_succ]
              refine wpAnyH_take (i := 5) (oi := { dst := some 38, op := Op.move (Operand.tmp 1), type := 24, pos := "columns.go:39", after := #[], guard := none }) (v := .slice (some ⟨g, off, none⟩) n c) rfl (by kernel_rfl) (by kernel_rfl) (by kernel_rfl) (fun _ _ _ h => h) (Or.inl ⟨by rfl, by intro w hSw; go_simp⟩) (by assumption) ?_
              simp only [Act.put, List.setIfInBounds_toArray, List.set_cons_zero, List.set_cons_succ]
              refine wpAnyH_take (i := 6) (oi := { dst := some 39, op := Op.move (Operand.tmp 7), type := 3, pos := "columns.go:39", after := #[], guard := none }) (v := .int .i64 (j : Int)) rfl (by kernel_rfl) (by kernel_rfl) (by kernel_rfl) (fun _ _ _ h => h) (Or.inl ⟨by rfl, by intro w hSw; go_simp⟩) (by assumption) ?_
              simp only [Act.put, List.setIfInBounds_toArray, List.set_cons_zero, List.set_cons_succ]
              refine wpAnyH_take (i := 7) (oi := { dst := some 40, op := Op.indexAddr 24 (Operand.tmp 38) (Operand.tmp 39), type := 0, pos := "columns.go:39", after := #[{ on := 5, ground := Ground.data }, { on := 6, ground := Ground.data }], guard := none }) (v := .pointer (some ⟨g, off + j, none⟩)) rfl (by kernel_rfl) (by kernel_rfl) (by kernel_rfl) (fun _ _ _ h => h) (Or.inl ⟨by rfl, by intro w hSw; go_simp⟩) (by assumption) ?_
              simp only [Act.put, List.setIfInBounds_toArray, List.set_cons_zero, List.set_cons_succ]
              refine wpAnyH_take (i := 8) (oi := { dst := some 41, op := Op.load 9 (Operand.tmp 40), type := 9, pos := "columns.go:39", after := #[{ on := 7, ground := Ground.data }], guard := none }) (v := .string ⟨x.toArray⟩) rfl (by kernel_rfl) (by kernel_rfl) (by kernel_rfl) (fun _ _ _ h => h) (Or.inl ⟨by rfl, by intro w hSw; have hcc := HC1.out w hSw; go_simp⟩) (by assumption) ?_
              simp only [Act.put, List.setIfInBounds_toArray, List.set_cons_zero, List.set_cons_succ]
              refine wpAnyH_take (i := 9) (oi := { dst := some 42, op := Op.call { callee := Callee.builtin Builtin.len, args := #[Operand.tmp 41], argTypes := #[9] }, type := 3, pos := "columns.go:39", after := #[{ on := 8, ground := Ground.data }], guard := none }) (v := .int .i64 (x.length : Int)) rfl (by kernel_rfl) (by kernel_rfl) (by kernel_rfl) (fun _ _ _ h => h) (Or.inl ⟨by rfl, by intro w hSw; go_simp⟩) (by assumption) ?_
              simp only [Act.put, List.setIfInBounds_toArray, List.set_cons_zero, List.set_cons_succ]
              refine wpAnyH_take (i := 10) (oi := { dst := some 43, op := Op.binOp BinOp.sub 3 (Operand.tmp 37) (Operand.tmp 42) 3, type := 3, pos := "columns.go:39", after := #[{ on := 4, ground := Ground.data }, { on := 9, ground := Ground.data }], guard := none }) (v := .int .i64 ((y : Int) - (x.length : Int))) rfl (by kernel_rfl) (by kernel_rfl) (by kernel_rfl) (fun _ _ _ h => h) (Or.inl ⟨by rfl, by intro w hSw; have hwr := HWR.out; go_simp⟩) (by assumption) ?_
              simp only [Act.put, List.setIfInBounds_toArray, List.set_cons_zero, List.set_cons_succ]
              refine wpAnyH_ready (rs := [11]) (by kernel_rfl) (by simp) (AllReadyH.cons (o := { dst := some 44, op := Op.call { callee := Callee.value (Operand.func 77), args := #[Operand.const (Value.string { data := #[32] }), Operand.tmp 43], argTypes := #[9, 3] }, type := 9, pos := "columns.go:39", after := #[{ on := 10, ground := Ground.data }], guard := none }) rfl (fun KQ hK => ?_) AllReadyH.nil)
              go_simp
              refine (HRP.out _).mono ?_
              rintro en w2 ⟨rfl, hb2⟩
              go_wp2_with fail
              refine hK.out _ _ (F6.out.on hb2).below (fun hHeld => ?_)
              clear hK KQ
              try simp only [Act.put, List.setIfInBounds_toArray, List.set_cons_zero, List.set_cons_succ]
              refine wpAnyH_ready (rs := [12]) (by kernel_rfl) (by simp) (AllReadyH.cons (o := { dst := some 45, op := Op.call { callee := Callee.value (Operand.func 76), args := #[Operand.tmp 33, Operand.tmp 44], argTypes := #[90, 9] }, type := 113, pos := "columns.go:39", after := #[{ on := 0, ground := Ground.data }, { on := 11, ground := Ground.data }, { on := 11, ground := Ground.chain }], guard := none }) rfl (fun KQ hK => ?_) AllReadyH.nil)
              go_simp
              refine (write_any V _ b _ sp (F6.out.on hb2) HL7.out).mono ?_
              rintro en w3 ⟨rfl, F7⟩
              go_wp2_with fail
              refine hK.out _ _ F7.below (fun hHeld => ?_)
              clear hK KQ
              try simp only [Act.put, List.setIfInBounds_toArray, List.set_cons_zero, List.set_cons_succ]
              refine wpAnyH_done (by kernel_rfl) ?_ _
              go_wp2_with fail
              refine (write_any V _ b _ [32, 32] F7 HL8.out).mono ?_
              rintro e w8 ⟨rfl, F8⟩
              go_wp2_with fail
              exact ⟨⟨j + 1, by omega, by go_num, by rw [HNX.out]; exact F8⟩, by simp [intOf]; omega⟩
            · obtain rfl : j = k := by omega
              have HNX : Hid (pre ++ T.fills ws row j ++ (y0 :: t0) = pre ++ T.line ws row) := hid (by rw [HLine.out, List.append_assoc])
              have HL6 : Hid ((pre ++ T.fills ws row j).length + (y0 :: t0).length ≤ 140737488355328) := hid (by
                have h1 := congrArg List.length HNX.out
                have h2 := HTT.out
                simp only [List.length_append] at h1 ⊢
                omega)
              have hcx := HC0.out _ F.below
              clear HE HC0 HC HCW HTT HLine HU
              generalize pre ++ T.fills ws row j = q at *
              go_wp2_with fail
              refine (HT.out _).mono ?_
              rintro e w6 ⟨rfl, rfl⟩
              go_wp2_with fail
              refine (write_any V _ b q (y0 :: t0) F HL6.out).mono ?_
              rintro e w7 ⟨rfl, F7⟩
              go_wp2_with fail
              go_end0
              exact ⟨rfl, by rw [← HNX.out]; exact F7⟩
end Go.Proofs.YtbjinmlelchmgaaGreatDoor
