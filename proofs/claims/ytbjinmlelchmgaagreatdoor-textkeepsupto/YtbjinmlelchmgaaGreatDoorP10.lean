import Derived.Test.YtbjinmlelchmgaaGreatDoorP09
import Derived.Test.YtbjinmlelchmgaaGreatDoorP01
import Derived.Deep.RegionHeld3
import Derived.OwnWalk
namespace Go.Proofs.YtbjinmlelchmgaaGreatDoor
open Go.RowKit
def lenOfV : Value → Nat | .slice _ k _ => k | _ => 0
set_option maxRecDepth 40000 in
set_option maxHeartbeats 4000000 in
theorem rcolumns_any (W : World) (ao : Option Addr) (n c : Nat) (rows : List (List (List UInt8))) (hl : rows.length = n) (hn : n ≤ 1000000000) (hr : ∀ r ∈ rows, r.length ≤ 1000000000 ∧ ∀ x ∈ r, x.length ≤ 1000000000) (hat : RowsAt W ao rows)
    (hF : ∀ r ∈ rows, (T.fills (T.widths rows) r r.length).length ≤ 1000000000000) (hT : (T.columns rows).length ≤ 1000000000000) :
    Calls Tryz.prog 24 #[.slice ao n c] W fun e w' => e = .returned (.string ⟨(T.columns rows).toArray⟩) ∧ Below W.heap.size W w' := by
  obtain ⟨i0, hi, hz0, hz1, hz2⟩ := info_parts Tryz.info5
  have b1 : (n : Int) ≤ 1000000000 := by omega
  have HWD : Hid (∀ (w : World) (j : Nat), j ≤ 1000000000 → RowsAt w ao rows → Calls Tryz.prog 58 #[.slice ao n c, .int .i64 j] w fun e w' => e = .returned (.int .i64 ((T.widths rows).getD j 0 : Nat)) ∧ w' = w) := hid (fun w j hj h => by rw [T.widths_getD]; exact rwidth_any w ao n c rows j hl hn hj hr h)
  have HWB : Hid (∀ j, (T.widths rows).getD j 0 ≤ 1000000000 ∧ ∀ r ∈ rows, (r.getD j []).length ≤ (T.widths rows).getD j 0) := hid (fun j => by
    rw [T.widths_getD]
    exact ⟨T.widthR_le j _ rows (fun r h => T.getD_le r _ (hr r h).2 j) 0 (by omega), (T.widthR_ge j rows 0).2⟩)
  have HFF : Hid (∀ r ∈ rows, (T.fills (T.widths rows) r r.length).length ≤ 1000000000000) := hF
  have HTT : Hid ((T.table rows (T.widths rows)).length ≤ 1000000000000) := hT
  have HFin : Hid (T.columns rows = T.table rows (T.widths rows)) := hid rfl
  have HA : Hid (RowsAt W ao rows) := hat
  have HR : Hid (∀ r ∈ rows, r.length ≤ 1000000000 ∧ ∀ x ∈ r, x.length ≤ 1000000000) := hr
  have HLN : Hid (rows.length = n) := hl
  generalize T.widths rows = ws at *
  clear hat hr hl hT hF
  go_enter Tryz.func24, Tryz.ntmps24
  go_wp2_with fail
  go_loopw [3, 4, 5, 6, 7] (fun o i _ _ _ wr => ∃ k : Nat, k ≤ n ∧ i = .int .i64 k ∧ HB W wr o (T.table (rows.take k) ws)) (fun _ i _ _ _ _ => n - (intOf i).toNat)
  case atStart => exact ⟨0, Nat.zero_le _, rfl, HB.start W⟩
  case round =>
    obtain ⟨k, hk, rfl, F⟩ := hrel
    by_cases hlt : k < n
    · have c1 : (k : Int) < (n : Int) := by omega
      have hkl : k < rows.length := by rw [HLN.out]; exact hlt
      have HAR : Hid (RowsAt wr ao rows) := hid (HA.out.on F.below)
      rcases HA.out with h0 | ⟨b, off, rfl, hb, hc⟩
      · rw [h0] at hkl; simp at hkl
      obtain ⟨ai, ci, hck, hs⟩ := hc k hkl
      have HCK : Hid (∀ w2, Below wr.heap.size wr w2 → w2.cell? ⟨b, off + k, none⟩ = some (.slice ai rows[k].length ci)) := hid (fun w2 h2 => by
        rw [(F.below.trans (h2.mono F.below.size)).cell (p := ⟨b, off + k, none⟩) hb]; exact hck)
      have HS : Hid (StrsAt wr ai rows[k]) := hid (hs.on F.below)
      have HNX : Hid (T.table (rows.take (k + 1)) ws = T.table (rows.take k) ws ++ T.line ws rows[k] ++ [10]) := hid (by rw [List.take_succ_eq_append_getElem hkl, T.table_snoc])
      have htk := T.table_le rows ws (k + 1)
      rw [HNX.out] at htk
      have hTT := HTT.out
      simp only [List.length_append, List.length_cons, List.length_nil] at htk
      have HL1 : Hid ((T.table (rows.take k) ws).length + (T.line ws rows[k]).length + 1 ≤ 1000000000000) := hid (by omega)
      have hrb := HR.out rows[k] (List.getElem_mem _)
      have HXB : Hid (∀ x ∈ rows[k], x.length ≤ 1000000000) := hrb.2
      have HFR : Hid ((T.fills ws rows[k] rows[k].length).length ≤ 1000000000000) := hid (HFF.out _ (List.getElem_mem _))
      have HWX : Hid (∀ j, ws.getD j 0 ≤ 1000000000 ∧ (rows[k].getD j []).length ≤ ws.getD j 0) := hid (fun j => ⟨(HWB.out j).1, (HWB.out j).2 _ (List.getElem_mem _)⟩)
      have hm1 := hrb.1
      clear hc hck hs htk hTT hrb HFF HTT HWB HR
      generalize rows[k] = row at *
      generalize T.table (rows.take k) ws = tb at *
      obtain ⟨m, hml⟩ : ∃ m, row.length = m := ⟨_, rfl⟩
      have HML : Hid (row.length = m) := hml
      rw [hml] at HCK hm1 HFR
      have c2 : (m : Int) ≤ 1000000000 := by omega
      have HF0 : Hid (HB W wr u3 tb) := F
      have hck1 := HCK.out wr (Below.refl _ _)
      clear F hml hkl
      generalize wr = V at *
      go_wp2_with fail
      go_loopw [5, 6, 7] (fun r j _ w2 => ∃ q : Nat, q ≤ m ∧ j = .int .i64 q ∧ HB V w2 r (T.laid ws row q)) (fun _ j _ _ => m - (intOf j).toNat)
      case atStart => exact ⟨0, Nat.zero_le _, rfl, by rw [T.laid_zero]; exact HB.start V⟩
      case round =>
        obtain ⟨q, hq, rfl, F⟩ := hrel
        clear hck1
        have hck2 := HCK.out _ F.below
        by_cases hqm : q < m
        · have c3 : (q : Int) < (m : Int) := by omega
          have hqr : q < row.length := by rw [HML.out]; exact hqm
          have HAT : Hid (∀ w2, Below V.heap.size V w2 → RowsAt w2 (some ⟨b, off, none⟩) rows) := hid (fun w2 h2 => HAR.out.on h2)
          rcases HS.out with h0 | ⟨b2, off2, rfl, hb2, hc2⟩
          · rw [h0] at hqr; simp at hqr
          have HCX : Hid (∀ w2, Below V.heap.size V w2 → w2.cell? ⟨b2, off2 + q, none⟩ = some (.string ⟨row[q].toArray⟩)) := hid (fun w2 h2 => by
            rw [h2.cell (p := ⟨b2, off2 + q, none⟩) hb2]; exact hc2 q hqr)
          have hcx := HCX.out _ F.below
          have hxl := HXB.out row[q] (List.getElem_mem _)
          have hwq := HWX.out q
          rw [List.getD_eq_getElem?_getD (l := row), List.getElem?_eq_getElem hqr, Option.getD_some] at hwq
          have hlen := T.laid_len ws row q
          rw [HML.out] at hlen
          have HLQ : Hid ((T.laid ws row q).length ≤ 1000000000000) := hid (by have := HFR.out; omega)
          have HST : Hid (q + 1 < m → T.laid ws row (q + 1) = (T.laid ws row q ++ row[q]) ++ List.replicate (ws.getD q 0 - row[q].length + 2) 32) := hid (fun h => T.laid_step ws row q (by rw [HML.out]; exact h))
          have HLA : Hid (q + 1 = m → T.laid ws row (q + 1) = T.laid ws row q ++ row[q]) := hid (fun h => T.laid_last ws row q (by rw [HML.out]; exact h))
          clear hc2 hlen
          generalize row[q] = x at *
          generalize T.laid ws row q = ld at *
          have hsz := arr_size x
          have HXS : Hid ((⟨x.toArray⟩ : ByteArray).size ≤ 1000000000) := hid (by omega)
          have HF : Hid (HB V wr u5 ld) := F
          clear F hqr
          by_cases hq1 : q + 1 < m
          · have c4 : (q : Int) + 1 < (m : Int) := by omega
            have HS2 := hid (HST.out hq1)
            have HWC : Hid (∀ w, Below V.heap.size V w → Calls Tryz.prog 58 #[.slice (some ⟨b, off, none⟩) n c, .int .i64 q] w fun e w' => e = .returned (.int .i64 (ws.getD q 0 : Nat)) ∧ w' = w) := hid (fun w h => HWD.out w q (by omega) (HAT.out w h))
            clear HST HLA HWX
            generalize ws.getD q 0 = wd at *
            go_wp2_with (first | (at_builtin; refine wpList_append_text rfl _ _ 26 9 rfl i0 Tryz.underlying26 Tryz.underlying9 hi hz0 hz1 hz2 _ _ rfl HF.out _ rfl (by have := HXS.out; have := HLQ.out; omega) ?_; intro v3 w3 F3; have hck3 := HCK.out _ F3.below; have hcx3 := HCX.out _ F3.below))
            have q1 := wrap_sm ((wd : Int) - (x.length : Int)) (by omega) (by omega)
            have q2 := wrap_sm ((wd : Int) - (x.length : Int) + 2) (by omega) (by omega)
            have d1 : w3.drew.cell? ⟨b, off + k, none⟩ = some (.slice (some ⟨b2, off2, none⟩) m ci) := hck3
            have d2 : w3.drew.cell? ⟨b2, off2 + q, none⟩ = some (.string ⟨x.toArray⟩) := hcx3
            have z0 : (0 : Int) ≤ (k : Int) := by omega
            have z1 : (0 : Int) ≤ (q : Int) := by omega
            refine wp_region_held_drew (S := fun x => x = w3.drew) (by kernel_rfl) rfl (fun hHeld => ?_)
            refine tk 0 ⟨some 40, .move (.tmp 0), 32, "ref.go:270", #[], none⟩ (.slice (some ⟨b, off, none⟩) n c) ?_ (hy := Or.inl ⟨by rfl, by intro w hSw; subst hSw; go_simp⟩)
            simp only [Act.put, List.setIfInBounds_toArray, List.set_cons_zero, List.set_cons_succ]
            refine tk 1 ⟨some 41, .move (.tmp 6), 3, "ref.go:270", #[], none⟩ (.int .i64 (q : Int)) ?_ (hy := Or.inl ⟨by rfl, by intro w hSw; subst hSw; go_simp⟩)
            simp only [Act.put, List.setIfInBounds_toArray, List.set_cons_zero, List.set_cons_succ]
            refine tk 3 ⟨some 43, .move (.tmp 0), 32, "ref.go:270", #[], none⟩ (.slice (some ⟨b, off, none⟩) n c) ?_ (hy := Or.inl ⟨by rfl, by intro w hSw; subst hSw; go_simp⟩)
            simp only [Act.put, List.setIfInBounds_toArray, List.set_cons_zero, List.set_cons_succ]
            refine tk 4 ⟨some 44, .move (.tmp 4), 3, "ref.go:270", #[], none⟩ (.int .i64 (k : Int)) ?_ (hy := Or.inl ⟨by rfl, by intro w hSw; subst hSw; go_simp⟩)
            simp only [Act.put, List.setIfInBounds_toArray, List.set_cons_zero, List.set_cons_succ]
            refine tk 5 ⟨some 45, .indexAddr 32 (.tmp 43) (.tmp 44), 0, "ref.go:270", #[⟨3, .data⟩, ⟨4, .data⟩], none⟩ (.pointer (some ⟨b, off + k, none⟩)) ?_ (hy := Or.inl ⟨by rfl, by intro w hSw; subst hSw; go_simp⟩)
            simp only [Act.put, List.setIfInBounds_toArray, List.set_cons_zero, List.set_cons_succ]
            refine tk 6 ⟨some 46, .load 24 (.tmp 45), 24, "ref.go:270", #[⟨5, .data⟩], none⟩ (.slice (some ⟨b2, off2, none⟩) m ci) ?_ (hy := Or.inl ⟨by rfl, by intro w hSw; subst hSw; go_simp⟩)
            simp only [Act.put, List.setIfInBounds_toArray, List.set_cons_zero, List.set_cons_succ]
            refine tk 7 ⟨some 47, .move (.tmp 6), 3, "ref.go:270", #[], none⟩ (.int .i64 (q : Int)) ?_ (hy := Or.inl ⟨by rfl, by intro w hSw; subst hSw; go_simp⟩)
            simp only [Act.put, List.setIfInBounds_toArray, List.set_cons_zero, List.set_cons_succ]
            refine tk 8 ⟨some 48, .indexAddr 24 (.tmp 46) (.tmp 47), 0, "ref.go:270", #[⟨6, .data⟩, ⟨7, .data⟩], none⟩ (.pointer (some ⟨b2, off2 + q, none⟩)) ?_ (hy := Or.inl ⟨by rfl, by intro w hSw; subst hSw; go_simp⟩)
            simp only [Act.put, List.setIfInBounds_toArray, List.set_cons_zero, List.set_cons_succ]
            refine tk 9 ⟨some 49, .load 9 (.tmp 48), 9, "ref.go:270", #[⟨8, .data⟩], none⟩ (.string ⟨x.toArray⟩) ?_ (hy := Or.inl ⟨by rfl, by intro w hSw; subst hSw; go_simp⟩)
            simp only [Act.put, List.setIfInBounds_toArray, List.set_cons_zero, List.set_cons_succ]
            refine tk 10 ⟨some 50, .call { callee := .builtin .len, args := #[.tmp 49], argTypes := #[9] }, 3, "ref.go:270", #[⟨9, .data⟩], none⟩ (.int .i64 (x.length : Int)) ?_ (hy := Or.inl ⟨by rfl, by intro w hSw; subst hSw; go_simp⟩)
            simp only [Act.put, List.setIfInBounds_toArray, List.set_cons_zero, List.set_cons_succ]
            refine wpAnyH_ready (rs := [2]) (by kernel_rfl) (by simp) (AllReadyH.cons (o := ⟨some 42, .call { callee := .value (.func 58), args := #[.tmp 40, .tmp 41], argTypes := #[32, 3] }, 3, "ref.go:270", #[⟨0, .data⟩, ⟨1, .data⟩], none⟩) rfl (fun KQ hK => ?_) AllReadyH.nil)
            go_simp
            refine (HWC.out _ F3.below.drew).mono ?_
            rintro e w9 ⟨rfl, rfl⟩
            go_wp2_with fail
            refine hK.out _ _ rfl (fun hHeld => ?_)
            clear hK KQ
            try simp only [Act.put, List.setIfInBounds_toArray, List.set_cons_zero, List.set_cons_succ]
            refine tk 11 ⟨some 51, .binOp .sub 3 (.tmp 42) (.tmp 50) 3, 3, "ref.go:270", #[⟨2, .data⟩, ⟨10, .data⟩], none⟩ (.int .i64 ((wd : Int) - (x.length : Int))) ?_ (hy := Or.inl ⟨by rfl, by intro w hSw; subst hSw; go_simp⟩)
            simp only [Act.put, List.setIfInBounds_toArray, List.set_cons_zero, List.set_cons_succ]
            refine tk 12 ⟨some 52, .binOp .add 3 (.tmp 51) (.const (.int .i64 2)) 3, 3, "ref.go:270", #[⟨11, .data⟩], none⟩ (.int .i64 ((wd : Int) - (x.length : Int) + 2)) ?_ (hy := Or.inl ⟨by rfl, by intro w hSw; subst hSw; go_simp⟩)
            simp only [Act.put, List.setIfInBounds_toArray, List.set_cons_zero, List.set_cons_succ]
            refine wpAnyH_ready (rs := [13]) (by kernel_rfl) (by simp) (AllReadyH.cons (o := ⟨some 7, .assign (.tmp 52), 3, "ref.go:270", #[⟨12, .data⟩, ⟨2, .chain⟩, ⟨0, .phase⟩, ⟨1, .phase⟩, ⟨2, .phase⟩, ⟨3, .phase⟩, ⟨4, .phase⟩, ⟨5, .phase⟩, ⟨6, .phase⟩, ⟨7, .phase⟩, ⟨8, .phase⟩, ⟨9, .phase⟩, ⟨10, .phase⟩, ⟨11, .phase⟩, ⟨12, .phase⟩], none⟩) rfl (fun KQ hK => ?_) AllReadyH.nil)
            go_simp
            refine hK.out _ _ rfl (fun hHeld => ?_)
            clear hK KQ
            try simp only [Act.put, List.setIfInBounds_toArray, List.set_cons_zero, List.set_cons_succ]
            refine wpAnyH_done (by kernel_rfl) ?_ _
            clear hHeld d1 d2 hck3 hcx3 q1 q2 hck2 hcx
            have HF4 : Hid (HB V w3.drew v3 (ld ++ x)) := hid (by simpa using F3.drew)
            clear F3
            generalize w3.drew = w4 at *
            obtain ⟨pd, hpd⟩ : ∃ pd : Nat, wd - x.length + 2 = pd := ⟨_, rfl⟩
            rw [hpd] at HS2
            rw [show (wd : Int) - (x.length : Int) + 2 = (pd : Int) by omega]
            have c5 : (pd : Int) ≤ 1000000002 := by omega
            have HLL : Hid ((ld ++ x).length ≤ 1001000000000) := hid (by have := HLQ.out; rw [List.length_append]; omega)
            clear hpd hwq hxl hsz
            go_wp2_with fail
            go_loopw [5, 7] (fun r p w5 => ∃ a b : Nat, a + b = pd ∧ p = .int .i64 b ∧ HB V w5 r ((ld ++ x) ++ List.replicate a 32)) (fun _ p _ => (intOf p).toNat)
            case atStart => exact ⟨0, pd, by omega, rfl, by simpa using HF4.out⟩
            case round =>
              obtain ⟨a, b', hab, rfl, F⟩ := hrel
              have HF5 : Hid (HB V wr u5 ((ld ++ x) ++ List.replicate a 32)) := F
              clear F HF4 HF
              by_cases hb0 : 0 < b'
              · have c6 : (0 : Int) < (b' : Int) := by omega
                have c7 : (b' : Int) ≤ 1000000002 := by omega
                have HL6 : Hid (((ld ++ x) ++ List.replicate a 32).length + 1 ≤ 140737488355328) := hid (by have := HLL.out; rw [List.length_append, List.length_replicate]; omega)
                go_wp2_with (first | (at_builtin; refine wpList_append_bytes rfl _ _ _ rfl i0 Tryz.underlying26 hi hz0 hz1 hz2 _ _ rfl (HF5.out.alloc _) _ _ _ [32] rfl rfl (cells_new _ _ _ _ rfl) HL6.out ?_; intro v6 w6 F6))
                go_roundw
                case measure => simp [intOf]; omega
                case rel => exact ⟨a + 1, b' - 1, by omega, by go_num, by rw [List.replicate_succ', ← List.append_assoc]; exact F6⟩
              · obtain rfl : b' = 0 := by omega
                obtain rfl : a = pd := by omega
                go_wp2_with fail
                go_roundw
                case measure => simp [intOf]; omega
                case rel => exact ⟨q + 1, by omega, by go_num, by rw [HS2.out]; exact HF5.out⟩
          · have c4 : (m : Int) ≤ (q : Int) + 1 := by omega
            have HS2 := hid (HLA.out (by omega))
            clear HST HLA HWX
            go_wp2_with (first | (at_builtin; refine wpList_append_text rfl _ _ 26 9 rfl i0 Tryz.underlying26 Tryz.underlying9 hi hz0 hz1 hz2 _ _ rfl HF.out _ rfl (by have := HXS.out; have := HLQ.out; omega) ?_; intro v3 w3 F3; have hck3 := HCK.out _ F3.below))
            go_roundw
            case measure => simp [intOf]; omega
            case rel => exact ⟨q + 1, by omega, by go_num, by rw [HS2.out]; simpa using F3⟩
        · obtain rfl : q = m := by omega
          have hlt2 := T.laid_trim ws row
          rw [HML.out] at hlt2
          have HTR : Hid (T.trim (T.laid ws row q) = T.line ws row) := hlt2
          have hlen := T.laid_len ws row q
          rw [HML.out] at hlen
          have hlq : (T.laid ws row q).length ≤ 1000000000000 := by have := HFR.out; omega
          clear hlt2 hlen HS HFR HWX
          generalize T.laid ws row q = ld at *
          generalize T.line ws row = ln at *
          obtain ⟨ar, cr, rfl, hcr, hlie⟩ := F.lies
          obtain ⟨nl, hnl⟩ : ∃ nl, ld.length = nl := ⟨_, rfl⟩
          have HNL : Hid (ld.length = nl) := hnl
          have HLI : Hid ((ar = none ∧ cr = 0 ∧ ld = []) ∨ ∃ g, ar = some ⟨g, 0, none⟩ ∧ ∀ j (hj : j < ld.length), wr.cell? ⟨g, j, none⟩ = some (.int .u8 (ld[j].toNat : Int))) := hlie
          have HBL : Hid (Below V.heap.size V wr) := F.below
          rw [hnl] at hcr hlq
          have c8 : (nl : Int) ≤ (cr : Int) := by omega
          have c9 : (nl : Int) ≤ 1000000000000 := by omega
          rw [hnl]
          generalize wr = w5 at *
          clear F hnl hlie
          go_wp2_with fail
          go_loopw [5] (fun r w6 => w6 = w5 ∧ ∃ y : Nat, y ≤ nl ∧ r = .slice ar y cr ∧ Hid (T.trim (ld.take y) = ln)) (fun r _ => lenOfV r)
          case atStart => exact ⟨rfl, nl, Nat.le_refl _, rfl, hid (by rw [List.take_of_length_le (by rw [HNL.out]; exact Nat.le_refl _)]; exact HTR.out)⟩
          case round =>
            obtain ⟨rfl, y, hy, rfl, HY⟩ := hrel
            have HEX : (y = 0 ∨ ∃ z, y = z + 1 ∧ ∃ h : z < ld.length, ld[z] ≠ 32) → Hid (ld.take y = ln) := fun h => hid (by
              rcases h with rfl | ⟨z, rfl, h, hne⟩
              · have := HY.out
                simpa [T.trim, Lib.trimRightB] using this
              · rw [← HY.out, T.trim_full ld z h hne])
            rcases Nat.eq_zero_or_pos y with h0 | hpos
            · have HE := HEX (.inl h0)
              subst h0
              clear HY HEX HTR
              have HYL : Hid (0 ≤ ld.length) := hid (by rw [HNL.out]; omega)
              have HL7 : Hid (tb.length + (0) ≤ 140737488355328) := hid (by have := HL1.out; omega)
              have HL8 : Hid ((tb ++ ld.take (0)).length + 1 ≤ 140737488355328) := hid (by have := HL1.out; rw [HE.out, List.length_append]; omega)
              have HF7 : Hid (HB W wr u3 tb) := hid (HF0.out.on HBL.out)
              go_wp2_with (first | (at_builtin; refine wpList_append_lies rfl _ _ 26 rfl i0 Tryz.underlying26 hi hz0 hz1 hz2 _ _ rfl HF7.out _ _ _ ld rfl HYL.out HLI.out HL7.out ?_; intro v7 w7 F7; have HF8 : Hid (HB W w7 v7 (tb ++ ld.take (0))) := F7; clear F7) | (at_builtin; refine wpList_append_bytes rfl _ _ _ rfl i0 Tryz.underlying26 hi hz0 hz1 hz2 _ _ rfl (HF8.out.alloc _) _ _ _ [10] rfl rfl (cells_new _ _ _ _ rfl) HL8.out ?_; intro v8 w8 F8))
              go_roundw
              case measure => simp [intOf]; omega
              case rel => exact ⟨k + 1, by omega, by go_num, by rw [HNX.out, ← HE.out]; exact F8⟩
            · obtain ⟨z, rfl⟩ : ∃ z, y = z + 1 := ⟨y - 1, by omega⟩
              have hzl : z < ld.length := by rw [HNL.out]; omega
              rcases HLI.out with ⟨_, _, h0⟩ | ⟨g, rfl, hcs⟩
              · rw [h0] at hzl; simp at hzl
              have hcz := hcs z hzl
              have c10 : (z : Int) + 1 ≤ (nl : Int) := by omega
              have c11 : ((z : Int) + 1 - 1) = (z : Int) := by omega
              by_cases h32 : ld[z] = 32
              · have HY2 : Hid (T.trim (ld.take z) = ln) := hid (by rw [← HY.out, T.trim_blank ld z hzl h32])
                rw [h32] at hcz
                clear hcs HEX HY
                go_wp2_with fail
                go_roundw
                case measure => simp [lenOfV]
                case rel => exact ⟨trivial, z, by omega, by go_num, HY2⟩
              · have HE := HEX (.inr ⟨z, rfl, hzl, h32⟩)
                have e32 : ((ld[z].toNat : Int) == 32) = false := by
                  have : ld[z].toNat ≠ 32 := fun e => h32 (UInt8.toNat_inj.1 e)
                  simp; omega
                clear HEX HY hcs
                have HYL : Hid (z + 1 ≤ ld.length) := hid (by rw [HNL.out]; omega)
                have HL7 : Hid (tb.length + (z + 1) ≤ 140737488355328) := hid (by have := HL1.out; omega)
                have HL8 : Hid ((tb ++ ld.take (z + 1)).length + 1 ≤ 140737488355328) := hid (by have := HL1.out; rw [HE.out, List.length_append]; omega)
                have HF7 : Hid (HB W wr u3 tb) := hid (HF0.out.on HBL.out)
                go_wp2_with (first | (at_builtin; refine wpList_append_lies rfl _ _ 26 rfl i0 Tryz.underlying26 hi hz0 hz1 hz2 _ _ rfl HF7.out _ _ _ ld rfl HYL.out HLI.out HL7.out ?_; intro v7 w7 F7; have HF8 : Hid (HB W w7 v7 (tb ++ ld.take (z + 1))) := F7; clear F7) | (at_builtin; refine wpList_append_bytes rfl _ _ _ rfl i0 Tryz.underlying26 hi hz0 hz1 hz2 _ _ rfl (HF8.out.alloc _) _ _ _ [10] rfl rfl (cells_new _ _ _ _ rfl) HL8.out ?_; intro v8 w8 F8))
                go_roundw
                case measure => simp [intOf]; omega
                case rel => exact ⟨k + 1, by omega, by go_num, by rw [HNX.out, ← HE.out]; exact F8⟩
    · obtain rfl : k = n := by omega
      rw [List.take_of_length_le (by rw [HLN.out]; exact Nat.le_refl _), ← HFin.out] at F
      obtain ⟨q, hq⟩ : ∃ q, T.columns rows = q := ⟨_, rfl⟩
      rw [hq] at F
      have HQ : Hid (T.columns rows = q) := hq
      have hbl := F.below
      obtain ⟨ar, cr, rfl, hcv⟩ := F.conv
      clear hq F HA HR HWD HWB HFF HTT HFin
      go_wp2_with fail
      go_ret
      exact ⟨by rw [HQ.out]; rfl, hbl⟩
end Go.Proofs.YtbjinmlelchmgaaGreatDoor
