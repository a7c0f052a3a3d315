import Derived.Test.YtgbpbfnpeeciaaaGreatP22
import Derived.Test.YtgbpbfnpeeciaaaGreatP01
import Derived.Test.YtgbpbfnpeeciaaaGreatP35
import Derived.Test.YtgbpbfnpeeciaaaGreatP19
namespace Go.Proofs.YtgbpbfnpeeciaaaGreat
open Go.RowKit
set_option maxHeartbeats 4000000
set_option maxRecDepth 100000
theorem under67f : Tryz.prog.underlying 67 = some (.struct (Tryz.prog.fieldsOf 67)) := by kernel_rfl
theorem size67f : (Tryz.prog.info? 67).map (·.size) = some 2 := by kernel_rfl
theorem insecure_any (w : World) (f : Fp) (m : MS) (h : Mem w f m) :
    Calls Tryz.prog 48 #[ptr f.gm] w fun x w' => x = .returned (.int .i64 ((m.P.length - m.ns : Nat) : Int)) ∧ w = w' := by
  have c1 : w.cell? ⟨f.gm, 1, none⟩ = some (.slice (some ⟨f.gi, 0, none⟩) (m.P.length - m.ns) (m.P.length - m.ns)) := h.cel.cell 1
  clear h
  generalize m.P.length - m.ns = k at *
  simp only [ptr] at *
  go_enter Tryz.func48, Tryz.ntmps48
  go_wp2_with fail
  go_ret
  exact ⟨rfl, rfl⟩
structure WL (W : World) (ao : Option Addr) (n : Nat) (L : List Int) : Prop where
  len : L.length = n
  at_ : 0 < n → ∃ g off, ao = some ⟨g, off, none⟩ ∧ W.rangeAt g off (u32s L) ∧ g < W.heap.size
theorem WL.on {W W' : World} {ao : Option Addr} {n : Nat} {L : List Int} (h : WL W ao n L) (hb : Below W.heap.size W W') : WL W' ao n L :=
  ⟨h.len, fun hn => by
    obtain ⟨g, off, h1, h2, h3⟩ := h.at_ hn
    refine ⟨g, off, h1, fun j v hv => ?_, by have := hb.size; omega⟩
    have := h2 j v hv
    unfold World.cell? at this ⊢
    rw [hb.block g h3]
    exact this⟩
theorem WL.at {W : World} {g off : Nat} {n : Nat} {L : List Int} (h : WL W (some ⟨g, off, none⟩) n L) {j : Nat} (hj : j < n) : W.cell? ⟨g, off + j, none⟩ = some (.int .u32 (wd L j)) := by
  obtain ⟨g', off', h1, h2, h3⟩ := h.at_ (by omega)
  cases h1
  have hj2 : j < L.length := by rw [h.len]; exact hj
  exact h2 j _ (by rw [u32s, List.getElem?_map, List.getElem?_eq_getElem hj2]; unfold wd; rw [List.getD_eq_getElem?_getD, List.getElem?_eq_getElem hj2]; rfl)
theorem Hl.wl {W w : World} {v : Value} {L : List Int} (h : Hl W w v L) : ∃ ao c, v = .slice ao L.length c ∧ WL w ao L.length L := by
  obtain ⟨ao, c, hv, hf⟩ := h.form
  refine ⟨ao, c, hv, rfl, fun h0 => ?_⟩
  obtain ⟨g, e, _, hg, _, hc⟩ := hf h0
  exact ⟨g, 0, e, fun j u hu => by rw [Nat.zero_add]; exact hc j u hu, hg⟩
theorem WL.cel {w : World} {g n : Nat} {L : List Int} (h : Cel w g 29 (u32s L)) (hl : L.length = n) : WL w (some ⟨g, 0, none⟩) n L :=
  ⟨hl, fun _ => ⟨g, 0, rfl, fun j v hv => by rw [Nat.zero_add, h.cell]; exact hv, h.lt⟩⟩
structure WS (W w : World) (p : Dp) (r : Rp) (d e : DS) (gs : Nat) : Prop where
  own : DB w p d
  doc : RDB w r e
  bl : Below W.heap.size W w
  box : Cel w gs 48 [.pointer (some ⟨p.f.gm, 0, none⟩), .pointer (some ⟨p.g, 0, none⟩), .pointer (some ⟨r.g, 0, none⟩)]
theorem WS.on {W w w' : World} {p : Dp} {r : Rp} {d e : DS} {gs : Nat} (h : WS W w p r d e gs) (hb : Below w.heap.size w w') : WS W w' p r d e gs := ⟨h.own.on hb, h.doc.on hb, below_on h.bl hb, h.box.on hb⟩
theorem WS.trip {W w : World} {p : Dp} {r : Rp} {d e : DS} {gs : Nat} (h : WS W w p r d e gs) : w.cell? ⟨gs, 0, none⟩ = some (.pointer (some ⟨p.f.gm, 0, none⟩)) ∧ w.cell? ⟨gs, 1, none⟩ = some (.pointer (some ⟨p.g, 0, none⟩)) ∧ w.cell? ⟨gs, 2, none⟩ = some (.pointer (some ⟨r.g, 0, none⟩)) := ⟨h.box.cell 0, h.box.cell 1, h.box.cell 2⟩
theorem settled_any (W : World) (p : Dp) (r : Rp) (d e : DS) (gs : Nat) (h : WS W W p r d e gs) (hs : DS.Sim d e) :
    Calls Tryz.prog 8 #[.pointer (some ⟨gs, 0, none⟩)] W fun x W' => x = .returned (.bool true) ∧ Below W.heap.size W W' := by
  have T0 := hid h
  have HR := hid (fun w (hw : RDB w r e) => rwords_any w r e hw)
  have HA := hid (fun w (hw : DB w p d) => words_any w p d hw)
  have HWs : Hid (d.ws.length = 1 + 2 * d.m.ns) := hid (d.ws_len h.own.ok)
  rw [hs.ws] at HR
  have HN6 : Hid (1 + 2 * d.m.ns ≤ 1000000) := hid (by have := h.own.ok.n64; omega)
  have HN64 : Hid (d.m.ns ≤ 64) := hid h.own.ok.n64
  have HIn : Hid (d.m.ns + (d.m.P.length - d.m.ns) ≤ 1000) := hid (by have := h.own.mem.most; have := h.own.ok.n64; omega)
  have HSc := hid (fun w (hw : DB w p d) => secure_any w p.f d.m hw.mem)
  have HSi := hid (fun w (hw : DB w p d) => insecure_any w p.f d.m hw.mem)
  have HPk := hid (fun w (hw : DB w p d) (s : Bool) (a b : Int) => peek_any w p.f d.m hw.mem s a b)
  have HRK : Hid (∀ w, RDB w r e → ∀ (s : Bool) (a b : Int), Calls Tryz.prog 51 #[ptr r.r.g, fr s a, .int .i64 b] w fun x w' => x = .returned (.int .u32 (d.m.word s a b)) ∧ Below w.heap.size w w') := hid (fun w (hw : RDB w r e) (s : Bool) (a b : Int) => by
    have := rpeek_any w r.r e.m hw.mem s a b
    rw [hs.word] at this
    exact this)
  have HC0 := hid (fun w (hw : RDB w r e) => hw.c0)
  clear h hs
  simp only [ptr, fr] at *
  generalize d.ws = L at *
  generalize d.m.P.length - d.m.ns = ni at *
  generalize hn : d.m.ns = n at *
  clear hn
  generalize d.m.word = wf at *
  have HMX : Hid (∀ a : Int, wrap64 (n + a) = n + a ∨ True) := hid (fun _ => .inr trivial)
  clear HMX
  obtain ⟨x0, x1, x2⟩ := T0.out.trip
  go_enter Tryz.func8, Tryz.ntmps8
  go_upto_region 2 with (go_at_call 45; refine (HA.out _ T0.out.own).mono ?_; rintro x w3 ⟨gn, rfl, hc, hl, hb⟩; have NA := hid (WL.cel hc HWs.out); have T3 := hid (T0.out.on hb); clear hc hl hb T0 x0 x1 x2)
  obtain ⟨x0, x1, x2⟩ := T3.out.trip
  go_upto_region 3 with (go_at_call 46; refine (HR.out _ T3.out.doc).mono ?_; rintro x w4 ⟨v3, rfl, ho⟩; obtain ⟨bo, cb, rfl, hl⟩ := ho.wl; rw [HWs.out] at hl; have NB := hid hl; have NA2 := hid (NA.out.on ho.below); have T4 := hid (T3.out.on ho.below); clear ho hl T3 NA x0 x1 x2)
  rw [HWs.out]
  generalize hNN : 1 + 2 * n = N at *
  clear hNN
  go_upto_region 6 with fail
  go_loopw [5] (fun i wr => ∃ j : Nat, j ≤ N ∧ i = .int .i64 (j : Int) ∧ Hid (WS W wr p r d e gs ∧ WL wr (some ⟨gn, 0, none⟩) N L ∧ WL wr bo N L)) (fun i _ => N - (intOf i).toNat)
  case atStart => exact ⟨0, Nat.zero_le _, rfl, hid ⟨T4.out, NA2.out, NB.out⟩⟩
  case round =>
    obtain ⟨j, hj, rfl, HQ⟩ := hrel
    clear T4 NA2 NB
    by_cases hlt : j < N
    · have q1 : (j : Int) < (N : Int) := by omega
      have q2 : (j : Int) ≤ 1000000 := by have := HN6.out; omega
      have q0 : (0 : Int) ≤ (j : Int) := by omega
      have HJ : Hid (j < N) := hid hlt
      have hQd := HQ.out.2.2.on (Below.refl _ _).drew
      obtain ⟨gb, ob, rfl, _, _⟩ := hQd.at_ (by omega)
      have HWA := hid ((HQ.out.2.1.on (Below.refl _ _).drew).at hlt)
      have HWB := hid (hQd.at hlt)
      have T5 := hid (HQ.out.1.on (Below.refl _ _).drew)
      have HQ5 := hid (And.intro (HQ.out.2.1.on (Below.refl _ _).drew) hQd)
      clear hlt hj hQd
      simp only [Nat.zero_add] at HWA
      generalize hva : wd L j = va at *
      clear hva
      go_upto_region 8 with fail
      refine wp_region_held_drew (S := fun w => w.cell? ⟨gn, j, none⟩ = some (.int .u32 va) ∧ w.cell? ⟨gb, ob + j, none⟩ = some (.int .u32 va)) (by kernel_rfl) ⟨HWA.out, HWB.out⟩ (fun hHeld => ?_)
      refine tk 0 ⟨some 30, .move (.tmp 3), 102, "law.go:104", #[], none⟩ (.slice (some ⟨gn, 0, none⟩) N N) ?_
      simp only [Act.put, List.setIfInBounds_toArray, List.set_cons_zero, List.set_cons_succ]
      refine tk 1 ⟨some 31, .move (.tmp 5), 3, "law.go:104", #[], none⟩ (.int .i64 (j : Int)) ?_
      simp only [Act.put, List.setIfInBounds_toArray, List.set_cons_zero, List.set_cons_succ]
      refine tk 2 ⟨some 32, .indexAddr 102 (.tmp 30) (.tmp 31), 0, "law.go:104", #[⟨0, .data⟩, ⟨1, .data⟩], none⟩ (.pointer (some ⟨gn, j, none⟩)) ?_
      simp only [Act.put, List.setIfInBounds_toArray, List.set_cons_zero, List.set_cons_succ]
      refine tk 3 ⟨some 33, .load 29 (.tmp 32), 29, "law.go:104", #[⟨2, .data⟩], none⟩ (.int .u32 va) ?_ (hy := Or.inl ⟨by rfl, by intro w hSw; have hc := hSw.1; go_simp⟩)
      simp only [Act.put, List.setIfInBounds_toArray, List.set_cons_zero, List.set_cons_succ]
      refine tk 4 ⟨some 34, .move (.tmp 4), 102, "law.go:104", #[], none⟩ (Value.slice (some ⟨gb, ob, none⟩) N cb) ?_
      simp only [Act.put, List.setIfInBounds_toArray, List.set_cons_zero, List.set_cons_succ]
      refine tk 5 ⟨some 35, .move (.tmp 5), 3, "law.go:104", #[], none⟩ (.int .i64 (j : Int)) ?_
      simp only [Act.put, List.setIfInBounds_toArray, List.set_cons_zero, List.set_cons_succ]
      refine tk 6 ⟨some 36, .indexAddr 102 (.tmp 34) (.tmp 35), 0, "law.go:104", #[⟨4, .data⟩, ⟨5, .data⟩], none⟩ (.pointer (some ⟨gb, ob + j, none⟩)) ?_
      simp only [Act.put, List.setIfInBounds_toArray, List.set_cons_zero, List.set_cons_succ]
      refine tk 7 ⟨some 37, .load 29 (.tmp 36), 29, "law.go:104", #[⟨6, .data⟩], none⟩ (.int .u32 va) ?_ (hy := Or.inl ⟨by rfl, by intro w hSw; have hc := hSw.2; go_simp⟩)
      simp only [Act.put, List.setIfInBounds_toArray, List.set_cons_zero, List.set_cons_succ]
      refine tk 8 ⟨some 38, .binOp .neq 29 (.tmp 33) (.tmp 37) 29, 4, "law.go:104", #[⟨3, .data⟩, ⟨7, .data⟩], none⟩ (.bool false) ?_
      simp only [Act.put, List.setIfInBounds_toArray, List.set_cons_zero, List.set_cons_succ]
      refine wpAnyH_done (by kernel_rfl) ?_ _
      go_wp2_with fail
      go_roundw
      case measure => have := HJ.out; simp [intOf] <;> omega
      case rel => exact ⟨j + 1, HJ.out, by simp, hid ⟨T5.out, HQ5.out⟩⟩
    · have hjn : j = N := by omega
      subst hjn
      clear hlt hj
      have T4 := hid HQ.out.1
      clear HQ
      go_upto_region 11 with fail
      go_loopw [6] (fun i wr => ∃ k : Nat, k ≤ n + ni ∧ i = .int .i64 (k : Int) ∧ Hid (WS W wr p r d e gs)) (fun i _ => n + ni - (intOf i).toNat)
      case atStart => exact ⟨0, Nat.zero_le _, rfl, T4⟩
      case round =>
        obtain ⟨k, hk, rfl, HK⟩ := hrel
        clear T4
        have hw2 : IntKind.i64.wrap ((n : Int) + (ni : Int)) = (n : Int) + (ni : Int) := by have := HIn.out; rw [IntKind.wrap_i64]; omega
        have q9 : (k : Int) ≤ 1000 := by have := HIn.out; omega
        have K1 := hid (HK.out.on (Below.refl _ _).drew)
        clear HK
        by_cases hlt : k < n + ni
        · have q1 : (k : Int) < (n : Int) + (ni : Int) := by omega
          have HJ := hid hlt
          have HF := hid (fun w => framed_any w k n (by have := HIn.out; omega) (by have := HIn.out; omega))
          clear hlt hk
          go_upto_region 11 with fail
          refine wp_region_held_drew (S := fun w => Cel w gs 48 [.pointer (some ⟨p.f.gm, 0, none⟩), .pointer (some ⟨p.g, 0, none⟩), .pointer (some ⟨r.g, 0, none⟩)]) (by kernel_rfl) K1.out.box (fun hHeld => ?_)
          generalize World.drew _ = wa at *
          refine tk 0 ⟨some 39, .move (.tmp 6), 3, "law.go:108", #[], none⟩ (.int .i64 (k : Int)) ?_
          simp only [Act.put, List.setIfInBounds_toArray, List.set_cons_zero, List.set_cons_succ]
          refine tk 1 ⟨some 40, .move (.tmp 0), 25, "law.go:108", #[], none⟩ (.pointer (some ⟨gs, 0, none⟩)) ?_
          simp only [Act.put, List.setIfInBounds_toArray, List.set_cons_zero, List.set_cons_succ]
          refine tk 2 ⟨some 41, .nilCheck (.tmp 40), 0, "law.go:108", #[⟨1, .data⟩], none⟩ (.pointer (some ⟨gs, 0, none⟩)) ?_
          simp only [Act.put, List.setIfInBounds_toArray, List.set_cons_zero, List.set_cons_succ]
          refine tk 3 ⟨some 42, .fieldAddr 48 (.tmp 41) 0, 0, "law.go:108", #[⟨2, .data⟩], none⟩ (.pointer (some ⟨gs, 0, none⟩)) ?_
          simp only [Act.put, List.setIfInBounds_toArray, List.set_cons_zero, List.set_cons_succ]
          refine tk 4 ⟨some 43, .load 36 (.tmp 42), 36, "law.go:108", #[⟨3, .data⟩], none⟩ (.pointer (some ⟨p.f.gm, 0, none⟩)) ?_ (hy := Or.inl ⟨by rfl, by intro w hSw; have hc : w.cell? ⟨gs, 0, none⟩ = some (.pointer (some ⟨p.f.gm, 0, none⟩)) := hSw.cell 0; go_simp⟩)
          simp only [Act.put, List.setIfInBounds_toArray, List.set_cons_zero, List.set_cons_succ]
          refine tk 6 ⟨some 45, .move (.tmp 0), 25, "law.go:108", #[], none⟩ (.pointer (some ⟨gs, 0, none⟩)) ?_
          simp only [Act.put, List.setIfInBounds_toArray, List.set_cons_zero, List.set_cons_succ]
          refine tk 7 ⟨some 46, .nilCheck (.tmp 45), 0, "law.go:108", #[⟨6, .data⟩], none⟩ (.pointer (some ⟨gs, 0, none⟩)) ?_
          simp only [Act.put, List.setIfInBounds_toArray, List.set_cons_zero, List.set_cons_succ]
          refine tk 8 ⟨some 47, .fieldAddr 48 (.tmp 46) 0, 0, "law.go:108", #[⟨7, .data⟩], none⟩ (.pointer (some ⟨gs, 0, none⟩)) ?_
          simp only [Act.put, List.setIfInBounds_toArray, List.set_cons_zero, List.set_cons_succ]
          refine tk 9 ⟨some 48, .load 36 (.tmp 47), 36, "law.go:108", #[⟨8, .data⟩], none⟩ (.pointer (some ⟨p.f.gm, 0, none⟩)) ?_ (hy := Or.inl ⟨by rfl, by intro w hSw; have hc : w.cell? ⟨gs, 0, none⟩ = some (.pointer (some ⟨p.f.gm, 0, none⟩)) := hSw.cell 0; go_simp⟩)
          simp only [Act.put, List.setIfInBounds_toArray, List.set_cons_zero, List.set_cons_succ]
          refine wpAnyH_ready (rs := [5]) (by kernel_rfl) (by simp) (AllReadyH.cons (o := ⟨some 44, .call { callee := .value (.func 47), args := #[.tmp 43], argTypes := #[36] }, 3, "law.go:108", #[⟨4, .data⟩], none⟩) rfl (fun KQ hK => ?_) AllReadyH.nil)
          go_simp
          refine (HSc.out _ K1.out.own).mono ?_
          rintro x wx ⟨rfl, hw⟩
          subst wx
          go_wp2_with fail
          refine hK.out _ _ K1.out.box (fun hHeld => ?_)
          clear hK KQ
          try simp only [Act.put, List.setIfInBounds_toArray, List.set_cons_zero, List.set_cons_succ]
          refine wpAnyH_ready (rs := [10]) (by kernel_rfl) (by simp) (AllReadyH.cons (o := ⟨some 49, .call { callee := .value (.func 48), args := #[.tmp 48], argTypes := #[36] }, 3, "law.go:108", #[⟨9, .data⟩, ⟨5, .chain⟩], none⟩) rfl (fun KQ hK => ?_) AllReadyH.nil)
          go_simp
          refine (HSi.out _ K1.out.own).mono ?_
          rintro x wx ⟨rfl, hw⟩
          subst wx
          go_wp2_with fail
          refine hK.out _ _ K1.out.box (fun hHeld => ?_)
          clear hK KQ
          try simp only [Act.put, List.setIfInBounds_toArray, List.set_cons_zero, List.set_cons_succ]
          refine tk 11 ⟨some 50, .binOp .add 3 (.tmp 44) (.tmp 49) 3, 3, "law.go:108", #[⟨5, .data⟩, ⟨10, .data⟩], none⟩ (.int .i64 ((n : Int) + (ni : Int))) ?_
          simp only [Act.put, List.setIfInBounds_toArray, List.set_cons_zero, List.set_cons_succ]
          refine tk 12 ⟨some 51, .binOp .lss 3 (.tmp 39) (.tmp 50) 3, 4, "law.go:108", #[⟨0, .data⟩, ⟨11, .data⟩], none⟩ (.bool true) ?_
          simp only [Act.put, List.setIfInBounds_toArray, List.set_cons_zero, List.set_cons_succ]
          refine wpAnyH_done (by kernel_rfl) ?_ _
          simp only [fr] at HF
          generalize decide (k < n) = sb at *
          generalize (if k < n then (k : Int) else (k : Int) - n) = pg at *
          clear hw2
          obtain ⟨x0, x1, x2⟩ := K1.out.trip
          go_upto_region 13 with fail
          go_upto_region 14 with (first | (go_at_call 47; refine (HSc.out _ K1.out.own).mono ?_; rintro x wx ⟨rfl, hw⟩; subst wx) | (go_at_call 49; refine (HF.out _).mono ?_; rintro x wb ⟨rfl, hb⟩; have K2 := hid (K1.out.on hb); clear hb K1 x0 x1 x2) | (refine wpList_store_st rfl 67 _ _ rfl wb.heap.size [.bool sb, .int .i64 pg] rfl rfl (Cel.new wb 67 [.bool false, .int .i64 0]) size67f rfl rfl ?_; intro wc hc hb hs; have K3 := hid (K2.out.on ((below_one wb (.cells #[.bool false, .int .i64 0] 67)).trans (hb.below (B := wb.heap.size) (by simp) (by simp)))); have C3 := hid hc; clear hc hb hs K2))
          generalize wb.heap.size = g7 at *
          go_upto_region 15 with fail
          go_loopw [8] (fun i wr => ∃ k : Nat, k ≤ 1024 ∧ i = .int .i64 (k : Int) ∧ Hid (WS W wr p r d e gs ∧ Cel wr g7 67 [.bool sb, .int .i64 pg])) (fun i _ => 1024 - (intOf i).toNat)
          case atStart => exact ⟨0, Nat.zero_le _, rfl, hid ⟨K3.out, C3.out⟩⟩
          case round =>
            obtain ⟨i, hi, rfl, HI⟩ := hrel
            clear K3 C3
            by_cases hlt : i < 1024
            · have q3 : (i : Int) < 1024 := by omega
              have HII := hid hlt
              clear hlt hi
              go_upto_region 17 with fail
              have K4 := hid (HI.out.1.on (Below.refl _ _).drew)
              have C4 := hid (HI.out.2.on (Below.refl _ _).drew)
              have HV := hid (And.intro (HPk.out · · sb pg (i : Int)) (HRK.out · · sb pg (i : Int)))
              generalize wf sb pg (i : Int) = V at HV
              clear HI
              refine wp_region_held_drew (S := fun w => Cel w gs 48 [.pointer (some ⟨p.f.gm, 0, none⟩), .pointer (some ⟨p.g, 0, none⟩), .pointer (some ⟨r.g, 0, none⟩)] ∧ Cel w g7 67 [.bool sb, .int .i64 pg] ∧ w.cell? ⟨r.g, 0, none⟩ = some (.pointer (some ⟨r.r.g, 0, none⟩))) (by kernel_rfl) ⟨K4.out.box, C4.out, HC0.out _ K4.out.doc⟩ (fun hHeld => ?_)
              generalize World.drew _ = wa at *
              refine tk 0 ⟨some 65, .move (.tmp 0), 25, "law.go:111", #[], none⟩ (.pointer (some ⟨gs, 0, none⟩)) ?_
              simp only [Act.put, List.setIfInBounds_toArray, List.set_cons_zero, List.set_cons_succ]
              refine tk 1 ⟨some 66, .nilCheck (.tmp 65), 0, "law.go:111", #[⟨0, .data⟩], none⟩ (.pointer (some ⟨gs, 0, none⟩)) ?_
              simp only [Act.put, List.setIfInBounds_toArray, List.set_cons_zero, List.set_cons_succ]
              refine tk 2 ⟨some 67, .fieldAddr 48 (.tmp 66) 0, 0, "law.go:111", #[⟨1, .data⟩], none⟩ (.pointer (some ⟨gs, 0, none⟩)) ?_
              simp only [Act.put, List.setIfInBounds_toArray, List.set_cons_zero, List.set_cons_succ]
              refine tk 3 ⟨some 68, .load 36 (.tmp 67), 36, "law.go:111", #[⟨2, .data⟩], none⟩ (.pointer (some ⟨p.f.gm, 0, none⟩)) ?_ (hy := Or.inl ⟨by rfl, by intro w hSw; have hc : w.cell? ⟨gs, 0, none⟩ = some (.pointer (some ⟨p.f.gm, 0, none⟩)) := hSw.1.cell 0; go_simp⟩)
              simp only [Act.put, List.setIfInBounds_toArray, List.set_cons_zero, List.set_cons_succ]
              refine tk 4 ⟨some 69, .load 67 (.tmp 7), 67, "law.go:111", #[], none⟩ (.agg #[.bool sb, .int .i64 pg]) ?_ (hy := yieldsIf_load_mid (by rfl) _ _ rfl _ _ rfl _ _ (fun w hSw => hSw.2.1.range) under67f rfl (by rw [size67f]; rfl))
              simp only [Act.put, List.setIfInBounds_toArray, List.set_cons_zero, List.set_cons_succ]
              refine tk 5 ⟨some 70, .move (.tmp 8), 3, "law.go:111", #[], none⟩ (.int .i64 (i : Int)) ?_
              simp only [Act.put, List.setIfInBounds_toArray, List.set_cons_zero, List.set_cons_succ]
              refine tk 7 ⟨some 72, .move (.tmp 0), 25, "law.go:111", #[], none⟩ (.pointer (some ⟨gs, 0, none⟩)) ?_
              simp only [Act.put, List.setIfInBounds_toArray, List.set_cons_zero, List.set_cons_succ]
              refine tk 8 ⟨some 73, .nilCheck (.tmp 72), 0, "law.go:111", #[⟨7, .data⟩], none⟩ (.pointer (some ⟨gs, 0, none⟩)) ?_
              simp only [Act.put, List.setIfInBounds_toArray, List.set_cons_zero, List.set_cons_succ]
              refine tk 9 ⟨some 74, .fieldAddr 48 (.tmp 73) 2, 0, "law.go:111", #[⟨8, .data⟩], none⟩ (.pointer (some ⟨gs, 2, none⟩)) ?_
              simp only [Act.put, List.setIfInBounds_toArray, List.set_cons_zero, List.set_cons_succ]
              refine tk 10 ⟨some 75, .load 45 (.tmp 74), 45, "law.go:111", #[⟨9, .data⟩], none⟩ (.pointer (some ⟨r.g, 0, none⟩)) ?_ (hy := Or.inl ⟨by rfl, by intro w hSw; have hc : w.cell? ⟨gs, 2, none⟩ = some (.pointer (some ⟨r.g, 0, none⟩)) := hSw.1.cell 2; go_simp⟩)
              simp only [Act.put, List.setIfInBounds_toArray, List.set_cons_zero, List.set_cons_succ]
              refine tk 11 ⟨some 76, .nilCheck (.tmp 75), 0, "law.go:111", #[⟨10, .data⟩], none⟩ (.pointer (some ⟨r.g, 0, none⟩)) ?_
              simp only [Act.put, List.setIfInBounds_toArray, List.set_cons_zero, List.set_cons_succ]
              refine tk 12 ⟨some 77, .fieldAddr 70 (.tmp 76) 0, 0, "law.go:111", #[⟨11, .data⟩], none⟩ (.pointer (some ⟨r.g, 0, none⟩)) ?_
              simp only [Act.put, List.setIfInBounds_toArray, List.set_cons_zero, List.set_cons_succ]
              refine tk 13 ⟨some 78, .load 40 (.tmp 77), 40, "law.go:111", #[⟨12, .data⟩], none⟩ (.pointer (some ⟨r.r.g, 0, none⟩)) ?_ (hy := Or.inl ⟨by rfl, by intro w hSw; have hc := hSw.2.2; go_simp⟩)
              simp only [Act.put, List.setIfInBounds_toArray, List.set_cons_zero, List.set_cons_succ]
              refine tk 14 ⟨some 79, .fieldAddr 67 (.tmp 7) 0, 0, "law.go:111", #[], none⟩ (.pointer (some ⟨g7, 0, none⟩)) ?_
              simp only [Act.put, List.setIfInBounds_toArray, List.set_cons_zero, List.set_cons_succ]
              refine tk 15 ⟨some 80, .load 4 (.tmp 79), 4, "law.go:111", #[⟨14, .data⟩], none⟩ (.bool sb) ?_ (hy := Or.inl ⟨by rfl, by intro w hSw; have hc : w.cell? ⟨g7, 0, none⟩ = some (.bool sb) := hSw.2.1.cell 0; go_simp⟩)
              simp only [Act.put, List.setIfInBounds_toArray, List.set_cons_zero, List.set_cons_succ]
              refine tk 16 ⟨some 81, .fieldAddr 67 (.tmp 7) 1, 0, "law.go:111", #[], none⟩ (.pointer (some ⟨g7, 1, none⟩)) ?_
              simp only [Act.put, List.setIfInBounds_toArray, List.set_cons_zero, List.set_cons_succ]
              refine tk 17 ⟨some 82, .load 3 (.tmp 81), 3, "law.go:111", #[⟨16, .data⟩], none⟩ (.int .i64 pg) ?_ (hy := Or.inl ⟨by rfl, by intro w hSw; have hc : w.cell? ⟨g7, 1, none⟩ = some (.int .i64 pg) := hSw.2.1.cell 1; go_simp⟩)
              simp only [Act.put, List.setIfInBounds_toArray, List.set_cons_zero, List.set_cons_succ]
              refine tk 18 ⟨some 83, .build 72 #[(0, .tmp 80), (1, .tmp 82)], 72, "law.go:111", #[⟨15, .data⟩, ⟨17, .data⟩], none⟩ (.agg #[.bool sb, .int .i64 pg]) ?_
              simp only [Act.put, List.setIfInBounds_toArray, List.set_cons_zero, List.set_cons_succ]
              refine tk 19 ⟨some 84, .move (.tmp 8), 3, "law.go:111", #[], none⟩ (.int .i64 (i : Int)) ?_
              simp only [Act.put, List.setIfInBounds_toArray, List.set_cons_zero, List.set_cons_succ]
              refine wpAnyH_ready (rs := [6]) (by kernel_rfl) (by simp) (AllReadyH.cons (o := ⟨some 71, .call { callee := .value (.func 50), args := #[.tmp 68, .tmp 69, .tmp 70], argTypes := #[36, 67, 3] }, 29, "law.go:111", #[⟨3, .data⟩, ⟨4, .data⟩, ⟨5, .data⟩], none⟩) rfl (fun KQ hK => ?_) AllReadyH.nil)
              go_simp
              refine (HV.out.1 _ K4.out.own).mono ?_
              rintro x wb ⟨rfl, hb⟩
              have K5 := hid (K4.out.on hb)
              have C5 := hid (C4.out.on hb)
              clear hb K4 C4
              go_wp2_with fail
              refine hK.out _ _ ⟨K5.out.box, C5.out, HC0.out _ K5.out.doc⟩ (fun hHeld => ?_)
              clear hK KQ
              try simp only [Act.put, List.setIfInBounds_toArray, List.set_cons_zero, List.set_cons_succ]
              refine wpAnyH_ready (rs := [20]) (by kernel_rfl) (by simp) (AllReadyH.cons (o := ⟨some 85, .call { callee := .value (.func 51), args := #[.tmp 78, .tmp 83, .tmp 84], argTypes := #[40, 72, 3] }, 29, "law.go:111", #[⟨13, .data⟩, ⟨18, .data⟩, ⟨19, .data⟩, ⟨6, .chain⟩], none⟩) rfl (fun KQ hK => ?_) AllReadyH.nil)
              go_simp
              refine (HV.out.2 _ K5.out.doc).mono ?_
              rintro x wc ⟨rfl, hb⟩
              have K6 := hid (K5.out.on hb)
              have C6 := hid (C5.out.on hb)
              clear hb K5 C5
              go_wp2_with fail
              refine hK.out _ _ ⟨K6.out.box, C6.out, HC0.out _ K6.out.doc⟩ (fun hHeld => ?_)
              clear hK KQ
              try simp only [Act.put, List.setIfInBounds_toArray, List.set_cons_zero, List.set_cons_succ]
              refine tk 21 ⟨some 86, .binOp .neq 29 (.tmp 71) (.tmp 85) 29, 4, "law.go:111", #[⟨6, .data⟩, ⟨20, .data⟩], none⟩ (.bool false) ?_
              simp only [Act.put, List.setIfInBounds_toArray, List.set_cons_zero, List.set_cons_succ]
              refine wpAnyH_done (by kernel_rfl) ?_ _
              go_wp2_with fail
              go_roundw
              case measure => have := HII.out; simp [intOf] <;> omega
              case rel => exact ⟨i + 1, HII.out, by simp, hid ⟨K6.out, C6.out⟩⟩
            · have hi4 : i = 1024 := by omega
              subst hi4
              clear hlt hi
              go_wp2_with fail
              go_roundw
              case measure => have := HJ.out; simp [intOf] <;> omega
              case rel => exact ⟨k + 1, HJ.out, by simp, hid HI.out.1⟩
        · have hkn : k = n + ni := by omega
          have q1 : ¬ (k : Int) < (n : Int) + (ni : Int) := by omega
          clear hlt hk
          go_upto_region 11 with fail
          refine wp_region_held_drew (S := fun w => Cel w gs 48 [.pointer (some ⟨p.f.gm, 0, none⟩), .pointer (some ⟨p.g, 0, none⟩), .pointer (some ⟨r.g, 0, none⟩)]) (by kernel_rfl) K1.out.box (fun hHeld => ?_)
          generalize World.drew _ = wa at *
          refine tk 0 ⟨some 39, .move (.tmp 6), 3, "law.go:108", #[], none⟩ (.int .i64 (k : Int)) ?_
          simp only [Act.put, List.setIfInBounds_toArray, List.set_cons_zero, List.set_cons_succ]
          refine tk 1 ⟨some 40, .move (.tmp 0), 25, "law.go:108", #[], none⟩ (.pointer (some ⟨gs, 0, none⟩)) ?_
          simp only [Act.put, List.setIfInBounds_toArray, List.set_cons_zero, List.set_cons_succ]
          refine tk 2 ⟨some 41, .nilCheck (.tmp 40), 0, "law.go:108", #[⟨1, .data⟩], none⟩ (.pointer (some ⟨gs, 0, none⟩)) ?_
          simp only [Act.put, List.setIfInBounds_toArray, List.set_cons_zero, List.set_cons_succ]
          refine tk 3 ⟨some 42, .fieldAddr 48 (.tmp 41) 0, 0, "law.go:108", #[⟨2, .data⟩], none⟩ (.pointer (some ⟨gs, 0, none⟩)) ?_
          simp only [Act.put, List.setIfInBounds_toArray, List.set_cons_zero, List.set_cons_succ]
          refine tk 4 ⟨some 43, .load 36 (.tmp 42), 36, "law.go:108", #[⟨3, .data⟩], none⟩ (.pointer (some ⟨p.f.gm, 0, none⟩)) ?_ (hy := Or.inl ⟨by rfl, by intro w hSw; have hc : w.cell? ⟨gs, 0, none⟩ = some (.pointer (some ⟨p.f.gm, 0, none⟩)) := hSw.cell 0; go_simp⟩)
          simp only [Act.put, List.setIfInBounds_toArray, List.set_cons_zero, List.set_cons_succ]
          refine tk 6 ⟨some 45, .move (.tmp 0), 25, "law.go:108", #[], none⟩ (.pointer (some ⟨gs, 0, none⟩)) ?_
          simp only [Act.put, List.setIfInBounds_toArray, List.set_cons_zero, List.set_cons_succ]
          refine tk 7 ⟨some 46, .nilCheck (.tmp 45), 0, "law.go:108", #[⟨6, .data⟩], none⟩ (.pointer (some ⟨gs, 0, none⟩)) ?_
          simp only [Act.put, List.setIfInBounds_toArray, List.set_cons_zero, List.set_cons_succ]
          refine tk 8 ⟨some 47, .fieldAddr 48 (.tmp 46) 0, 0, "law.go:108", #[⟨7, .data⟩], none⟩ (.pointer (some ⟨gs, 0, none⟩)) ?_
          simp only [Act.put, List.setIfInBounds_toArray, List.set_cons_zero, List.set_cons_succ]
          refine tk 9 ⟨some 48, .load 36 (.tmp 47), 36, "law.go:108", #[⟨8, .data⟩], none⟩ (.pointer (some ⟨p.f.gm, 0, none⟩)) ?_ (hy := Or.inl ⟨by rfl, by intro w hSw; have hc : w.cell? ⟨gs, 0, none⟩ = some (.pointer (some ⟨p.f.gm, 0, none⟩)) := hSw.cell 0; go_simp⟩)
          simp only [Act.put, List.setIfInBounds_toArray, List.set_cons_zero, List.set_cons_succ]
          refine wpAnyH_ready (rs := [5]) (by kernel_rfl) (by simp) (AllReadyH.cons (o := ⟨some 44, .call { callee := .value (.func 47), args := #[.tmp 43], argTypes := #[36] }, 3, "law.go:108", #[⟨4, .data⟩], none⟩) rfl (fun KQ hK => ?_) AllReadyH.nil)
          go_simp
          refine (HSc.out _ K1.out.own).mono ?_
          rintro x wx ⟨rfl, hw⟩
          subst wx
          go_wp2_with fail
          refine hK.out _ _ K1.out.box (fun hHeld => ?_)
          clear hK KQ
          try simp only [Act.put, List.setIfInBounds_toArray, List.set_cons_zero, List.set_cons_succ]
          refine wpAnyH_ready (rs := [10]) (by kernel_rfl) (by simp) (AllReadyH.cons (o := ⟨some 49, .call { callee := .value (.func 48), args := #[.tmp 48], argTypes := #[36] }, 3, "law.go:108", #[⟨9, .data⟩, ⟨5, .chain⟩], none⟩) rfl (fun KQ hK => ?_) AllReadyH.nil)
          go_simp
          refine (HSi.out _ K1.out.own).mono ?_
          rintro x wx ⟨rfl, hw⟩
          subst wx
          go_wp2_with fail
          refine hK.out _ _ K1.out.box (fun hHeld => ?_)
          clear hK KQ
          try simp only [Act.put, List.setIfInBounds_toArray, List.set_cons_zero, List.set_cons_succ]
          refine tk 11 ⟨some 50, .binOp .add 3 (.tmp 44) (.tmp 49) 3, 3, "law.go:108", #[⟨5, .data⟩, ⟨10, .data⟩], none⟩ (.int .i64 ((n : Int) + (ni : Int))) ?_
          simp only [Act.put, List.setIfInBounds_toArray, List.set_cons_zero, List.set_cons_succ]
          refine tk 12 ⟨some 51, .binOp .lss 3 (.tmp 39) (.tmp 50) 3, 4, "law.go:108", #[⟨0, .data⟩, ⟨11, .data⟩], none⟩ (.bool false) ?_
          simp only [Act.put, List.setIfInBounds_toArray, List.set_cons_zero, List.set_cons_succ]
          refine wpAnyH_done (by kernel_rfl) ?_ _
          go_wp2_with fail
          go_ret
          exact ⟨rfl, K1.out.bl⟩
end Go.Proofs.YtgbpbfnpeeciaaaGreat
