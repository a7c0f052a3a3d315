/- MeasureOne: two unlike lists of one sum. -/
import Derived.Test.YtmomidkodjihjaaDoorMu
namespace Go.Proofs.YtmomidkodjihjaaDoor
open Go.RowKit
open H
set_option maxHeartbeats 8000000
set_option maxRecDepth 100000
attribute [-simp] Tryd.isAgg44 Tryd.sizeOf44 Tryd.zeroValue44
theorem one_pair (W : World) (hT : Tab W) (h2 : 1 < W.heap.size) (ao : Option Addr) (na ca : Nat) (la : List Lv) (hla : la.length = na) (hLa : LL W ao la) (hba : na * 56 ≤ 140737488355328) (hWa : ∀ x ∈ la, LvW x)
    (bo : Option Addr) (nb cb : Nat) (lb : List Lv) (hlb : lb.length = nb) (hLb : LL W bo lb) (hbb : nb * 56 ≤ 140737488355328) (hWb : ∀ x ∈ lb, LvW x) (hP0 : ¬ (la.take 6).map plainO = (lb.take 6).map plainO) (hM0 : sumW (enc ((la.take 6).map plainO)) = sumW (enc ((lb.take 6).map plainO))) :
    Calls Tryd.prog 5 #[.slice ao na ca, .slice bo nb cb] W fun e W' => e = .returned (.bool true) ∧ Below W.heap.size W W' := by
  have HTb := hid (fun w (hw : Below W.heap.size W w) => And.intro (hT.below hw h2) (show 1 < w.heap.size by have := hw.size; omega))
  have HKn := hid (fun w (hw : Below W.heap.size W w) => known_any w (hT.below hw h2) (by have := hw.size; omega))
  have HCa := hid (copied_any W ao na ca la hla hLa hba)
  have HPa := hid (fun w' u (hu : HL W w' u la) => plain_any W w' u la hu hLa.ld 6 (by decide) (by omega))
  have HCb := hid (fun w (hw : Below W.heap.size W w) => copied_any w bo nb cb lb hlb (hLb.on hw) hbb)
  have HPb := hid (fun w (hw : Below W.heap.size W w) w' u (hu : HL w w' u lb) => plain_any w w' u lb hu (fun x hx => ⟨((hLb.ld x hx).1).below hw, (hLb.ld x hx).2⟩) 6 (by decide) (by omega))
  obtain ⟨PX, hPX⟩ : ∃ P, P = (la.take 6).map plainO := ⟨_, rfl⟩
  obtain ⟨PY, hPY⟩ : ∃ P, P = (lb.take 6).map plainO := ⟨_, rfl⟩
  obtain ⟨EX, hEX⟩ : ∃ E, enc PX = E := ⟨_, rfl⟩
  obtain ⟨EY, hEY⟩ : ∃ E, enc PY = E := ⟨_, rfl⟩
  obtain ⟨NX, hNX⟩ : ∃ N, EX.length = N := ⟨_, rfl⟩
  obtain ⟨NY, hNY⟩ : ∃ N, EY.length = N := ⟨_, rfl⟩
  obtain ⟨MX, hMX⟩ : ∃ M, sumW EX = M := ⟨_, rfl⟩
  obtain ⟨MY, hMY⟩ : ∃ M, sumW EY = M := ⟨_, rfl⟩
  have KX : Hid (PK W PX EX NX MX) := hid ⟨by rw [hPX]; exact plainL_ok la 6, hEX, hNX, by rw [← hNX, ← hEX, hPX]; exact plainL_len la 6 (by decide), by rw [← hEX, hPX]; exact wds_enc _ (fun x hx => hWa x (List.mem_of_mem_take hx)), hMX⟩
  have KY : Hid (PK W PY EY NY MY) := hid ⟨by rw [hPY]; exact plainL_ok lb 6, hEY, hNY, by rw [← hNY, ← hEY, hPY]; exact plainL_len lb 6 (by decide), by rw [← hEY, hPY]; exact wds_enc _ (fun x hx => hWb x (List.mem_of_mem_take hx)), hMY⟩
  rw [← hPX] at HPa
  rw [← hPY] at HPb
  have lX := KX.out.l
  have lY := KY.out.l
  have qX : (NX : Int) ≤ 8208 := by omega
  have qY : (NY : Int) ≤ 8208 := by omega
  have hMXl : MX.length = 8 := by rw [← hMX]; exact sumW_length _
  have hMYl : MY.length = 8 := by rw [← hMY]; exact sumW_length _
  have HSX : Hid (∀ w p c, Below W.heap.size W w → At w .u32 p EX → Calls Tryd.prog 20 #[.slice p NX c] w fun e W' => e = .returned (.agg (MX.map (Value.int .u32)).toArray) ∧ Below w.heap.size w W') := hid (fun w p c hw hp => by rw [← hMX]; exact sumW_any w (HTb.out w hw).1 (HTb.out w hw).2 p NX c EX hNX hp (by omega))
  have HSY : Hid (∀ w p c, Below W.heap.size W w → At w .u32 p EY → Calls Tryd.prog 20 #[.slice p NY c] w fun e W' => e = .returned (.agg (MY.map (Value.int .u32)).toArray) ∧ Below w.heap.size w W') := hid (fun w p c hw hp => by rw [← hMY]; exact sumW_any w (HTb.out w hw).1 (HTb.out w hw).2 p NY c EY hNY hp (by omega))
  have HMx : Hid (∀ w p n c (lo : List Ov), HO W w (.slice p n c) lo → lo.map Ov.o = PX → Calls Tryd.prog 17 #[.slice p n c] w fun e W' => e = .returned (.tuple #[Ag MX, .int .i64 0]) ∧ Below w.heap.size w W') := hid (fun w p n c lo ho hmap => by
    have h5 := enc_two PX
    rw [hEX, hNX, ← hmap, List.length_map] at h5
    have h1 := measure_ok w (HTb.out w ho.below).1 (HTb.out w ho.below).2 p n c lo ho.ol'.2.1 ho.ol'.1 (by rw [← ho.ol'.2.1]; omega) (by rw [hmap]; exact KX.out.ok) (by rw [hmap, hEX, hNX]; omega)
    rw [hmap, hEX, hMX] at h1
    exact h1)
  have HMy : Hid (∀ w p n c (lo : List Ov), HO W w (.slice p n c) lo → lo.map Ov.o = PY → Calls Tryd.prog 17 #[.slice p n c] w fun e W' => e = .returned (.tuple #[Ag MY, .int .i64 0]) ∧ Below w.heap.size w W') := hid (fun w p n c lo ho hmap => by
    have h5 := enc_two PY
    rw [hEY, hNY, ← hmap, List.length_map] at h5
    have h1 := measure_ok w (HTb.out w ho.below).1 (HTb.out w ho.below).2 p n c lo ho.ol'.2.1 ho.ol'.1 (by rw [← ho.ol'.2.1]; omega) (by rw [hmap]; exact KY.out.ok) (by rw [hmap, hEY, hNY]; omega)
    rw [hmap, hEY, hMY] at h1
    exact h1)
  have HDe := hid (fun w p c (hp : Holds W w .u32 24 (.slice p NX c) EX) => decode_ok w p NX c EX hNX KX.out.w (holds_at' hp).1 (holds_at' hp).2.2 (by omega) ⟨PX, KX.out.ok, hEX⟩)
  have HAl : Hid (∀ w p n c q m d (l l' : List Ov) (P Q : List MOp), OL w p l → l.length = n → OL w q l' → l'.length = m → l.map Ov.o = P → l'.map Ov.o = Q → (∀ o ∈ P, o.Ok) → n ≤ 8208 → ∀ r : Bool, (r = true ↔ P = Q) → Calls Tryd.prog 19 #[.slice p n c, .slice q m d] w fun e W' => e = .returned (.bool r) ∧ Below w.heap.size w W') := hid (fun w p n c q m d l l' P Q h1 h2 h3 h4 h5 h6 h7 h8 r hr => alike_any w p q n m c d l l' h2 h4 h1 h3 (by omega) (fun x hx => by
    have h9 := (h7 x.o (by rw [← h5]; exact List.mem_map_of_mem hx)).2.2
    rw [h9]
    unfold pgN
    split <;> omega) r (by rw [h5, h6]; exact hr))
  have HSm := hid (fun w p c q d (hp : At w .u32 p EX) (hq : At w .u32 q EY) => same_any w p q NX NY c d EX EY hNX hNY hp hq (by omega))
  obtain ⟨Y, hY⟩ : ∃ Y : List Int, Y = List.replicate 8 0 := ⟨_, rfl⟩
  have hYl : Y.length = 8 := by rw [hY]; simp
  have hy : ∀ w, (zeroValue 44).run Tryd.prog w = .ok (.agg (Y.map (Value.int .u32)).toArray) w := fun w => by rw [Tryd.zeroValue44, hY]; rfl
  have heqX : ∀ w, (Op.equalIn 10000 44 (.agg (MX.map (Value.int .u32)).toArray) (.agg (MX.map (Value.int .u32)).toArray)).run Tryd.prog w = .ok true w := fun w => by rw [eq27 MX MX hMXl hMXl w, decide_eq_true rfl]
  have heqY : ∀ w, (Op.equalIn 10000 44 (.agg (MY.map (Value.int .u32)).toArray) (.agg (MY.map (Value.int .u32)).toArray)).run Tryd.prog w = .ok true w := fun w => by rw [eq27 MY MY hMYl hMYl w, decide_eq_true rfl]
  have heqM := eq27 MX MY hMXl hMYl
  have HIj : Hid (EX = EY ↔ PX = PY) := hid ⟨fun e => enc_inj KX.out.ok KY.out.ok (by rw [hEX, hEY]; exact e), fun e => by rw [← hEX, ← hEY, e]⟩
  have hcX : enc PX = EX := hEX
  have hP : ¬ PX = PY := by rw [hPX, hPY]; exact hP0
  have HSame := hid hP
  have hE : ¬ EX = EY := fun e => hP (HIj.out.1 e)
  rw [decide_eq_false hE] at HSm
  have hM : MX = MY := by rw [← KX.out.m, ← KY.out.m, ← hEX, ← hEY, hPX, hPY]; exact hM0
  have HArg : Hid (EX ≠ EY ∧ sumW EX = sumW EY) := hid ⟨hE, by rw [KX.out.m, KY.out.m]; exact hM⟩
  rw [decide_eq_true hM] at heqM
  clear hP hE hM hP0 hM0
  clear hT h2 hla hLa hba hWa hlb hLb hbb hWb hPX hPY hEX hEY hNX hNY hMX hMY hY lX lY hcX
  go_enter Tryd.func5, Tryd.ntmps5
  go_upto_region 2 with (first | (go_at_call 13; refine HCa.out.mono ?_; rintro e w1 ⟨u1, rfl, h1⟩; have H1 := hid h1; clear h1 HCa) | (go_at_call 12; refine (HPa.out _ _ H1.out).mono ?_; rintro e w2 ⟨u2, lx, rfl, h2, hmap⟩; obtain ⟨px, cx, hv, _, _⟩ := h2.ol; subst hv; have H2 := hid h2; have HX := hid hmap; clear h2 hmap HPa H1))
  obtain ⟨nx, hnx⟩ : ∃ nx, lx.length = nx := ⟨_, rfl⟩
  rw [hnx] at H2 ⊢
  clear hnx
  go_upto_region 3 with (first | (go_at_call 13; refine (HCb.out _ H2.out.below).mono ?_; rintro e w3 ⟨u3, rfl, h3⟩; have H3 := hid h3; clear h3 HCb) | (go_at_call 12; refine (HPb.out _ H2.out.below _ _ H3.out).mono ?_; rintro e w4 ⟨u4, ly, rfl, h4, hmap⟩; obtain ⟨py, cy, hv, _, _⟩ := h4.ol; subst hv; have H4 := hid (And.intro (H2.out.on h4.below) (ho_base h4 H2.out.below)); have HY := hid hmap; clear h4 hmap HPb H3 H2))
  obtain ⟨ny, hny⟩ : ∃ ny, ly.length = ny := ⟨_, rfl⟩
  rw [hny] at H4 ⊢
  clear hny
  go_upto_region 4 with (go_at_call 10; refine ((KX.out.enc H4.out.1.ol'.1 H4.out.1.ol'.2.1 HX.out) _ (Below.refl _ _)).mono ?_; rintro e w5 ⟨pv, cv, rfl, hh⟩; have H5 := hid (And.intro (H4.out.1.on hh.below) (And.intro (H4.out.2.on hh.below) (holds_base hh H4.out.1.below))); clear hh H4)
  go_upto_region 5 with (go_at_call 10; refine ((KY.out.enc H5.out.2.1.ol'.1 H5.out.2.1.ol'.2.1 HY.out) _ (Below.refl _ _)).mono ?_; rintro e w6 ⟨pw, cw, rfl, hh⟩; have X6 : Hid (OS W w6 px nx cx lx py ny cy ly pv NX cv EX pw NY cw EY) := hid ⟨H5.out.1.on hh.below, H5.out.2.1.on hh.below, holds_on H5.out.2.2 hh.below, holds_base hh H5.out.1.below⟩; clear hh H5)
  go_upto_region 6 with (go_at_call 8; refine (HDe.out _ _ _ X6.out.v).mono ?_; rintro e w7 ⟨pb, cb', lb', rfl, hob, hokb, hencb⟩; have X7 := hid (X6.out.on hob.below); have HBk : Hid (OL w7 pb lb' ∧ lb'.map Ov.o = PX ∧ lb'.length ≤ 8208) := hid ⟨hob.ol'.1, enc_inj hokb KX.out.ok (by rw [hencb]; exact KX.out.e.symm), by have h5 := enc_two (lb'.map Ov.o); rw [hencb, KX.out.n, List.length_map] at h5; have := KX.out.l; omega⟩; clear hob hokb hencb X6 HDe)
  have HNX : Hid (nx ≤ 8208 ∧ ny ≤ 8208) := hid ⟨by have h5 := enc_two PX; rw [KX.out.e, KX.out.n, ← HX.out, List.length_map, X7.out.x.ol'.2.1] at h5; have := KX.out.l; omega, by have h5 := enc_two PY; rw [KY.out.e, KY.out.n, ← HY.out, List.length_map, X7.out.y.ol'.2.1] at h5; have := KY.out.l; omega⟩
  go_upto_region 8 with (first | (go_at_call 9; refine (HKn.out _ X7.out.x.below).mono ?_; rintro e w8 ⟨rfl, hb8⟩; have X8 := hid (X7.out.on hb8); have HB8 := hid (HBk.out.1.on hb8); clear hb8 X7) | (revert X8; intro X8; go_at_call 19; refine (HAl.out _ _ _ _ _ _ _ _ _ _ _ HB8.out rfl X8.out.x.ol'.1 X8.out.x.ol'.2.1 HBk.out.2.1 HX.out KX.out.ok HBk.out.2.2 true (by simp)).mono ?_; rintro e w9 ⟨rfl, hb9⟩; have X9 := hid (X8.out.on hb9); clear hb9 X8 HB8) | (revert X9; intro X9; go_at_call 11; refine (HSm.out _ _ _ _ _ (holds_at' X9.out.v).1 (holds_at' X9.out.w).1).mono ?_; rintro e w10 ⟨rfl, hb10⟩; have X10 := hid (X9.out.on hb10); clear hb10 X9) | (revert X10; intro X10; go_at_call 19; refine (HAl.out _ _ _ _ _ _ _ _ _ _ _ X10.out.x.ol'.1 X10.out.x.ol'.2.1 X10.out.y.ol'.1 X10.out.y.ol'.2.1 HX.out HY.out KX.out.ok HNX.out.1 false (by simp [HSame.out])).mono ?_; rintro e w11 ⟨rfl, hb11⟩; have X11 := hid (X10.out.on hb11); clear hb11 X10))
  go_upto_region 9 with (first | (go_at_call 17; refine (HMx.out _ _ _ _ _ X11.out.x HX.out).mono ?_; rintro e w12 ⟨rfl, hb12⟩; have X12 := hid (X11.out.on hb12); clear hb12 X11) | (revert X12; intro X12; refine wpList_store_but rfl 44 _ _ rfl w12.heap.size MX rfl rfl (Blk.new w12 .u32 44 Y) (by rw [hMXl]; exact size27) (by rw [hYl, hMXl]) ?_; intro w13 b13 t13 s13; have X13 := hid (And.intro (X12.out.on (box_below _ t13)) b13); clear b13 t13 s13 X12))
  generalize w12.heap.size = g13 at *
  go_upto_region 10 with (first | (go_at_call 17; refine (HMy.out _ _ _ _ _ X13.out.1.y HY.out).mono ?_; rintro e w14 ⟨rfl, hb14⟩; have X14 := hid (And.intro (X13.out.1.on hb14) (X13.out.2.on hb14)); clear hb14 X13) | (revert X14; intro X14; refine wpList_store_but rfl 44 _ _ rfl w14.heap.size MY rfl rfl (Blk.new w14 .u32 44 Y) (by rw [hMYl]; exact size27) (by rw [hYl, hMYl]) ?_; intro w15 b15 t15 s15; have X15 := hid (And.intro (X14.out.1.on (box_below _ t15)) (And.intro (X14.out.2.on (box_below _ t15)) b15)); clear b15 t15 s15 X14))
  generalize w14.heap.size = g14 at *
  have Y0 := hid (And.intro (X15.out.1.on (Below.refl _ _).drew) (And.intro (X15.out.2.1.on (Below.refl _ _).drew) (X15.out.2.2.on (Below.refl _ _).drew)))
  clear X15
  refine wp_region_held_drew (S := fun w => OS W w px nx cx lx py ny cy ly pv NX cv EX pw NY cw EY ∧ Blk w g13 .u32 44 MX ∧ Blk w g14 .u32 44 MY) (by kernel_rfl) Y0.out (fun hHeld => ?_)
  generalize World.drew _ = w0 at *
  refine wpAnyH_take (i := 0) (oi := { dst := some 76, op := Op.move (Operand.tmp 8), type := 26, pos := "outright.go:56", after := #[], guard := none }) (v := .int .i64 0) rfl (by kernel_rfl) (by kernel_rfl) (by kernel_rfl) (fun _ _ _ h => h) (Or.inl ⟨by rfl, by intro w hSw; go_simp⟩) (by assumption) ?_
  simp only [Act.put, List.setIfInBounds_toArray, List.set_cons_zero, List.set_cons_succ]
  refine wpAnyH_take (i := 1) (oi := { dst := some 77, op := Op.binOp BinOp.neq 3 (Operand.tmp 76) (Operand.const (Value.int IntKind.i64 0)) 3, type := 4, pos := "outright.go:56", after := #[{ on := 0, ground := Ground.data }], guard := none }) (v := .bool false) rfl (by kernel_rfl) (by kernel_rfl) (by kernel_rfl) (fun _ _ _ h => h) (Or.inl ⟨by rfl, by intro w hSw; go_simp⟩) (by assumption) ?_
  simp only [Act.put, List.setIfInBounds_toArray, List.set_cons_zero, List.set_cons_succ]
  refine wpAnyH_take (i := 2) (oi := { dst := some 78, op := Op.move (Operand.tmp 77), type := 4, pos := "outright.go:56", after := #[{ on := 1, ground := Ground.data }], guard := none }) (v := .bool false) rfl (by kernel_rfl) (by kernel_rfl) (by kernel_rfl) (fun _ _ _ h => h) (Or.inl ⟨by rfl, by intro w hSw; go_simp⟩) (by assumption) ?_
  simp only [Act.put, List.setIfInBounds_toArray, List.set_cons_zero, List.set_cons_succ]
  refine wpAnyH_take (i := 3) (oi := { dst := some 79, op := Op.move (Operand.tmp 10), type := 26, pos := "outright.go:56", after := #[{ on := 2, ground := Ground.guard }], guard := some (2, false) }) (v := .int .i64 0) rfl (by kernel_rfl) (by kernel_rfl) (by kernel_rfl) (fun _ _ _ h => h) (Or.inl ⟨by rfl, by intro w hSw; go_simp⟩) (by assumption) ?_
  simp only [Act.put, List.setIfInBounds_toArray, List.set_cons_zero, List.set_cons_succ]
  refine wpAnyH_take (i := 4) (oi := { dst := some 80, op := Op.binOp BinOp.neq 3 (Operand.tmp 79) (Operand.const (Value.int IntKind.i64 0)) 3, type := 4, pos := "outright.go:56", after := #[{ on := 3, ground := Ground.data }, { on := 2, ground := Ground.guard }], guard := some (2, false) }) (v := .bool false) rfl (by kernel_rfl) (by kernel_rfl) (by kernel_rfl) (fun _ _ _ h => h) (Or.inl ⟨by rfl, by intro w hSw; go_simp⟩) (by assumption) ?_
  simp only [Act.put, List.setIfInBounds_toArray, List.set_cons_zero, List.set_cons_succ]
  refine wpAnyH_take (i := 5) (oi := { dst := some 81, op := Op.pick (Operand.tmp 78) (Operand.const (Value.bool true)) (Operand.tmp 80), type := 4, pos := "outright.go:56", after := #[{ on := 2, ground := Ground.data }, { on := 4, ground := Ground.data }], guard := none }) (v := .bool false) rfl (by kernel_rfl) (by kernel_rfl) (by kernel_rfl) (fun _ _ _ h => h) (Or.inl ⟨by rfl, by intro w hSw; go_simp⟩) (by assumption) ?_
  simp only [Act.put, List.setIfInBounds_toArray, List.set_cons_zero, List.set_cons_succ]
  refine wpAnyH_take (i := 6) (oi := { dst := some 82, op := Op.move (Operand.tmp 81), type := 4, pos := "outright.go:56", after := #[{ on := 5, ground := Ground.data }, { on := 2, ground := Ground.chain }], guard := none }) (v := .bool false) rfl (by kernel_rfl) (by kernel_rfl) (by kernel_rfl) (fun _ _ _ h => h) (Or.inl ⟨by rfl, by intro w hSw; go_simp⟩) (by assumption) ?_
  simp only [Act.put, List.setIfInBounds_toArray, List.set_cons_zero, List.set_cons_succ]
  refine wpAnyH_take (i := 7) (oi := { dst := some 83, op := Op.load 44 (Operand.tmp 13), type := 44, pos := "outright.go:56", after := #[{ on := 6, ground := Ground.guard }], guard := some (6, false) }) (v := .agg (MX.map (Value.int .u32)).toArray) rfl (by kernel_rfl) (by kernel_rfl) (by kernel_rfl) (fun _ _ _ h => h) (yieldsIf_load_mid (by rfl) _ _ rfl _ _ rfl _ _ (fun w hSw => cel_range (blk_cel hSw.2.1)) Tryd.underlying44 rfl (by rw [List.length_map, hMXl]; exact size27)) (by assumption) ?_
  simp only [Act.put, List.setIfInBounds_toArray, List.set_cons_zero, List.set_cons_succ]
  refine wpAnyH_take (i := 8) (oi := { dst := some 84, op := Op.move (Operand.tmp 7), type := 22, pos := "outright.go:56", after := #[{ on := 6, ground := Ground.guard }], guard := some (6, false) }) (v := .slice pv NX cv) rfl (by kernel_rfl) (by kernel_rfl) (by kernel_rfl) (fun _ _ _ h => h) (Or.inl ⟨by rfl, by intro w hSw; go_simp⟩) (by assumption) ?_
  simp only [Act.put, List.setIfInBounds_toArray, List.set_cons_zero, List.set_cons_succ]
  refine wpAnyH_ready (rs := [9]) (by kernel_rfl) (by simp) (AllReadyH.cons (o := { dst := some 85, op := Op.call { callee := Callee.value (Operand.func 20), args := #[Operand.tmp 84], argTypes := #[22] }, type := 44, pos := "outright.go:56", after := #[{ on := 8, ground := Ground.data }, { on := 6, ground := Ground.chain }, { on := 6, ground := Ground.guard }], guard := some (6, false) }) rfl (fun KQ hK => ?_) AllReadyH.nil)
  go_simp
  refine (HSX.out _ _ _ Y0.out.1.x.below (holds_at' Y0.out.1.v).1).mono ?_
  rintro e w16 ⟨rfl, hb⟩
  have Y1 := hid (And.intro (Y0.out.1.on hb) (And.intro (Y0.out.2.1.on hb) (Y0.out.2.2.on hb)))
  clear hb Y0
  go_wp2_with fail
  refine hK.out _ _ Y1.out (fun hHeld => ?_)
  clear hK KQ
  try simp only [Act.put, List.setIfInBounds_toArray, List.set_cons_zero, List.set_cons_succ]
  refine wpAnyH_take (i := 10) (oi := { dst := some 86, op := Op.binOp BinOp.neq 44 (Operand.tmp 83) (Operand.tmp 85) 44, type := 4, pos := "outright.go:56", after := #[{ on := 7, ground := Ground.data }, { on := 9, ground := Ground.data }, { on := 6, ground := Ground.guard }], guard := some (6, false) }) (v := .bool false) rfl (by kernel_rfl) (by kernel_rfl) (by kernel_rfl) (fun _ _ _ h => h) (Or.inl ⟨by rfl, by intro w hSw; go_simp⟩) (by assumption) ?_
  simp only [Act.put, List.setIfInBounds_toArray, List.set_cons_zero, List.set_cons_succ]
  refine wpAnyH_take (i := 11) (oi := { dst := some 87, op := Op.pick (Operand.tmp 82) (Operand.const (Value.bool true)) (Operand.tmp 86), type := 4, pos := "outright.go:56", after := #[{ on := 6, ground := Ground.data }, { on := 10, ground := Ground.data }], guard := none }) (v := .bool false) rfl (by kernel_rfl) (by kernel_rfl) (by kernel_rfl) (fun _ _ _ h => h) (Or.inl ⟨by rfl, by intro w hSw; go_simp⟩) (by assumption) ?_
  simp only [Act.put, List.setIfInBounds_toArray, List.set_cons_zero, List.set_cons_succ]
  refine wpAnyH_take (i := 12) (oi := { dst := some 88, op := Op.move (Operand.tmp 87), type := 4, pos := "outright.go:56", after := #[{ on := 11, ground := Ground.data }, { on := 9, ground := Ground.chain }], guard := none }) (v := .bool false) rfl (by kernel_rfl) (by kernel_rfl) (by kernel_rfl) (fun _ _ _ h => h) (Or.inl ⟨by rfl, by intro w hSw; go_simp⟩) (by assumption) ?_
  simp only [Act.put, List.setIfInBounds_toArray, List.set_cons_zero, List.set_cons_succ]
  refine wpAnyH_take (i := 13) (oi := { dst := some 89, op := Op.load 44 (Operand.tmp 14), type := 44, pos := "outright.go:56", after := #[{ on := 12, ground := Ground.guard }], guard := some (12, false) }) (v := .agg (MY.map (Value.int .u32)).toArray) rfl (by kernel_rfl) (by kernel_rfl) (by kernel_rfl) (fun _ _ _ h => h) (yieldsIf_load_mid (by rfl) _ _ rfl _ _ rfl _ _ (fun w hSw => cel_range (blk_cel hSw.2.2)) Tryd.underlying44 rfl (by rw [List.length_map, hMYl]; exact size27)) (by assumption) ?_
  simp only [Act.put, List.setIfInBounds_toArray, List.set_cons_zero, List.set_cons_succ]
  refine wpAnyH_take (i := 14) (oi := { dst := some 90, op := Op.move (Operand.tmp 9), type := 22, pos := "outright.go:56", after := #[{ on := 12, ground := Ground.guard }], guard := some (12, false) }) (v := .slice pw NY cw) rfl (by kernel_rfl) (by kernel_rfl) (by kernel_rfl) (fun _ _ _ h => h) (Or.inl ⟨by rfl, by intro w hSw; go_simp⟩) (by assumption) ?_
  simp only [Act.put, List.setIfInBounds_toArray, List.set_cons_zero, List.set_cons_succ]
  refine wpAnyH_ready (rs := [15]) (by kernel_rfl) (by simp) (AllReadyH.cons (o := { dst := some 91, op := Op.call { callee := Callee.value (Operand.func 20), args := #[Operand.tmp 90], argTypes := #[22] }, type := 44, pos := "outright.go:56", after := #[{ on := 14, ground := Ground.data }, { on := 12, ground := Ground.chain }, { on := 12, ground := Ground.guard }], guard := some (12, false) }) rfl (fun KQ hK => ?_) AllReadyH.nil)
  go_simp
  refine (HSY.out _ _ _ Y1.out.1.x.below (holds_at' Y1.out.1.w).1).mono ?_
  rintro e w17 ⟨rfl, hb⟩
  have Y2 := hid (And.intro (Y1.out.1.on hb) (And.intro (Y1.out.2.1.on hb) (Y1.out.2.2.on hb)))
  clear hb Y1
  go_wp2_with fail
  refine hK.out _ _ Y2.out (fun hHeld => ?_)
  clear hK KQ
  try simp only [Act.put, List.setIfInBounds_toArray, List.set_cons_zero, List.set_cons_succ]
  refine wpAnyH_take (i := 16) (oi := { dst := some 92, op := Op.binOp BinOp.neq 44 (Operand.tmp 89) (Operand.tmp 91) 44, type := 4, pos := "outright.go:56", after := #[{ on := 13, ground := Ground.data }, { on := 15, ground := Ground.data }, { on := 12, ground := Ground.guard }], guard := some (12, false) }) (v := .bool false) rfl (by kernel_rfl) (by kernel_rfl) (by kernel_rfl) (fun _ _ _ h => h) (Or.inl ⟨by rfl, by intro w hSw; go_simp⟩) (by assumption) ?_
  simp only [Act.put, List.setIfInBounds_toArray, List.set_cons_zero, List.set_cons_succ]
  refine wpAnyH_take (i := 17) (oi := { dst := some 93, op := Op.pick (Operand.tmp 88) (Operand.const (Value.bool true)) (Operand.tmp 92), type := 4, pos := "outright.go:56", after := #[{ on := 12, ground := Ground.data }, { on := 16, ground := Ground.data }], guard := none }) (v := .bool false) rfl (by kernel_rfl) (by kernel_rfl) (by kernel_rfl) (fun _ _ _ h => h) (Or.inl ⟨by rfl, by intro w hSw; go_simp⟩) (by assumption) ?_
  simp only [Act.put, List.setIfInBounds_toArray, List.set_cons_zero, List.set_cons_succ]
  refine wpAnyH_done (by kernel_rfl) ?_ _
  go_upto_region 12 with fail
  have HCl := hid (col_pair _ (HTb.out _ Y2.out.1.x.below).1 (HTb.out _ Y2.out.1.x.below).2 px py nx cx ny cy NX NY EX EY KX.out.n KY.out.n (by have := KX.out.l; omega) (by have := KY.out.l; omega) (KX.out.enc Y2.out.1.x.ol'.1 Y2.out.1.x.ol'.2.1 HX.out) (KY.out.enc Y2.out.1.y.ol'.1 Y2.out.1.y.ol'.2.1 HY.out) HArg.out)
  go_upto_region 13 with (go_at_call 21; refine HCl.out.mono ?_; rintro e w18 ⟨p1, c1, p2, c2, rfl, h1, h2⟩; have Y3 : Hid ((OS W (w18.alloc (.cells #[.slice p1 NX c1, .slice p2 NY c2] 52)) px nx cx lx py ny cy ly pv NX cv EX pw NY cw EY ∧ Blk (w18.alloc (.cells #[.slice p1 NX c1, .slice p2 NY c2] 52)) g13 .u32 44 MX ∧ Blk (w18.alloc (.cells #[.slice p1 NX c1, .slice p2 NY c2] 52)) g14 .u32 44 MY) ∧ (Cel (w18.alloc (.cells #[.slice p1 NX c1, .slice p2 NY c2] 52)) w18.heap.size 52 [.slice p1 NX c1, .slice p2 NY c2] ∧ At (w18.alloc (.cells #[.slice p1 NX c1, .slice p2 NY c2] 52)) .u32 p1 EX ∧ At (w18.alloc (.cells #[.slice p1 NX c1, .slice p2 NY c2] 52)) .u32 p2 EY)) := hid ⟨⟨(Y2.out.1.on h1.below).on (below_one _ _), (Y2.out.2.1.on h1.below).on (below_one _ _), (Y2.out.2.2.on h1.below).on (below_one _ _)⟩, heap_alloc_new _ _, (holds_at' h1).1.below (below_one _ _), (holds_at' h2).1.below (below_one _ _)⟩; clear h1 h2 Y2 HCl)
  generalize World.alloc w18 _ = w19 at *
  generalize w18.heap.size = g15 at *
  go_upto_region 15 with (first | (revert Y3; intro Y3; refine wpList_load_bg rfl 44 _ rfl g13 MX rfl Y3.out.1.2.1 Tryd.underlying44 (by rw [hMXl]; exact size27) ?_) | (revert Y3; intro Y3; refine wpList_load_bg rfl 44 _ rfl g14 MY rfl Y3.out.1.2.2 Tryd.underlying44 (by rw [hMYl]; exact size27) ?_) | (revert Y3; intro Y3; go_at_call 19; refine (HAl.out _ _ _ _ _ _ _ _ _ _ _ Y3.out.1.1.x.ol'.1 Y3.out.1.1.x.ol'.2.1 Y3.out.1.1.y.ol'.1 Y3.out.1.1.y.ol'.2.1 HX.out HY.out KX.out.ok HNX.out.1 false (by simp [HSame.out])).mono ?_; rintro e w20 ⟨rfl, hb⟩; have Y4 : Hid (OS W w20 px nx cx lx py ny cy ly pv NX cv EX pw NY cw EY ∧ Cel w20 g15 52 [.slice p1 NX c1, .slice p2 NY c2] ∧ At w20 .u32 p1 EX ∧ At w20 .u32 p2 EY) := hid ⟨Y3.out.1.1.on hb, Y3.out.2.1.on hb, Y3.out.2.2.1.below hb, Y3.out.2.2.2.below hb⟩; clear hb Y3))
  have Z0 : Hid (OS W w20.drew px nx cx lx py ny cy ly pv NX cv EX pw NY cw EY ∧ Cel w20.drew g15 52 [.slice p1 NX c1, .slice p2 NY c2] ∧ At w20.drew .u32 p1 EX ∧ At w20.drew .u32 p2 EY) := hid ⟨Y4.out.1.on (Below.refl _ _).drew, Y4.out.2.1.on (Below.refl _ _).drew, Y4.out.2.2.1.below (Below.refl _ _).drew, Y4.out.2.2.2.below (Below.refl _ _).drew⟩
  clear Y4
  have HSx1 := hid (fun w p c q d (hp : At w .u32 p EX) (hq : At w .u32 q EX) => same_any w p q NX NX c d EX EX KX.out.n KX.out.n hp hq (by have := KX.out.l; omega))
  have HSy1 := hid (fun w p c q d (hp : At w .u32 p EY) (hq : At w .u32 q EY) => same_any w p q NY NY c d EY EY KY.out.n KY.out.n hp hq (by have := KY.out.l; omega))
  rw [decide_eq_true rfl] at HSx1 HSy1
  refine wp_region_held_drew (S := fun w => OS W w px nx cx lx py ny cy ly pv NX cv EX pw NY cw EY ∧ Cel w g15 52 [.slice p1 NX c1, .slice p2 NY c2] ∧ At w .u32 p1 EX ∧ At w .u32 p2 EY) (by kernel_rfl) Z0.out (fun hHeld => ?_)
  generalize World.drew _ = w30 at *
  refine wpAnyH_take (i := 0) (oi := { dst := some 122, op := Op.move (Operand.tmp 8), type := 26, pos := "outright.go:63", after := #[], guard := none }) (v := .int .i64 0) rfl (by kernel_rfl) (by kernel_rfl) (by kernel_rfl) (fun _ _ _ h => h) (Or.inl ⟨by rfl, by intro w hSw; go_simp⟩) (by assumption) ?_
  simp only [Act.put, List.setIfInBounds_toArray, List.set_cons_zero, List.set_cons_succ]
  refine wpAnyH_take (i := 1) (oi := { dst := some 123, op := Op.binOp BinOp.eql 3 (Operand.tmp 122) (Operand.const (Value.int IntKind.i64 0)) 3, type := 4, pos := "outright.go:63", after := #[{ on := 0, ground := Ground.data }], guard := none }) (v := .bool true) rfl (by kernel_rfl) (by kernel_rfl) (by kernel_rfl) (fun _ _ _ h => h) (Or.inl ⟨by rfl, by intro w hSw; go_simp⟩) (by assumption) ?_
  simp only [Act.put, List.setIfInBounds_toArray, List.set_cons_zero, List.set_cons_succ]
  refine wpAnyH_take (i := 2) (oi := { dst := some 124, op := Op.move (Operand.tmp 123), type := 4, pos := "outright.go:63", after := #[{ on := 1, ground := Ground.data }], guard := none }) (v := .bool true) rfl (by kernel_rfl) (by kernel_rfl) (by kernel_rfl) (fun _ _ _ h => h) (Or.inl ⟨by rfl, by intro w hSw; go_simp⟩) (by assumption) ?_
  simp only [Act.put, List.setIfInBounds_toArray, List.set_cons_zero, List.set_cons_succ]
  refine wpAnyH_take (i := 3) (oi := { dst := some 125, op := Op.fieldAddr 52 (Operand.tmp 15) 0, type := 0, pos := "outright.go:63", after := #[{ on := 2, ground := Ground.guard }], guard := some (2, true) }) (v := .pointer (some ⟨g15, 0, none⟩)) rfl (by kernel_rfl) (by kernel_rfl) (by kernel_rfl) (fun _ _ _ h => h) (Or.inl ⟨by rfl, by intro w hSw; go_simp⟩) (by assumption) ?_
  simp only [Act.put, List.setIfInBounds_toArray, List.set_cons_zero, List.set_cons_succ]
  refine wpAnyH_take (i := 4) (oi := { dst := some 126, op := Op.load 22 (Operand.tmp 125), type := 22, pos := "outright.go:63", after := #[{ on := 3, ground := Ground.data }, { on := 2, ground := Ground.guard }], guard := some (2, true) }) (v := .slice p1 NX c1) rfl (by kernel_rfl) (by kernel_rfl) (by kernel_rfl) (fun _ _ _ h => h) (Or.inl ⟨by rfl, by intro w hSw; have hc := hSw.2.1.cell 0; simp only [List.getElem?_cons_zero] at hc; go_simp⟩) (by assumption) ?_
  simp only [Act.put, List.setIfInBounds_toArray, List.set_cons_zero, List.set_cons_succ]
  refine wpAnyH_take (i := 5) (oi := { dst := some 127, op := Op.move (Operand.tmp 7), type := 22, pos := "outright.go:63", after := #[{ on := 2, ground := Ground.guard }], guard := some (2, true) }) (v := .slice pv NX cv) rfl (by kernel_rfl) (by kernel_rfl) (by kernel_rfl) (fun _ _ _ h => h) (Or.inl ⟨by rfl, by intro w hSw; go_simp⟩) (by assumption) ?_
  simp only [Act.put, List.setIfInBounds_toArray, List.set_cons_zero, List.set_cons_succ]
  refine wpAnyH_ready (rs := [6]) (by kernel_rfl) (by simp) (AllReadyH.cons (o := { dst := some 128, op := Op.call { callee := Callee.value (Operand.func 11), args := #[Operand.tmp 126, Operand.tmp 127], argTypes := #[22, 22] }, type := 4, pos := "outright.go:63", after := #[{ on := 4, ground := Ground.data }, { on := 5, ground := Ground.data }, { on := 2, ground := Ground.chain }, { on := 2, ground := Ground.guard }], guard := some (2, true) }) rfl (fun KQ hK => ?_) AllReadyH.nil)
  go_simp
  refine (HSx1.out _ _ _ _ _ Z0.out.2.2.1 (holds_at' Z0.out.1.v).1).mono ?_
  rintro e w31 ⟨rfl, hb⟩
  have Z1 := hid (And.intro (Z0.out.1.on hb) (And.intro (Z0.out.2.1.on hb) (And.intro (Z0.out.2.2.1.below hb) (Z0.out.2.2.2.below hb))))
  clear hb Z0
  go_wp2_with fail
  refine hK.out _ _ Z1.out (fun hHeld => ?_)
  clear hK KQ
  try simp only [Act.put, List.setIfInBounds_toArray, List.set_cons_zero, List.set_cons_succ]
  refine wpAnyH_take (i := 7) (oi := { dst := some 129, op := Op.pick (Operand.tmp 124) (Operand.tmp 128) (Operand.const (Value.bool false)), type := 4, pos := "outright.go:63", after := #[{ on := 2, ground := Ground.data }, { on := 6, ground := Ground.data }], guard := none }) (v := .bool true) rfl (by kernel_rfl) (by kernel_rfl) (by kernel_rfl) (fun _ _ _ h => h) (Or.inl ⟨by rfl, by intro w hSw; go_simp⟩) (by assumption) ?_
  simp only [Act.put, List.setIfInBounds_toArray, List.set_cons_zero, List.set_cons_succ]
  refine wpAnyH_take (i := 8) (oi := { dst := some 130, op := Op.move (Operand.tmp 129), type := 4, pos := "outright.go:63", after := #[{ on := 7, ground := Ground.data }, { on := 6, ground := Ground.chain }], guard := none }) (v := .bool true) rfl (by kernel_rfl) (by kernel_rfl) (by kernel_rfl) (fun _ _ _ h => h) (Or.inl ⟨by rfl, by intro w hSw; go_simp⟩) (by assumption) ?_
  simp only [Act.put, List.setIfInBounds_toArray, List.set_cons_zero, List.set_cons_succ]
  refine wpAnyH_take (i := 9) (oi := { dst := some 131, op := Op.fieldAddr 52 (Operand.tmp 15) 1, type := 0, pos := "outright.go:63", after := #[{ on := 8, ground := Ground.guard }], guard := some (8, true) }) (v := .pointer (some ⟨g15, 1, none⟩)) rfl (by kernel_rfl) (by kernel_rfl) (by kernel_rfl) (fun _ _ _ h => h) (Or.inl ⟨by rfl, by intro w hSw; go_simp⟩) (by assumption) ?_
  simp only [Act.put, List.setIfInBounds_toArray, List.set_cons_zero, List.set_cons_succ]
  refine wpAnyH_take (i := 10) (oi := { dst := some 132, op := Op.load 22 (Operand.tmp 131), type := 22, pos := "outright.go:63", after := #[{ on := 9, ground := Ground.data }, { on := 8, ground := Ground.guard }], guard := some (8, true) }) (v := .slice p2 NY c2) rfl (by kernel_rfl) (by kernel_rfl) (by kernel_rfl) (fun _ _ _ h => h) (Or.inl ⟨by rfl, by intro w hSw; have hc := hSw.2.1.cell 1; simp only [List.getElem?_cons_zero, List.getElem?_cons_succ] at hc; go_simp⟩) (by assumption) ?_
  simp only [Act.put, List.setIfInBounds_toArray, List.set_cons_zero, List.set_cons_succ]
  refine wpAnyH_take (i := 11) (oi := { dst := some 133, op := Op.move (Operand.tmp 9), type := 22, pos := "outright.go:63", after := #[{ on := 8, ground := Ground.guard }], guard := some (8, true) }) (v := .slice pw NY cw) rfl (by kernel_rfl) (by kernel_rfl) (by kernel_rfl) (fun _ _ _ h => h) (Or.inl ⟨by rfl, by intro w hSw; go_simp⟩) (by assumption) ?_
  simp only [Act.put, List.setIfInBounds_toArray, List.set_cons_zero, List.set_cons_succ]
  refine wpAnyH_ready (rs := [12]) (by kernel_rfl) (by simp) (AllReadyH.cons (o := { dst := some 134, op := Op.call { callee := Callee.value (Operand.func 11), args := #[Operand.tmp 132, Operand.tmp 133], argTypes := #[22, 22] }, type := 4, pos := "outright.go:63", after := #[{ on := 10, ground := Ground.data }, { on := 11, ground := Ground.data }, { on := 8, ground := Ground.chain }, { on := 8, ground := Ground.guard }], guard := some (8, true) }) rfl (fun KQ hK => ?_) AllReadyH.nil)
  go_simp
  refine (HSy1.out _ _ _ _ _ Z1.out.2.2.2 (holds_at' Z1.out.1.w).1).mono ?_
  rintro e w32 ⟨rfl, hb⟩
  have Z2 := hid (And.intro (Z1.out.1.on hb) (And.intro (Z1.out.2.1.on hb) (And.intro (Z1.out.2.2.1.below hb) (Z1.out.2.2.2.below hb))))
  clear hb Z1
  go_wp2_with fail
  refine hK.out _ _ Z2.out (fun hHeld => ?_)
  clear hK KQ
  try simp only [Act.put, List.setIfInBounds_toArray, List.set_cons_zero, List.set_cons_succ]
  refine wpAnyH_take (i := 13) (oi := { dst := some 135, op := Op.pick (Operand.tmp 130) (Operand.tmp 134) (Operand.const (Value.bool false)), type := 4, pos := "outright.go:63", after := #[{ on := 8, ground := Ground.data }, { on := 12, ground := Ground.data }], guard := none }) (v := .bool true) rfl (by kernel_rfl) (by kernel_rfl) (by kernel_rfl) (fun _ _ _ h => h) (Or.inl ⟨by rfl, by intro w hSw; go_simp⟩) (by assumption) ?_
  simp only [Act.put, List.setIfInBounds_toArray, List.set_cons_zero, List.set_cons_succ]
  refine wpAnyH_take (i := 14) (oi := { dst := some 136, op := Op.move (Operand.tmp 135), type := 4, pos := "outright.go:63", after := #[{ on := 13, ground := Ground.data }, { on := 12, ground := Ground.chain }], guard := none }) (v := .bool true) rfl (by kernel_rfl) (by kernel_rfl) (by kernel_rfl) (fun _ _ _ h => h) (Or.inl ⟨by rfl, by intro w hSw; go_simp⟩) (by assumption) ?_
  simp only [Act.put, List.setIfInBounds_toArray, List.set_cons_zero, List.set_cons_succ]
  refine wpAnyH_take (i := 15) (oi := { dst := some 137, op := Op.fieldAddr 52 (Operand.tmp 15) 0, type := 0, pos := "outright.go:63", after := #[{ on := 14, ground := Ground.guard }], guard := some (14, true) }) (v := .pointer (some ⟨g15, 0, none⟩)) rfl (by kernel_rfl) (by kernel_rfl) (by kernel_rfl) (fun _ _ _ h => h) (Or.inl ⟨by rfl, by intro w hSw; go_simp⟩) (by assumption) ?_
  simp only [Act.put, List.setIfInBounds_toArray, List.set_cons_zero, List.set_cons_succ]
  refine wpAnyH_take (i := 16) (oi := { dst := some 138, op := Op.load 22 (Operand.tmp 137), type := 22, pos := "outright.go:63", after := #[{ on := 15, ground := Ground.data }, { on := 14, ground := Ground.guard }], guard := some (14, true) }) (v := .slice p1 NX c1) rfl (by kernel_rfl) (by kernel_rfl) (by kernel_rfl) (fun _ _ _ h => h) (Or.inl ⟨by rfl, by intro w hSw; have hc := hSw.2.1.cell 0; simp only [List.getElem?_cons_zero] at hc; go_simp⟩) (by assumption) ?_
  simp only [Act.put, List.setIfInBounds_toArray, List.set_cons_zero, List.set_cons_succ]
  refine wpAnyH_take (i := 17) (oi := { dst := some 139, op := Op.fieldAddr 52 (Operand.tmp 15) 1, type := 0, pos := "outright.go:63", after := #[{ on := 14, ground := Ground.guard }], guard := some (14, true) }) (v := .pointer (some ⟨g15, 1, none⟩)) rfl (by kernel_rfl) (by kernel_rfl) (by kernel_rfl) (fun _ _ _ h => h) (Or.inl ⟨by rfl, by intro w hSw; go_simp⟩) (by assumption) ?_
  simp only [Act.put, List.setIfInBounds_toArray, List.set_cons_zero, List.set_cons_succ]
  refine wpAnyH_take (i := 18) (oi := { dst := some 140, op := Op.load 22 (Operand.tmp 139), type := 22, pos := "outright.go:63", after := #[{ on := 17, ground := Ground.data }, { on := 14, ground := Ground.guard }], guard := some (14, true) }) (v := .slice p2 NY c2) rfl (by kernel_rfl) (by kernel_rfl) (by kernel_rfl) (fun _ _ _ h => h) (Or.inl ⟨by rfl, by intro w hSw; have hc := hSw.2.1.cell 1; simp only [List.getElem?_cons_zero, List.getElem?_cons_succ] at hc; go_simp⟩) (by assumption) ?_
  simp only [Act.put, List.setIfInBounds_toArray, List.set_cons_zero, List.set_cons_succ]
  refine wpAnyH_ready (rs := [19]) (by kernel_rfl) (by simp) (AllReadyH.cons (o := { dst := some 141, op := Op.call { callee := Callee.value (Operand.func 11), args := #[Operand.tmp 138, Operand.tmp 140], argTypes := #[22, 22] }, type := 4, pos := "outright.go:63", after := #[{ on := 16, ground := Ground.data }, { on := 18, ground := Ground.data }, { on := 14, ground := Ground.chain }, { on := 14, ground := Ground.guard }], guard := some (14, true) }) rfl (fun KQ hK => ?_) AllReadyH.nil)
  go_simp
  refine (HSm.out _ _ _ _ _ Z2.out.2.2.1 Z2.out.2.2.2).mono ?_
  rintro e w33 ⟨rfl, hb⟩
  have Z3 := hid (And.intro (Z2.out.1.on hb) (And.intro (Z2.out.2.1.on hb) (And.intro (Z2.out.2.2.1.below hb) (Z2.out.2.2.2.below hb))))
  clear hb Z2
  go_wp2_with fail
  refine hK.out _ _ Z3.out (fun hHeld => ?_)
  clear hK KQ
  try simp only [Act.put, List.setIfInBounds_toArray, List.set_cons_zero, List.set_cons_succ]
  refine wpAnyH_take (i := 20) (oi := { dst := some 142, op := Op.unOp UnOp.not 4 (Operand.tmp 141), type := 4, pos := "outright.go:63", after := #[{ on := 19, ground := Ground.data }, { on := 14, ground := Ground.guard }], guard := some (14, true) }) (v := .bool true) rfl (by kernel_rfl) (by kernel_rfl) (by kernel_rfl) (fun _ _ _ h => h) (Or.inl ⟨by rfl, by intro w hSw; go_simp⟩) (by assumption) ?_
  simp only [Act.put, List.setIfInBounds_toArray, List.set_cons_zero, List.set_cons_succ]
  refine wpAnyH_take (i := 21) (oi := { dst := some 143, op := Op.pick (Operand.tmp 136) (Operand.tmp 142) (Operand.const (Value.bool false)), type := 4, pos := "outright.go:63", after := #[{ on := 14, ground := Ground.data }, { on := 20, ground := Ground.data }], guard := none }) (v := .bool true) rfl (by kernel_rfl) (by kernel_rfl) (by kernel_rfl) (fun _ _ _ h => h) (Or.inl ⟨by rfl, by intro w hSw; go_simp⟩) (by assumption) ?_
  simp only [Act.put, List.setIfInBounds_toArray, List.set_cons_zero, List.set_cons_succ]
  refine wpAnyH_take (i := 22) (oi := { dst := some 144, op := Op.move (Operand.tmp 143), type := 4, pos := "outright.go:63", after := #[{ on := 21, ground := Ground.data }, { on := 19, ground := Ground.chain }], guard := none }) (v := .bool true) rfl (by kernel_rfl) (by kernel_rfl) (by kernel_rfl) (fun _ _ _ h => h) (Or.inl ⟨by rfl, by intro w hSw; go_simp⟩) (by assumption) ?_
  simp only [Act.put, List.setIfInBounds_toArray, List.set_cons_zero, List.set_cons_succ]
  refine wpAnyH_take (i := 23) (oi := { dst := some 145, op := Op.fieldAddr 52 (Operand.tmp 15) 0, type := 0, pos := "outright.go:63", after := #[{ on := 22, ground := Ground.guard }], guard := some (22, true) }) (v := .pointer (some ⟨g15, 0, none⟩)) rfl (by kernel_rfl) (by kernel_rfl) (by kernel_rfl) (fun _ _ _ h => h) (Or.inl ⟨by rfl, by intro w hSw; go_simp⟩) (by assumption) ?_
  simp only [Act.put, List.setIfInBounds_toArray, List.set_cons_zero, List.set_cons_succ]
  refine wpAnyH_take (i := 24) (oi := { dst := some 146, op := Op.load 22 (Operand.tmp 145), type := 22, pos := "outright.go:63", after := #[{ on := 23, ground := Ground.data }, { on := 22, ground := Ground.guard }], guard := some (22, true) }) (v := .slice p1 NX c1) rfl (by kernel_rfl) (by kernel_rfl) (by kernel_rfl) (fun _ _ _ h => h) (Or.inl ⟨by rfl, by intro w hSw; have hc := hSw.2.1.cell 0; simp only [List.getElem?_cons_zero] at hc; go_simp⟩) (by assumption) ?_
  simp only [Act.put, List.setIfInBounds_toArray, List.set_cons_zero, List.set_cons_succ]
  refine wpAnyH_take (i := 26) (oi := { dst := some 148, op := Op.fieldAddr 52 (Operand.tmp 15) 1, type := 0, pos := "outright.go:63", after := #[{ on := 22, ground := Ground.guard }], guard := some (22, true) }) (v := .pointer (some ⟨g15, 1, none⟩)) rfl (by kernel_rfl) (by kernel_rfl) (by kernel_rfl) (fun _ _ _ h => h) (Or.inl ⟨by rfl, by intro w hSw; go_simp⟩) (by assumption) ?_
  simp only [Act.put, List.setIfInBounds_toArray, List.set_cons_zero, List.set_cons_succ]
  refine wpAnyH_take (i := 27) (oi := { dst := some 149, op := Op.load 22 (Operand.tmp 148), type := 22, pos := "outright.go:63", after := #[{ on := 26, ground := Ground.data }, { on := 22, ground := Ground.guard }], guard := some (22, true) }) (v := .slice p2 NY c2) rfl (by kernel_rfl) (by kernel_rfl) (by kernel_rfl) (fun _ _ _ h => h) (Or.inl ⟨by rfl, by intro w hSw; have hc := hSw.2.1.cell 1; simp only [List.getElem?_cons_zero, List.getElem?_cons_succ] at hc; go_simp⟩) (by assumption) ?_
  simp only [Act.put, List.setIfInBounds_toArray, List.set_cons_zero, List.set_cons_succ]
  refine wpAnyH_ready (rs := [25]) (by kernel_rfl) (by simp) (AllReadyH.cons (o := { dst := some 147, op := Op.call { callee := Callee.value (Operand.func 20), args := #[Operand.tmp 146], argTypes := #[22] }, type := 44, pos := "outright.go:63", after := #[{ on := 24, ground := Ground.data }, { on := 22, ground := Ground.chain }, { on := 22, ground := Ground.guard }], guard := some (22, true) }) rfl (fun KQ hK => ?_) AllReadyH.nil)
  go_simp
  refine (HSX.out _ _ _ Z3.out.1.x.below Z3.out.2.2.1).mono ?_
  rintro e w34 ⟨rfl, hb⟩
  have Z4 := hid (And.intro (Z3.out.1.on hb) (And.intro (Z3.out.2.1.on hb) (And.intro (Z3.out.2.2.1.below hb) (Z3.out.2.2.2.below hb))))
  clear hb Z3
  go_wp2_with fail
  refine hK.out _ _ Z4.out (fun hHeld => ?_)
  clear hK KQ
  try simp only [Act.put, List.setIfInBounds_toArray, List.set_cons_zero, List.set_cons_succ]
  refine wpAnyH_ready (rs := [28]) (by kernel_rfl) (by simp) (AllReadyH.cons (o := { dst := some 150, op := Op.call { callee := Callee.value (Operand.func 20), args := #[Operand.tmp 149], argTypes := #[22] }, type := 44, pos := "outright.go:63", after := #[{ on := 27, ground := Ground.data }, { on := 25, ground := Ground.chain }, { on := 22, ground := Ground.guard }], guard := some (22, true) }) rfl (fun KQ hK => ?_) AllReadyH.nil)
  go_simp
  refine (HSY.out _ _ _ Z4.out.1.x.below Z4.out.2.2.2).mono ?_
  rintro e w35 ⟨rfl, hb⟩
  have Z5 := hid (And.intro (Z4.out.1.on hb) (And.intro (Z4.out.2.1.on hb) (And.intro (Z4.out.2.2.1.below hb) (Z4.out.2.2.2.below hb))))
  clear hb Z4
  go_wp2_with fail
  refine hK.out _ _ Z5.out (fun hHeld => ?_)
  clear hK KQ
  try simp only [Act.put, List.setIfInBounds_toArray, List.set_cons_zero, List.set_cons_succ]
  refine wpAnyH_take (i := 29) (oi := { dst := some 151, op := Op.binOp BinOp.eql 44 (Operand.tmp 147) (Operand.tmp 150) 44, type := 4, pos := "outright.go:63", after := #[{ on := 25, ground := Ground.data }, { on := 28, ground := Ground.data }, { on := 22, ground := Ground.guard }], guard := some (22, true) }) (v := .bool true) rfl (by kernel_rfl) (by kernel_rfl) (by kernel_rfl) (fun _ _ _ h => h) (Or.inl ⟨by rfl, by intro w hSw; go_simp⟩) (by assumption) ?_
  simp only [Act.put, List.setIfInBounds_toArray, List.set_cons_zero, List.set_cons_succ]
  refine wpAnyH_take (i := 30) (oi := { dst := some 152, op := Op.pick (Operand.tmp 144) (Operand.tmp 151) (Operand.const (Value.bool false)), type := 4, pos := "outright.go:63", after := #[{ on := 22, ground := Ground.data }, { on := 29, ground := Ground.data }], guard := none }) (v := .bool true) rfl (by kernel_rfl) (by kernel_rfl) (by kernel_rfl) (fun _ _ _ h => h) (Or.inl ⟨by rfl, by intro w hSw; go_simp⟩) (by assumption) ?_
  simp only [Act.put, List.setIfInBounds_toArray, List.set_cons_zero, List.set_cons_succ]
  refine wpAnyH_ready (rs := [31]) (by kernel_rfl) (by simp) (AllReadyH.cons (o := { dst := some 4, op := Op.assign (Operand.tmp 152), type := 4, pos := "outright.go:63", after := #[{ on := 30, ground := Ground.data }, { on := 28, ground := Ground.chain }, { on := 0, ground := Ground.phase }, { on := 1, ground := Ground.phase }, { on := 2, ground := Ground.phase }, { on := 3, ground := Ground.phase }, { on := 4, ground := Ground.phase }, { on := 5, ground := Ground.phase }, { on := 6, ground := Ground.phase }, { on := 7, ground := Ground.phase }, { on := 8, ground := Ground.phase }, { on := 9, ground := Ground.phase }, { on := 10, ground := Ground.phase }, { on := 11, ground := Ground.phase }, { on := 12, ground := Ground.phase }, { on := 13, ground := Ground.phase }, { on := 14, ground := Ground.phase }, { on := 15, ground := Ground.phase }, { on := 16, ground := Ground.phase }, { on := 17, ground := Ground.phase }, { on := 18, ground := Ground.phase }, { on := 19, ground := Ground.phase }, { on := 20, ground := Ground.phase }, { on := 21, ground := Ground.phase }, { on := 22, ground := Ground.phase }, { on := 23, ground := Ground.phase }, { on := 24, ground := Ground.phase }, { on := 25, ground := Ground.phase }, { on := 26, ground := Ground.phase }, { on := 27, ground := Ground.phase }, { on := 28, ground := Ground.phase }, { on := 29, ground := Ground.phase }, { on := 30, ground := Ground.phase }], guard := none }) rfl (fun KQ hK => ?_) AllReadyH.nil)
  go_simp
  refine hK.out _ _ Z5.out (fun hHeld => ?_)
  clear hK KQ
  try simp only [Act.put, List.setIfInBounds_toArray, List.set_cons_zero, List.set_cons_succ]
  refine wpAnyH_done (by kernel_rfl) ?_ _
  go_wp2_with fail
  go_ret
  exact ⟨rfl, Z5.out.1.x.below⟩
end Go.Proofs.YtmomidkodjihjaaDoor
