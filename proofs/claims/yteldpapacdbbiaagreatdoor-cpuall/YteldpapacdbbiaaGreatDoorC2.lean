/- cpu's sum 44. -/
import Derived.Test.YteldpapacdbbiaaGreatDoorC1
namespace Go.Proofs.YteldpapacdbbiaaGreatDoor
open Go.RowKit
set_option maxHeartbeats 4000000
set_option maxRecDepth 100000
attribute [-simp] Tryz.isAgg26 Tryz.sizeOf26 Tryz.isAgg24
def sumO (op v ra rb rc : Int) : Int :=
  if op = 1 then v else if op = 2 then bits .or .u32 (v * 65536 % 4294967296) (bits .and .u32 ra 65535) else if op = 3 then rb
  else if op = 4 then (rb + rc) % 4294967296 else if op = 5 then (rb - rc) % 4294967296 else if op = 6 then rb * rc % 4294967296
  else if op = 7 then dvV rb rc else if op = 8 then bits .and .u32 rb rc else if op = 9 then bits .or .u32 rb rc
  else if op = 10 then bits .xor .u32 rb rc else if op = 11 then rb * 2 ^ min rc.toNat 32 % 4294967296 else if op = 12 then rb / 2 ^ min rc.toNat 32
  else if op = 13 then wrap32 rb / 2 ^ min rc.toNat 32 % 4294967296 else (rb + v) % 4294967296
def sm (f : F) (i : Ins) : Int := sumO i.op (im i) (rg f i.a) (rg f i.b) (rg f i.c)
theorem sum_any (W : World) (f : F) (i : Ins) (h : IOk i) (hU : f.U) (h1 : 1 ≤ i.op) (h2 : i.op ≤ 14) : Calls Tryz.prog 50 #[f.v, i.v] W fun e W' => e = .returned (.int .u32 (sm f i)) ∧ Below W.heap.size W W' := by
  have HX := hid (FI.new W f i)
  have HI := hid (fun W => imm_any W i)
  have hrb := hU.r i.b.toNat
  have hrc := hU.r i.c.toNat
  have HDv := hid (fun W => div_any W (rg f i.b) (rg f i.c) hrb.1 hrb.2 hrc.1 hrc.2)
  have HLf := hid (fun W => left_any W (rg f i.b) (rg f i.c) hrc.1)
  have HRt := hid (fun W => right_any W (rg f i.b) (rg f i.c) hrc.1)
  have HAr := hid (fun W => arith_any W (rg f i.b) (rg f i.c) hrc.1)
  obtain ⟨a0, a1, b0, b1, c0, c1⟩ := h
  clear hU hrb hrc
  unfold F.v sm
  generalize im i = v at *
  obtain ⟨op, cond, a, b, c, imm⟩ := i
  simp only [I.Ins.v] at *
  simp only [I.Ins.cs] at HX
  generalize hcf : f.cs.toArray = D at *
  clear hcf
  have hop : op = 1 ∨ op = 2 ∨ op = 3 ∨ op = 4 ∨ op = 5 ∨ op = 6 ∨ op = 7 ∨ op = 8 ∨ op = 9 ∨ op = 10 ∨ op = 11 ∨ op = 12 ∨ op = 13 ∨ op = 14 := by omega
  have HO := hid hop
  clear hop h1 h2
  go_enter Tryz.func50, Tryz.ntmps50
  go_upto_region 1 with fail
  generalize hX : (W.alloc _).alloc _ = X at *
  clear hX
  generalize W.heap.size + 1 = gi at *
  generalize hg : W.heap.size = gf at *
  have HD := hid (HX.out.on (Below.refl _ _).drew)
  refine wp_region_held_drew (S := fun x => FI W x gf gi f ⟨op, cond, a, b, c, imm⟩) (by kernel_rfl) HD.out (fun hHeld => ?_)
  refine wpAnyH_take (i := 0) (oi := { dst := some 8, op := Op.fieldAddr 78 (Operand.tmp 3) 2, type := 0, pos := "sum.go:20", after := #[], guard := none }) (v := .pointer (some ⟨gi, 2, none⟩)) rfl (by kernel_rfl) (by kernel_rfl) (by kernel_rfl) (fun _ _ _ h => h) (Or.inl ⟨by rfl, by intro w hSw; go_simp⟩) (by assumption) ?_
  simp only [Act.put, List.setIfInBounds_toArray, List.set_cons_zero, List.set_cons_succ]
  refine wpAnyH_take (i := 1) (oi := { dst := some 9, op := Op.load 3 (Operand.tmp 8), type := 3, pos := "sum.go:20", after := #[{ on := 0, ground := Ground.data }], guard := none }) (v := .int .i64 a) rfl (by kernel_rfl) (by kernel_rfl) (by kernel_rfl) (fun _ _ _ h => h) (Or.inl ⟨by rfl, by intro w hSw; have hq := cel6 hSw.ci; obtain ⟨q0, q1, q2, q3, q4, q5⟩ := hq; go_simp⟩) (by assumption) ?_
  simp only [Act.put, List.setIfInBounds_toArray, List.set_cons_zero, List.set_cons_succ]
  refine wpAnyH_take (i := 2) (oi := { dst := some 10, op := Op.fieldAddr 26 (Operand.tmp 2) 0, type := 0, pos := "sum.go:20", after := #[], guard := none }) (v := .pointer (some ⟨gf, 0, none⟩)) rfl (by kernel_rfl) (by kernel_rfl) (by kernel_rfl) (fun _ _ _ h => h) (Or.inl ⟨by rfl, by intro w hSw; go_simp⟩) (by assumption) ?_
  simp only [Act.put, List.setIfInBounds_toArray, List.set_cons_zero, List.set_cons_succ]
  refine wpAnyH_take (i := 3) (oi := { dst := some 11, op := Op.indexAddr 24 (Operand.tmp 10) (Operand.tmp 9), type := 0, pos := "sum.go:20", after := #[{ on := 2, ground := Ground.data }, { on := 1, ground := Ground.data }], guard := none }) (v := .pointer (some ⟨gf, a.toNat, none⟩)) rfl (by kernel_rfl) (by kernel_rfl) (by kernel_rfl) (fun _ _ _ h => h) (Or.inl ⟨by rfl, by intro w hSw; go_simp⟩) (by assumption) ?_
  simp only [Act.put, List.setIfInBounds_toArray, List.set_cons_zero, List.set_cons_succ]
  refine wpAnyH_take (i := 4) (oi := { dst := some 12, op := Op.load 23 (Operand.tmp 11), type := 23, pos := "sum.go:20", after := #[{ on := 3, ground := Ground.data }], guard := none }) (v := .int .u32 (rg f a)) rfl (by kernel_rfl) (by kernel_rfl) (by kernel_rfl) (fun _ _ _ h => h) (Or.inl ⟨by rfl, by intro w hSw; have hq := hSw.b a a0 a1; go_simp⟩) (by assumption) ?_
  simp only [Act.put, List.setIfInBounds_toArray, List.set_cons_zero, List.set_cons_succ]
  refine wpAnyH_take (i := 5) (oi := { dst := some 13, op := Op.fieldAddr 78 (Operand.tmp 3) 3, type := 0, pos := "sum.go:20", after := #[{ on := 15, ground := Ground.gcOnly Departure.lateStores }], guard := none }) (v := .pointer (some ⟨gi, 3, none⟩)) rfl (by kernel_rfl) (by kernel_rfl) (by kernel_rfl) (fun _ _ _ h => h) (Or.inl ⟨by rfl, by intro w hSw; go_simp⟩) (by assumption) ?_
  simp only [Act.put, List.setIfInBounds_toArray, List.set_cons_zero, List.set_cons_succ]
  refine wpAnyH_take (i := 6) (oi := { dst := some 14, op := Op.load 3 (Operand.tmp 13), type := 3, pos := "sum.go:20", after := #[{ on := 5, ground := Ground.data }, { on := 15, ground := Ground.gcOnly Departure.lateStores }], guard := none }) (v := .int .i64 b) rfl (by kernel_rfl) (by kernel_rfl) (by kernel_rfl) (fun _ _ _ h => h) (Or.inl ⟨by rfl, by intro w hSw; have hq := cel6 hSw.ci; obtain ⟨q0, q1, q2, q3, q4, q5⟩ := hq; go_simp⟩) (by assumption) ?_
  simp only [Act.put, List.setIfInBounds_toArray, List.set_cons_zero, List.set_cons_succ]
  refine wpAnyH_take (i := 7) (oi := { dst := some 15, op := Op.fieldAddr 26 (Operand.tmp 2) 0, type := 0, pos := "sum.go:20", after := #[{ on := 15, ground := Ground.gcOnly Departure.lateStores }], guard := none }) (v := .pointer (some ⟨gf, 0, none⟩)) rfl (by kernel_rfl) (by kernel_rfl) (by kernel_rfl) (fun _ _ _ h => h) (Or.inl ⟨by rfl, by intro w hSw; go_simp⟩) (by assumption) ?_
  simp only [Act.put, List.setIfInBounds_toArray, List.set_cons_zero, List.set_cons_succ]
  refine wpAnyH_take (i := 8) (oi := { dst := some 16, op := Op.indexAddr 24 (Operand.tmp 15) (Operand.tmp 14), type := 0, pos := "sum.go:20", after := #[{ on := 7, ground := Ground.data }, { on := 6, ground := Ground.data }, { on := 15, ground := Ground.gcOnly Departure.lateStores }], guard := none }) (v := .pointer (some ⟨gf, b.toNat, none⟩)) rfl (by kernel_rfl) (by kernel_rfl) (by kernel_rfl) (fun _ _ _ h => h) (Or.inl ⟨by rfl, by intro w hSw; go_simp⟩) (by assumption) ?_
  simp only [Act.put, List.setIfInBounds_toArray, List.set_cons_zero, List.set_cons_succ]
  refine wpAnyH_take (i := 9) (oi := { dst := some 17, op := Op.load 23 (Operand.tmp 16), type := 23, pos := "sum.go:20", after := #[{ on := 8, ground := Ground.data }, { on := 15, ground := Ground.gcOnly Departure.lateStores }], guard := none }) (v := .int .u32 (rg f b)) rfl (by kernel_rfl) (by kernel_rfl) (by kernel_rfl) (fun _ _ _ h => h) (Or.inl ⟨by rfl, by intro w hSw; have hq := hSw.b b b0 b1; go_simp⟩) (by assumption) ?_
  simp only [Act.put, List.setIfInBounds_toArray, List.set_cons_zero, List.set_cons_succ]
  refine wpAnyH_take (i := 10) (oi := { dst := some 18, op := Op.fieldAddr 78 (Operand.tmp 3) 4, type := 0, pos := "sum.go:20", after := #[{ on := 16, ground := Ground.gcOnly Departure.lateStores }], guard := none }) (v := .pointer (some ⟨gi, 4, none⟩)) rfl (by kernel_rfl) (by kernel_rfl) (by kernel_rfl) (fun _ _ _ h => h) (Or.inl ⟨by rfl, by intro w hSw; go_simp⟩) (by assumption) ?_
  simp only [Act.put, List.setIfInBounds_toArray, List.set_cons_zero, List.set_cons_succ]
  refine wpAnyH_take (i := 11) (oi := { dst := some 19, op := Op.load 3 (Operand.tmp 18), type := 3, pos := "sum.go:20", after := #[{ on := 10, ground := Ground.data }, { on := 16, ground := Ground.gcOnly Departure.lateStores }], guard := none }) (v := .int .i64 c) rfl (by kernel_rfl) (by kernel_rfl) (by kernel_rfl) (fun _ _ _ h => h) (Or.inl ⟨by rfl, by intro w hSw; have hq := cel6 hSw.ci; obtain ⟨q0, q1, q2, q3, q4, q5⟩ := hq; go_simp⟩) (by assumption) ?_
  simp only [Act.put, List.setIfInBounds_toArray, List.set_cons_zero, List.set_cons_succ]
  refine wpAnyH_take (i := 12) (oi := { dst := some 20, op := Op.fieldAddr 26 (Operand.tmp 2) 0, type := 0, pos := "sum.go:20", after := #[{ on := 16, ground := Ground.gcOnly Departure.lateStores }], guard := none }) (v := .pointer (some ⟨gf, 0, none⟩)) rfl (by kernel_rfl) (by kernel_rfl) (by kernel_rfl) (fun _ _ _ h => h) (Or.inl ⟨by rfl, by intro w hSw; go_simp⟩) (by assumption) ?_
  simp only [Act.put, List.setIfInBounds_toArray, List.set_cons_zero, List.set_cons_succ]
  refine wpAnyH_take (i := 13) (oi := { dst := some 21, op := Op.indexAddr 24 (Operand.tmp 20) (Operand.tmp 19), type := 0, pos := "sum.go:20", after := #[{ on := 12, ground := Ground.data }, { on := 11, ground := Ground.data }, { on := 16, ground := Ground.gcOnly Departure.lateStores }], guard := none }) (v := .pointer (some ⟨gf, c.toNat, none⟩)) rfl (by kernel_rfl) (by kernel_rfl) (by kernel_rfl) (fun _ _ _ h => h) (Or.inl ⟨by rfl, by intro w hSw; go_simp⟩) (by assumption) ?_
  simp only [Act.put, List.setIfInBounds_toArray, List.set_cons_zero, List.set_cons_succ]
  refine wpAnyH_take (i := 14) (oi := { dst := some 22, op := Op.load 23 (Operand.tmp 21), type := 23, pos := "sum.go:20", after := #[{ on := 13, ground := Ground.data }, { on := 16, ground := Ground.gcOnly Departure.lateStores }], guard := none }) (v := .int .u32 (rg f c)) rfl (by kernel_rfl) (by kernel_rfl) (by kernel_rfl) (fun _ _ _ h => h) (Or.inl ⟨by rfl, by intro w hSw; have hq := hSw.b c c0 c1; go_simp⟩) (by assumption) ?_
  simp only [Act.put, List.setIfInBounds_toArray, List.set_cons_zero, List.set_cons_succ]
  refine wpAnyH_ready (rs := [15]) (by kernel_rfl) (by simp) (AllReadyH.cons (o := { dst := some 5, op := Op.assign (Operand.tmp 12), type := 23, pos := "sum.go:20", after := #[{ on := 4, ground := Ground.data }, { on := 0, ground := Ground.phase }, { on := 1, ground := Ground.phase }, { on := 2, ground := Ground.phase }, { on := 3, ground := Ground.phase }, { on := 4, ground := Ground.phase }, { on := 5, ground := Ground.textOnly Departure.lateStores }, { on := 6, ground := Ground.textOnly Departure.lateStores }, { on := 7, ground := Ground.textOnly Departure.lateStores }, { on := 8, ground := Ground.textOnly Departure.lateStores }, { on := 9, ground := Ground.textOnly Departure.lateStores }, { on := 10, ground := Ground.textOnly Departure.lateStores }, { on := 11, ground := Ground.textOnly Departure.lateStores }, { on := 12, ground := Ground.textOnly Departure.lateStores }, { on := 13, ground := Ground.textOnly Departure.lateStores }, { on := 14, ground := Ground.textOnly Departure.lateStores }], guard := none }) rfl (fun KQ hK => ?_) AllReadyH.nil)
  go_simp
  refine hK.out _ _ HD.out (fun hHeld => ?_)
  clear hK KQ
  try simp only [Act.put, List.setIfInBounds_toArray, List.set_cons_zero, List.set_cons_succ]
  refine wpAnyH_ready (rs := [16]) (by kernel_rfl) (by simp) (AllReadyH.cons (o := { dst := some 6, op := Op.assign (Operand.tmp 17), type := 23, pos := "sum.go:20", after := #[{ on := 9, ground := Ground.data }, { on := 15, ground := Ground.chain }, { on := 0, ground := Ground.phase }, { on := 1, ground := Ground.phase }, { on := 2, ground := Ground.phase }, { on := 3, ground := Ground.phase }, { on := 4, ground := Ground.phase }, { on := 5, ground := Ground.phase }, { on := 6, ground := Ground.phase }, { on := 7, ground := Ground.phase }, { on := 8, ground := Ground.phase }, { on := 9, ground := Ground.phase }, { on := 10, ground := Ground.textOnly Departure.lateStores }, { on := 11, ground := Ground.textOnly Departure.lateStores }, { on := 12, ground := Ground.textOnly Departure.lateStores }, { on := 13, ground := Ground.textOnly Departure.lateStores }, { on := 14, ground := Ground.textOnly Departure.lateStores }, { on := 15, ground := Ground.phase }], guard := none }) rfl (fun KQ hK => ?_) AllReadyH.nil)
  go_simp
  refine hK.out _ _ HD.out (fun hHeld => ?_)
  clear hK KQ
  try simp only [Act.put, List.setIfInBounds_toArray, List.set_cons_zero, List.set_cons_succ]
  refine wpAnyH_ready (rs := [17]) (by kernel_rfl) (by simp) (AllReadyH.cons (o := { dst := some 7, op := Op.assign (Operand.tmp 22), type := 23, pos := "sum.go:20", after := #[{ on := 14, ground := Ground.data }, { on := 16, ground := Ground.chain }, { on := 0, ground := Ground.phase }, { on := 1, ground := Ground.phase }, { on := 2, ground := Ground.phase }, { on := 3, ground := Ground.phase }, { on := 4, ground := Ground.phase }, { on := 5, ground := Ground.phase }, { on := 6, ground := Ground.phase }, { on := 7, ground := Ground.phase }, { on := 8, ground := Ground.phase }, { on := 9, ground := Ground.phase }, { on := 10, ground := Ground.phase }, { on := 11, ground := Ground.phase }, { on := 12, ground := Ground.phase }, { on := 13, ground := Ground.phase }, { on := 14, ground := Ground.phase }, { on := 15, ground := Ground.phase }, { on := 16, ground := Ground.phase }], guard := none }) rfl (fun KQ hK => ?_) AllReadyH.nil)
  go_simp
  refine hK.out _ _ HD.out (fun hHeld => ?_)
  clear hK KQ
  try simp only [Act.put, List.setIfInBounds_toArray, List.set_cons_zero, List.set_cons_succ]
  refine wpAnyH_done (by kernel_rfl) ?_ _
  obtain ⟨q0, q1, q2, q3, q4, q5⟩ := cel6 HD.out.ci
  have HB := hid HD.out.below
  simp only at q0 q1 q2 q3 q4 q5
  clear a0 a1 b0 b1 c0 c1 HX HD
  subst hg
  generalize X.drew = Y at *
  rcases HO.out with rfl | rfl | rfl | rfl | rfl | rfl | rfl | rfl | rfl | rfl | rfl | rfl | rfl | rfl
  all_goals clear HO
  all_goals go_wp2_with (first | (go_at_call 54; refine (HI.out _).mono ?_; rintro e w' ⟨rfl, hb⟩; have HB2 := hid (below_on HB.out hb); clear hb) | (go_at_call 82; refine (HDv.out _).mono ?_; rintro e w' ⟨rfl, rfl⟩) | (go_at_call 83; refine (HLf.out _).mono ?_; rintro e w' ⟨rfl, rfl⟩) | (go_at_call 84; refine (HRt.out _).mono ?_; rintro e w' ⟨rfl, rfl⟩) | (go_at_call 85; refine (HAr.out _).mono ?_; rintro e w' ⟨rfl, rfl⟩))
  all_goals go_ret
  all_goals first | exact ⟨ret_int (by simp [sumO]), HB2.out⟩ | exact ⟨ret_int (by simp [sumO]), HB.out⟩
end Go.Proofs.YteldpapacdbbiaaGreatDoor
