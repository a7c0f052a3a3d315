/- The document's Step 9: what is fetched or decoded in vain; the whole. -/
import Derived.Test.YteldpapacdbbiaaGreatDoorE9a
import Derived.Test.YteldpapacdbbiaaGreatDoorE9b
import Derived.Test.YteldpapacdbbiaaGreatDoorE9c
import Derived.Test.YteldpapacdbbiaaGreatDoorE9d
namespace Go.Proofs.YteldpapacdbbiaaGreatDoor
open Go.RowKit
set_option maxHeartbeats 8000000
set_option maxRecDepth 100000
attribute [-simp] Tryz.isAgg34 Tryz.sizeOf34 Tryz.isAgg24
theorem rm_two' {m : MS} {l pc : Int} (h : ¬ m.trE l pc 2 = 0) : m.rcM l pc 2 0 = m.wkS l pc := by unfold MS.rcM; rw [if_neg h]
theorem rstep_f (W : World) (r : Rf) (m : MS) (h : RMem W r m) (hU : m.U) (l : Int) (f : F) (hF : f.U) (hE : ¬ m.trE l f.pc 2 = 0) :
    Calls Tryz.prog 9 #[ptr r.g, .int .i64 l, f.v] W fun x w' => x = .returned (Out.mk f 3 f.pc (m.wkS l f.pc)).v ∧ ∃ r', RSt W w' r r' (m.wkS l f.pc) := by
  have HX := hid (M3.new W r m h f)
  have HCl : Hid (∀ w, RMem w r m → Calls Tryz.prog 28 #[ptr r.g, .int .i64 l, .int .u32 f.pc, .int .i64 2] w fun x w' => x = .returned (.tuple #[.int .u32 (m.rcW l f.pc 2 0), .bool false]) ∧ RSt w w' r r (m.wkS l f.pc)) := hid (fun w hm => by
    have := rloaded_any w r m hm hU l f.pc 2 hF.p0 hF.p1 (.inr rfl)
    rw [rm_two' hE, show (m.trE l f.pc 2 == 0) = false by simpa using hE] at this
    exact this)
  generalize m.rcW l f.pc 2 0 = wv at *
  generalize m.wkS l f.pc = m2 at *
  clear h hU hE hF
  simp only [F.v] at *
  simp only [zg, evc] at HX
  unfold ptr at *
  go_enter Tryz.func9, Tryz.ntmps9
  go_upto_region 1 with fail
  generalize hX : ((W.alloc _).alloc _).alloc _ = X at *
  clear hX
  generalize W.heap.size + 1 + 1 = g7 at *
  generalize W.heap.size + 1 = g6 at *
  generalize W.heap.size = g5 at HX ⊢
  have y15 : X.cell? ⟨g5, 15, none⟩ = some (.int .u32 f.pc) := ((HX.out.get 2 rfl).cell 15).trans f.at15
  go_upto_region 3 with (go_at_call 28; refine (HCl.out _ HX.out.st.mem).mono ?_; rintro e w1 ⟨rfl, hs1⟩; have B1 := hid (HX.out.call hs1); clear hs1)
  clear HX HCl y15
  have B1d := hid (B1.out.on (Below.refl _ _).drew)
  refine wp_region_held_drew (S := fun x => Cel x g5 34 f.cs) (by kernel_rfl) (B1d.out.get 2 rfl) (fun hHeld => ?_)
  refine wpAnyH_take (i := 0) (oi := { dst := some 27, op := Op.load 34 (Operand.tmp 5), type := 34, pos := "ref.go:81", after := #[], guard := none }) (v := .agg f.cs.toArray) rfl (by kernel_rfl) (by kernel_rfl) (by kernel_rfl) (fun _ _ _ h => h) (yieldsIf_load_mid (by rfl) _ _ rfl _ _ rfl _ _ (fun w hSw => Cel.range hSw) under25 rfl (by rw [size25, F.len])) (by assumption) ?_
  simp only [Act.put, List.setIfInBounds_toArray, List.set_cons_zero, List.set_cons_succ]
  refine wpAnyH_take (i := 1) (oi := { dst := some 28, op := Op.fieldAddr 34 (Operand.tmp 5) 1, type := 0, pos := "ref.go:81", after := #[{ on := 4, ground := Ground.gcOnly Departure.lateStores }], guard := none }) (v := .pointer (some ⟨g5, 15, none⟩)) rfl (by kernel_rfl) (by kernel_rfl) (by kernel_rfl) (fun _ _ _ h => h) (Or.inl ⟨by rfl, by intro w hSw; go_simp⟩) (by assumption) ?_
  simp only [Act.put, List.setIfInBounds_toArray, List.set_cons_zero, List.set_cons_succ]
  refine wpAnyH_take (i := 2) (oi := { dst := some 29, op := Op.load 23 (Operand.tmp 28), type := 23, pos := "ref.go:81", after := #[{ on := 1, ground := Ground.data }, { on := 4, ground := Ground.gcOnly Departure.lateStores }], guard := none }) (v := .int .u32 f.pc) rfl (by kernel_rfl) (by kernel_rfl) (by kernel_rfl) (fun _ _ _ h => h) (Or.inl ⟨by rfl, by intro w hSw; have hq : w.cell? ⟨g5, 15, none⟩ = some (.int .u32 f.pc) := (Cel.cell hSw 15).trans f.at15; go_simp⟩) (by assumption) ?_
  simp only [Act.put, List.setIfInBounds_toArray, List.set_cons_zero, List.set_cons_succ]
  refine wpAnyH_take (i := 3) (oi := { dst := some 30, op := Op.build 42 #[(0, Operand.const (Value.int IntKind.i64 3)), (1, Operand.tmp 29)], type := 42, pos := "ref.go:81", after := #[{ on := 2, ground := Ground.data }, { on := 4, ground := Ground.gcOnly Departure.lateStores }], guard := none }) (v := .agg (evc 3 f.pc).toArray) rfl (by kernel_rfl) (by kernel_rfl) (by kernel_rfl) (fun _ _ _ h => h) (Or.inl ⟨by rfl, by intro w hSw; go_simp; rfl⟩) (by assumption) ?_
  simp only [Act.put, List.setIfInBounds_toArray, List.set_cons_zero, List.set_cons_succ]
  refine wpAnyH_ready (rs := [4]) (by kernel_rfl) (by simp) (AllReadyH.cons (o := { dst := none, op := Op.store 34 (Operand.tmp 6) (Operand.tmp 27), type := 0, pos := "ref.go:81", after := #[{ on := 0, ground := Ground.data }, { on := 0, ground := Ground.phase }, { on := 1, ground := Ground.textOnly Departure.lateStores }, { on := 2, ground := Ground.textOnly Departure.lateStores }, { on := 3, ground := Ground.textOnly Departure.lateStores }], guard := none }) rfl (fun KQ hK => ?_) AllReadyH.nil)
  rw [if_pos (by rfl)]
  refine wp_store_st 34 _ _ rfl g6 f.cs rfl rfl (B1d.out.get 1 rfl) (by rw [size25, F.len]) (by rw [F.len, F.len]) (F.all _) ?_
  intro w6 hc hb hs
  have C1 := hid (B1d.out.put 1 rfl hc hb)
  clear hc hb hs
  refine hK.out _ _ (C1.out.get 2 rfl) (fun hHeld => ?_)
  clear hK KQ
  try simp only [Act.put]
  refine wpAnyH_ready (rs := [5]) (by kernel_rfl) (by simp) (AllReadyH.cons (o := { dst := none, op := Op.store 42 (Operand.tmp 7) (Operand.tmp 30), type := 0, pos := "ref.go:81", after := #[{ on := 3, ground := Ground.data }, { on := 4, ground := Ground.chain }, { on := 0, ground := Ground.phase }, { on := 1, ground := Ground.phase }, { on := 2, ground := Ground.phase }, { on := 3, ground := Ground.phase }, { on := 4, ground := Ground.phase }], guard := none }) rfl (fun KQ hK => ?_) AllReadyH.nil)
  rw [if_pos (by rfl)]
  refine wp_store_st 42 _ _ rfl g7 (evc 3 f.pc) rfl rfl (C1.out.get 0 rfl) size42 rfl rfl ?_
  intro w7 hc hb hs
  have C2 := hid (C1.out.put 0 rfl hc hb)
  clear hc hb hs
  refine hK.out _ _ (C2.out.get 2 rfl) (fun hHeld => ?_)
  clear hK KQ
  try simp only [Act.put]
  refine wpAnyH_done (by kernel_rfl) ?_ _

  go_wp2_with fail
  exact ret_two rfl rfl g6 g7 _ _ rfl rfl (C2.out.get 1 rfl) (C2.out.get 0 rfl) under25 under42 rfl rfl (by rw [size25, F.len]) size42 ⟨rfl, r, C2.out.st⟩
theorem rstep_d (W : World) (hT : Tb W) (r : Rf) (m : MS) (h : RMem W r m) (hU : m.U) (l : Int) (f : F) (hF : f.U) (hlo : ∀ k ∈ r.all, 3 < k) (hE : m.trE l f.pc 2 = 0) (hdE : ¬ I.decE (m.fw l f.pc) = 0) :
    Calls Tryz.prog 9 #[ptr r.g, .int .i64 l, f.v] W fun x w' => x = .returned (Out.mk f 2 (m.fw l f.pc) (m.fm l f.pc)).v ∧ ∃ r', RSt W w' r r' (m.fm l f.pc) := by
  have HX := hid (M3.new W r m h f)
  have hw := hU.word (m.trS l f.pc 2) (m.trP l f.pc 2) (m.trO l f.pc 2)
  have HCl : Hid (∀ w, RMem w r m → Calls Tryz.prog 28 #[ptr r.g, .int .i64 l, .int .u32 f.pc, .int .i64 2] w fun x w' => x = .returned (.tuple #[.int .u32 (m.fw l f.pc), .bool true]) ∧ RSt w w' r r (m.fm l f.pc)) := hid (fun w hm => by
    have := rloaded_any w r m hm hU l f.pc 2 hF.p0 hF.p1 (.inr rfl)
    rw [rc_two hE, rm_two hE, hE] at this
    exact this)
  have HDe := hid (fun x (hb : ButL r.all W x) => I.rdecode_any x (hT.but hb hlo).s (hT.but hb hlo).z (m.fw l f.pc) hw.1 hw.2)
  generalize I.dec (m.fw l f.pc) = D at *
  generalize I.decE (m.fw l f.pc) = de at *
  generalize m.fm l f.pc = m2 at *
  generalize m.fw l f.pc = wv at *
  have hd1 : (de != 0) = true := by simpa using hdE
  clear hT h hU hE hF hlo hw hdE
  obtain ⟨op, cond, a, b, c, imm⟩ := D
  simp only [I.Ins.r] at HDe
  simp only [F.v] at *
  simp only [zg, evc] at HX
  unfold ptr at *
  go_enter Tryz.func9, Tryz.ntmps9
  go_upto_region 1 with fail
  generalize hX : ((W.alloc _).alloc _).alloc _ = X at *
  clear hX
  generalize W.heap.size + 1 + 1 = g7 at *
  generalize W.heap.size + 1 = g6 at *
  generalize W.heap.size = g5 at HX ⊢
  have y15 : X.cell? ⟨g5, 15, none⟩ = some (.int .u32 f.pc) := ((HX.out.get 2 rfl).cell 15).trans f.at15
  go_upto_region 4 with (go_at_call 28; refine (HCl.out _ HX.out.st.mem).mono ?_; rintro e w1 ⟨rfl, hs1⟩; have B1 := hid (HX.out.call hs1); clear hs1)
  clear HX HCl y15
  go_upto_region 5 with (first | (go_at_call 29; refine (HDe.out _ B1.out.st.but).mono ?_; rintro e w2 ⟨rfl, hb2⟩; have B2 := hid ((B1.out.on hb2).box 85 [.int .i64 0, .int .i64 0, .int .i64 0, .int .i64 0, .int .i64 0, .int .i64 0]); clear hb2) | (refine wpList_store_st rfl 85 _ _ rfl w2.heap.size [.int .i64 op, .int .i64 cond, .int .i64 a, .int .i64 b, .int .i64 c, .int .i64 imm] rfl rfl (B2.out.get 0 rfl) size85r rfl rfl ?_; intro w3 hc3 hb3 hs3; have B3 := hid (B2.out.put 0 rfl hc3 hb3); clear hc3 hb3 hs3))
  clear B1 B2 HDe
  simp only [List.set_cons_zero] at B3
  generalize w2.heap.size = g10 at *
  go_wp2_with (first | (refine wpList_load_g rfl _ rfl g5 f rfl (B3.out.get 3 rfl) ?_) | (refine wpList_store_g rfl _ _ rfl g6 F.zero f rfl rfl (B3.out.get 2 rfl) ?_; intro w7 hc hb hs; have C1 := hid (B3.out.put 2 rfl hc hb); clear hc hb hs) | (refine wpList_store_st rfl 42 _ _ rfl g7 (evc 2 wv) rfl rfl (C1.out.get 1 rfl) size42 rfl rfl ?_; intro w8 hc hb hs; have C2 := hid (C1.out.put 1 rfl hc hb); clear hc hb hs))
  exact ret_two rfl rfl g6 g7 _ _ rfl rfl (C2.out.get 2 rfl) (C2.out.get 1 rfl) under25 under42 rfl rfl (by rw [size25, F.len]) size42 ⟨rfl, r, C2.out.st⟩
theorem rstep_any (W : World) (hT : Tb W) (r : Rf) (m : MS) (h : RMem W r m) (hU : m.U) (l : Int) (f : F) (hF : f.U) (hlo : ∀ k ∈ r.all, 3 < k) :
    Calls Tryz.prog 9 #[ptr r.g, .int .i64 l, f.v] W fun x w' => x = .returned (stp m l f).v ∧ ∃ r', RSt W w' r r' (stp m l f).m := by
  by_cases hE : m.trE l f.pc 2 = 0
  · by_cases hd : I.decE (m.fw l f.pc) = 0
    · have hs : stp m l f = doI (m.fm l f.pc) l f (I.dec (m.fw l f.pc)) := by unfold stp; rw [if_pos hE, if_pos hd]
      have ho := (dec_ok hd).2
      rw [hs]
      generalize hi : I.dec (m.fw l f.pc) = i at *
      obtain ⟨op, cond, a, b, c, imm⟩ := i
      simp only at ho
      have hop : op = 1 ∨ op = 2 ∨ op = 3 ∨ op = 4 ∨ op = 5 ∨ op = 6 ∨ op = 7 ∨ op = 8 ∨ op = 9 ∨ op = 10 ∨ op = 11 ∨ op = 12 ∨ op = 13 ∨ op = 14 ∨ op = 15 ∨ op = 16 ∨ op = 17 ∨ op = 18 ∨ op = 19 ∨ op = 20 ∨ op = 21 ∨ op = 22 ∨ op = 23 ∨ op = 24 := by omega
      rcases hop with rfl | rfl | rfl | rfl | rfl | rfl | rfl | rfl | rfl | rfl | rfl | rfl | rfl | rfl | rfl | rfl | rfl | rfl | rfl | rfl | rfl | rfl | rfl | rfl
      · exact rstep_1 W hT r m h hU l f hF hlo cond a b c imm hE hd hi
      · exact rstep_2 W hT r m h hU l f hF hlo cond a b c imm hE hd hi
      · exact rstep_3 W hT r m h hU l f hF hlo cond a b c imm hE hd hi
      · exact rstep_4 W hT r m h hU l f hF hlo cond a b c imm hE hd hi
      · exact rstep_5 W hT r m h hU l f hF hlo cond a b c imm hE hd hi
      · exact rstep_6 W hT r m h hU l f hF hlo cond a b c imm hE hd hi
      · exact rstep_7 W hT r m h hU l f hF hlo cond a b c imm hE hd hi
      · exact rstep_8 W hT r m h hU l f hF hlo cond a b c imm hE hd hi
      · exact rstep_9 W hT r m h hU l f hF hlo cond a b c imm hE hd hi
      · exact rstep_10 W hT r m h hU l f hF hlo cond a b c imm hE hd hi
      · exact rstep_11 W hT r m h hU l f hF hlo cond a b c imm hE hd hi
      · exact rstep_12 W hT r m h hU l f hF hlo cond a b c imm hE hd hi
      · exact rstep_13 W hT r m h hU l f hF hlo cond a b c imm hE hd hi
      · exact rstep_14 W hT r m h hU l f hF hlo cond a b c imm hE hd hi
      · exact rstep_15 W hT r m h hU l f hF hlo cond a b c imm hE hd hi
      · exact rstep_16 W hT r m h hU l f hF hlo cond a b c imm hE hd hi
      · exact rstep_17 W hT r m h hU l f hF hlo cond a b c imm hE hd hi
      · exact rstep_18 W hT r m h hU l f hF hlo cond a b c imm hE hd hi
      · exact rstep_19 W hT r m h hU l f hF hlo cond a b c imm hE hd hi
      · exact rstep_20 W hT r m h hU l f hF hlo cond a b c imm hE hd hi
      · exact rstep_21 W hT r m h hU l f hF hlo cond a b c imm hE hd hi
      · exact rstep_22 W hT r m h hU l f hF hlo cond a b c imm hE hd hi
      · exact rstep_23 W hT r m h hU l f hF hlo cond a b c imm hE hd hi
      · exact rstep_24 W hT r m h hU l f hF hlo cond a b c imm hE hd hi
    · have hs : stp m l f = ⟨f, 2, m.fw l f.pc, m.fm l f.pc⟩ := by unfold stp; rw [if_pos hE, if_neg hd]
      rw [hs]
      exact rstep_d W hT r m h hU l f hF hlo hE hd
  · have hs : stp m l f = ⟨f, 3, f.pc, m.wkS l f.pc⟩ := by unfold stp; rw [if_neg hE]
    rw [hs]
    exact rstep_f W r m h hU l f hF hE
end Go.Proofs.YteldpapacdbbiaaGreatDoor
