/- What a step leaves are words. cpu's Run 9. -/
import Derived.Test.YteldpapacdbbiaaGreatDoorC6
import Derived.Laws.BitsAllLaws
namespace Go.Proofs.YteldpapacdbbiaaGreatDoor
open Go.RowKit
theorem and_range (a b : Int) (h0 : 0 ≤ a) (h1 : a < 4294967296) (h2 : 0 ≤ b) (h3 : b < 4294967296) : 0 ≤ bits .and .u32 a b ∧ bits .and .u32 a b < 4294967296 := by
  rw [u32_and a b h0 h1 h2 h3]
  have := Nat.and_lt_two_pow (n := 32) a.toNat (y := b.toNat) (by omega)
  omega
theorem or_range (a b : Int) (h0 : 0 ≤ a) (h1 : a < 4294967296) (h2 : 0 ≤ b) (h3 : b < 4294967296) : 0 ≤ bits .or .u32 a b ∧ bits .or .u32 a b < 4294967296 := by
  rw [u32_or a b h0 h1 h2 h3]
  have := Nat.or_lt_two_pow (n := 32) (x := a.toNat) (y := b.toNat) (by omega) (by omega)
  omega
theorem xor_range (a b : Int) (h0 : 0 ≤ a) (h1 : a < 4294967296) (h2 : 0 ≤ b) (h3 : b < 4294967296) : 0 ≤ bits .xor .u32 a b ∧ bits .xor .u32 a b < 4294967296 := by
  rw [u32_xor a b h0 h1 h2 h3]
  have := Nat.xor_lt_two_pow (n := 32) (x := a.toNat) (y := b.toNat) (by omega) (by omega)
  omega
theorem quot_range (a b : Int) (h0 : 0 ≤ a) (h1 : a < 4294967296) (hb : 0 < b) : 0 ≤ a / b ∧ a / b < 4294967296 :=
  ⟨Int.ediv_nonneg h0 (by omega), Int.lt_of_le_of_lt (Int.ediv_le_self b h0) h1⟩
theorem in_ite {c : Prop} [Decidable c] {a b : Int} (h1 : 0 ≤ a ∧ a < 4294967296) (h2 : 0 ≤ b ∧ b < 4294967296) : 0 ≤ (if c then a else b) ∧ (if c then a else b) < 4294967296 := by split <;> assumption
theorem sumO_range (op v ra rb rc : Int) (hv : 0 ≤ v ∧ v < 4294967296) (ha : 0 ≤ ra ∧ ra < 4294967296) (hb : 0 ≤ rb ∧ rb < 4294967296) (hc : 0 ≤ rc ∧ rc < 4294967296) : 0 ≤ sumO op v ra rb rc ∧ sumO op v ra rb rc < 4294967296 := by
  have hand := and_range ra 65535 ha.1 ha.2 (by decide) (by decide)
  have h1 := or_range (v * 65536 % 4294967296) (bits .and .u32 ra 65535) (by omega) (by omega) hand.1 hand.2
  have h2 := and_range rb rc hb.1 hb.2 hc.1 hc.2
  have h3 := or_range rb rc hb.1 hb.2 hc.1 hc.2
  have h4 := xor_range rb rc hb.1 hb.2 hc.1 hc.2
  have h5 : 0 ≤ dvV rb rc ∧ dvV rb rc < 4294967296 := by
    unfold dvV
    split
    · decide
    · exact quot_range rb rc hb.1 hb.2 (by omega)
  have h6 := quot_range rb (2 ^ min rc.toNat 32) hb.1 hb.2 (Int.pow_pos (by decide))
  unfold sumO
  exact in_ite hv (in_ite h1 (in_ite hb (in_ite ⟨by omega, by omega⟩ (in_ite ⟨by omega, by omega⟩ (in_ite ⟨by omega, by omega⟩ (in_ite h5 (in_ite h2 (in_ite h3 (in_ite h4 (in_ite ⟨by omega, by omega⟩ (in_ite h6 (in_ite ⟨by omega, by omega⟩ ⟨by omega, by omega⟩))))))))))))
theorem im_range (i : Ins) : 0 ≤ im i ∧ im i < 4294967296 := by unfold im; omega
theorem sm_range {f : F} (h : f.U) (i : Ins) : 0 ≤ sm f i ∧ sm f i < 4294967296 := sumO_range _ _ _ _ _ (im_range i) (h.r _) (h.r _) (h.r _)
theorem F.U.nx {f : F} (h : f.U) : f.nx.U := ⟨h.r, by show 0 ≤ (f.pc + 4) % 4294967296; omega, by show (f.pc + 4) % 4294967296 < 4294967296; omega⟩
theorem F.U.put {f : F} (h : f.U) (k : Nat) (v : Int) (h0 : 0 ≤ v) (h1 : v < 4294967296) : (f.put k v).U := ⟨fun j => by
  show 0 ≤ (if j = k then v else f.r j) ∧ (if j = k then v else f.r j) < 4294967296
  split
  · exact ⟨h0, h1⟩
  · exact h.r j, h.p0, h.p1⟩
theorem F.U.cmp {f : F} (h : f.U) (a b : Int) : (f.cmp a b).U := ⟨h.r, h.p0, h.p1⟩
theorem F.U.pcs {f : F} (h : f.U) (p : Int) (h0 : 0 ≤ p) (h1 : p < 4294967296) : ({ f with pc := p } : F).U := ⟨h.r, h0, h1⟩
theorem F.U.jm {f : F} (h : f.U) (i : Ins) : (jm f i).U := by
  unfold Go.Proofs.YteldpapacdbbiaaGreatDoor.jm
  split
  · split
    · exact h.pcs _ (by omega) (by omega)
    · exact h
  split
  · exact (h.put 14 _ h.p0 h.p1).pcs _ (by omega) (by omega)
  split
  · exact h.pcs _ (h.r _).1 (h.r _).2
  · exact h
theorem rcW_range {m : MS} (h : m.U) (l va a v : Int) (h0 : 0 ≤ v) (h1 : v < 4294967296) : 0 ≤ m.rcW l va a v ∧ m.rcW l va a v < 4294967296 := by
  unfold MS.rcW
  split
  · split
    · exact ⟨h0, h1⟩
    · exact h.word _ _ _
  · decide
theorem MS.U.rcM {m : MS} (h : m.U) (l va a v : Int) (h0 : 0 ≤ v) (h1 : v < 4294967296) : (m.rcM l va a v).U := by
  unfold MS.rcM
  split
  · split
    · exact (h.wkS l va).write _ _ _ _ h0 h1
    · exact (h.wkS l va).read _ _ _
  · exact h.wkS l va
structure Out.U (o : Out) : Prop where
  f : o.f.U
  m : o.m.U
theorem doI_U {m : MS} (hm : m.U) (l : Int) {f : F} (hf : f.U) (i : Ins) : (doI m l f i).U := by
  unfold doI
  split
  · exact ⟨hf.nx.put _ _ (sm_range hf i).1 (sm_range hf i).2, hm⟩
  split
  · split
    · exact ⟨hf.nx.put _ _ (rcW_range hm _ _ _ _ (hf.r _).1 (hf.r _).2).1 (rcW_range hm _ _ _ _ (hf.r _).1 (hf.r _).2).2, hm.rcM _ _ _ _ (hf.r _).1 (hf.r _).2⟩
    · exact ⟨hf, hm.rcM _ _ _ _ (hf.r _).1 (hf.r _).2⟩
  split
  · exact ⟨hf.nx.cmp _ _, hm⟩
  split
  · exact ⟨hf.nx.jm i, hm⟩
  · exact ⟨hf.nx, hm⟩
theorem stp_U {m : MS} (hm : m.U) (l : Int) {f : F} (hf : f.U) : (stp m l f).U := by
  unfold stp
  split
  · split
    · exact doI_U (hm.fm l f.pc) l hf _
    · exact ⟨hf, hm.fm l f.pc⟩
  · exact ⟨hf, hm.wkS l f.pc⟩
/-- A run. -/
structure ROut where
  f : F
  k : Int
  a : Int
  u : Nat
  m : MS
def rn (l : Int) : Nat → Nat → MS → F → ROut
  | 0, d, m, f => ⟨f, 5, 0, d, m⟩
  | n + 1, d, m, f => if (stp m l f).k = 0 then rn l n (d + 1) (stp m l f).m (stp m l f).f else ⟨(stp m l f).f, (stp m l f).k, (stp m l f).a, d + 1, (stp m l f).m⟩
end Go.Proofs.YteldpapacdbbiaaGreatDoor
namespace Go.Proofs.YteldpapacdbbiaaGreatDoor
open Go.RowKit
set_option maxHeartbeats 8000000
set_option maxRecDepth 100000
attribute [-simp] Tryz.isAgg26 Tryz.sizeOf26 Tryz.isAgg24
theorem ret_four {P : Program} {fn : Func} {p q r s : Tmp} {ty e ty2 e2 : TypeId} {d d2 : TypeDesc} {a : Act} {w : World} {post : Ending → World → Prop} (hr : fn.results = #[.cell p ty, .cell q ty2, .tmp r, .tmp s]) (hd : a.defers = []) (g g2 : Nat) (cs cs2 : List Value)
    (hp : a.tmps.getD p undef = .pointer (some ⟨g, 0, none⟩)) (hq : a.tmps.getD q undef = .pointer (some ⟨g2, 0, none⟩)) (hb : Cel w g e cs) (hb2 : Cel w g2 e2 cs2) (hu : P.underlying ty = some d) (hu2 : P.underlying ty2 = some d2) (hdd : (match d with | .struct _ | .array _ _ => true | _ => false) = true) (hdd2 : (match d2 with | .struct _ | .array _ _ => true | _ => false) = true) (hi : (P.info? ty).map (·.size) = some cs.length) (hi2 : (P.info? ty2).map (·.size) = some cs2.length)
    (h : post (.returned (.tuple #[.agg cs.toArray, .agg cs2.toArray, a.tmps.getD r undef, a.tmps.getD s undef])) w) : bodyPost P fn post .ret a w := by
  refine bodyPost_ret (v := .tuple #[.agg cs.toArray, .agg cs2.toArray, a.tmps.getD r undef, a.tmps.getD s undef]) ?_ hd h
  have hp' : a.tmps[p]?.getD undef = .pointer (some ⟨g, 0, none⟩) := by simpa using hp
  have hq' : a.tmps[q]?.getD undef = .pointer (some ⟨g2, 0, none⟩) := by simpa using hq
  have h1 := run_loadVar_row (P := P) w g e ty _ (0, 0) _ hb hu hdd (by rw [hi]; simp)
  have h2 := run_loadVar_row (P := P) w g2 e2 ty2 _ (0, 0) _ hb2 hu2 hdd2 (by rw [hi2]; simp)
  simp [results, hr, hp', hq', asAddr, h1, h2]
theorem wrapI (n : Int) (h : -9223372036854775808 ≤ n ∧ n ≤ 9223372036854775807) : IntKind.i64.wrap n = n := by
  rw [IntKind.wrap_i64]; omega
structure RM (W x : World) (g8 g9 : Nat) (fp : Fp) (m : MS) (f : F) (k a : Int) : Prop where
  rd : Rd W x fp m
  c8 : Cel x g8 26 f.cs
  c9 : Cel x g9 38 (evc k a)
  l8 : W.heap.size ≤ g8
  l9 : W.heap.size ≤ g9
theorem RM.on {W x x' : World} {g8 g9 : Nat} {fp : Fp} {m : MS} {f : F} {k a : Int} (d : RM W x g8 g9 fp m f k a) (hb : Below x.heap.size x x') : RM W x' g8 g9 fp m f k a := ⟨d.rd.on hb, d.c8.on hb, d.c9.on hb, d.l8, d.l9⟩
theorem RM.step {W x x' : World} {g8 g9 : Nat} {fp : Fp} {m m' : MS} {f : F} {k a : Int} (d : RM W x g8 g9 fp m f k a) (r : Rd x x' fp m') : RM W x' g8 g9 fp m' f k a := ⟨d.rd.step r.mem r.but, d.c8.but r.but (d.rd.new d.l8), d.c9.but r.but (d.rd.new d.l9), d.l8, d.l9⟩
theorem RM.put8 {W x x' : World} {g8 g9 : Nat} {fp : Fp} {m : MS} {f f' : F} {k a : Int} (d : RM W x g8 g9 fp m f k a) (hc : Cel x' g8 26 f'.cs) (hb : ButL [g8] x x') : RM W x' g8 g9 fp m f' k a := ⟨d.rd.set hb d.l8, hc, d.c9.but hb (by simpa using d.c9.ne d.c8 (by decide)), d.l8, d.l9⟩
theorem RM.put9 {W x x' : World} {g8 g9 : Nat} {fp : Fp} {m : MS} {f : F} {k a k' a' : Int} (d : RM W x g8 g9 fp m f k a) (hc : Cel x' g9 38 (evc k' a')) (hb : ButL [g9] x x') : RM W x' g8 g9 fp m f k' a' := ⟨d.rd.set hb d.l9, d.c8.but hb (by simpa using d.c8.ne d.c9 (by decide)), hc, d.l8, d.l9⟩
def ROut.v (o : ROut) : Value := .tuple #[.agg o.f.cs.toArray, .agg (evc o.k o.a).toArray, .int .i64 (o.u : Int), .int .i64 0]
theorem RM.new (W : World) (fp : Fp) (m : MS) (hm : Mem W fp m) (f : F) : RM W (((W.alloc (.cells f.cs.toArray 26)).alloc zf).alloc (.cells (evc 0 0).toArray 38)) (W.heap.size + 1) (W.heap.size + 1 + 1) fp m F.zero 0 0 ∧ Cel (((W.alloc (.cells f.cs.toArray 26)).alloc zf).alloc (.cells (evc 0 0).toArray 38)) W.heap.size 26 f.cs :=
  have h := SM.new W fp m hm f
  ⟨⟨h.rd, h.c6, h.c7, h.l6, h.l7⟩, h.cf⟩
theorem run_no (W : World) (fp : Fp) (m : MS) (hM : Mem W fp m) (l : Int) (f : F) (n : Int) (hn : n < 0 ∨ 100000 < n) :
    Calls Tryz.prog 13 #[ptr fp.gm, .int .i64 l, f.v, .int .i64 n] W fun x w' => x = .returned (.tuple #[.agg F.zero.cs.toArray, .agg (evc 0 0).toArray, .int .i64 0, .int .i64 100]) ∧ Rd W w' fp m := by
  have HX := hid (RM.new W fp m hM f).1
  clear hM
  unfold F.v
  simp only [zf, evc] at HX
  unfold ptr at *
  generalize f.cs.toArray = C at *
  rcases hn with hn | hn
  all_goals go_enter Tryz.func13, Tryz.ntmps13
  all_goals go_upto_region 1 with fail
  all_goals generalize hX : ((W.alloc _).alloc _).alloc _ = X at *
  all_goals clear hX
  all_goals generalize W.heap.size + 1 + 1 = g9 at *
  all_goals generalize W.heap.size + 1 = g8 at *
  all_goals go_wp2_with (first | (refine wpList_build_zero rfl rfl ?_) | (refine wpList_store_f rfl _ _ rfl g8 F.zero F.zero rfl rfl HX.out.c8 ?_; intro w8 hc8 hb8 hs8; have H8 := hid (HX.out.put8 hc8 hb8); clear hc8 hb8 hs8) | (refine wpList_store_st rfl 38 _ _ rfl g9 (evc 0 0) rfl rfl H8.out.c9 size35 rfl rfl ?_; intro w9 hc9 hb9 hs9; have H9 := hid (H8.out.put9 hc9 hb9); clear hc9 hb9 hs9))
  all_goals refine ret_four rfl rfl g8 g9 _ _ rfl rfl H9.out.c8 H9.out.c9 under27 under35 rfl rfl (by rw [size27, F.len]) size35 ⟨rfl, H9.out.rd⟩
theorem run_any (W : World) (hT : Tb W) (fp : Fp) (m : MS) (hM : Mem W fp m) (hU : m.U) (l : Int) (f : F) (hF : f.U) (hlo : ∀ k ∈ fp.w, 3 < k) (n : Nat) (hn : (n : Int) ≤ 100000) :
    Calls Tryz.prog 13 #[ptr fp.gm, .int .i64 l, f.v, .int .i64 (n : Int)] W fun x w' => x = .returned (rn l n 0 m f).v ∧ Rd W w' fp (rn l n 0 m f).m := by
  have HX := hid (RM.new W fp m hM f).1
  have HC := hid (RM.new W fp m hM f).2
  have HU := hid (And.intro hU hF)
  have HS := hid (fun x (hb : ButL fp.w W x) (m' : MS) (f' : F) (hm : Mem x fp m') (hU' : m'.U) (hF' : f'.U) => step_any x (hT.but hb hlo) fp m' hm hU' l f' hF' hlo)
  clear hT hM hU hF hlo
  generalize hr : rn l n 0 m f = O at *
  have HRn := hid hr
  clear hr
  simp only [F.v] at *
  simp only [zf, evc] at HX HC
  unfold ptr at *
  have hn0 : (0 : Int) ≤ (n : Int) := by omega
  go_enter Tryz.func13, Tryz.ntmps13
  go_upto_region 1 with fail
  generalize hX : ((W.alloc _).alloc _).alloc _ = X at *
  clear hX
  generalize W.heap.size + 1 + 1 = g9 at *
  generalize W.heap.size + 1 = g8 at *
  generalize W.heap.size = g6 at *
  go_upto_region 3 with fail
  go_upto_region 4 with (first | (refine wpList_load_f rfl _ rfl g6 f rfl HC.out ?_) | (refine wpList_store_f rfl _ _ rfl g8 F.zero f rfl rfl HX.out.c8 ?_; intro w8 hc8 hb8 hs8; have H8 := hid (HX.out.put8 hc8 hb8); clear hc8 hb8 hs8))
  clear HX HC
  go_wp2_with fail
  go_loopw [23] (fun i wr => ∃ (j : Nat) (m' : MS) (f' : F) (k a : Int), j ≤ n ∧ i = .int .i64 (j : Int) ∧ Hid (RM W wr g8 g9 fp m' f' k a ∧ m'.U ∧ f'.U ∧ rn l (n - j) j m' f' = O)) (fun i _ => n - (intOf i).toNat)
  case atStart => exact ⟨0, m, f, 0, 0, Nat.zero_le _, rfl, hid ⟨H8.out, HU.out.1, HU.out.2, HRn.out⟩⟩
  case round =>
    obtain ⟨j, m', f', k, a, hj, rfl, HQ⟩ := hrel
    clear H8 HRn HU
    by_cases hlt : j < n
    · have q1 : (j : Int) < (n : Int) := by omega
      have HS1 := hid (HS.out _ HQ.out.1.rd.but m' f' HQ.out.1.rd.mem HQ.out.2.1 HQ.out.2.2.1)
      have HU1 := hid (stp_U HQ.out.2.1 l HQ.out.2.2.1)
      obtain ⟨d, hd⟩ : ∃ d, n - j = d + 1 := ⟨n - j - 1, by omega⟩
      have HRn := hid HQ.out.2.2.2
      rw [hd] at HRn
      unfold rn at HRn
      have HE : Hid (n - (j + 1) = d) := hid (by omega)
      clear hd
      have HM := hid HQ.out.1
      clear HQ
      generalize stp m' l f' = o at *
      go_upto_region 8 with (first | (refine wpList_load_f rfl _ rfl g8 f' rfl HM.out.c8 ?_) | (go_at_call 8; refine HS1.out.mono ?_; rintro e w1 ⟨rfl, hr1⟩; have HM1 := hid (HM.out.step hr1); clear hr1; unfold Out.v) | (refine wpList_store_f rfl _ _ rfl g8 f' o.f rfl rfl HM1.out.c8 ?_; intro w8 hc8 hb8 hs8; have HM2 := hid (HM1.out.put8 hc8 hb8); clear hc8 hb8 hs8) | (refine wpList_store_st rfl 38 _ _ rfl g9 (evc o.k o.a) rfl rfl HM2.out.c9 size35 rfl rfl ?_; intro w9 hc9 hb9 hs9; have HM3 := hid (HM2.out.put9 hc9 hb9); clear hc9 hb9 hs9))
      have ck : w9.cell? ⟨g9, 0, none⟩ = some (.int .i64 o.k) := HM3.out.c9.cell 0
      by_cases hk : o.k = 0
      · rw [hk] at ck
        go_wp2_with fail
        go_roundw
        case measure => simp [intOf] <;> omega
        case rel => exact ⟨j + 1, o.m, o.f, o.k, o.a, by omega, by simp, hid ⟨HM3.out, HU1.out.m, HU1.out.f, by
          have h := HRn.out
          rw [if_pos hk] at h
          rw [HE.out]; exact h⟩⟩
      · have hk1 : (o.k != 0) = true := by simpa using hk
        have HK0 := hid hk
        clear hk
        go_upto_region 9 with fail
        have HD := hid (HM3.out.on (Below.refl _ _).drew)
        clear ck
        refine wp_region_held_drew (S := fun x => RM W x g8 g9 fp o.m o.f o.k o.a) (by kernel_rfl) HD.out (fun hHeld => ?_)
        refine wpAnyH_take (i := 0) (oi := { dst := some 36, op := Op.load 26 (Operand.tmp 8), type := 26, pos := "cpu.go:54", after := #[], guard := none }) (v := .agg o.f.cs.toArray) rfl (by kernel_rfl) (by kernel_rfl) (by kernel_rfl) (fun _ _ _ h => h) (yieldsIf_load_mid (by rfl) _ _ rfl _ _ rfl _ _ (fun w hSw => hSw.c8.range) under27 rfl (by rw [size27, F.len])) (by assumption) ?_
        simp only [Act.put, List.setIfInBounds_toArray, List.set_cons_zero, List.set_cons_succ]
        refine wpAnyH_take (i := 1) (oi := { dst := some 37, op := Op.load 38 (Operand.tmp 9), type := 38, pos := "cpu.go:54", after := #[{ on := 4, ground := Ground.gcOnly Departure.lateStores }], guard := none }) (v := .agg (evc o.k o.a).toArray) rfl (by kernel_rfl) (by kernel_rfl) (by kernel_rfl) (fun _ _ _ h => h) (yieldsIf_load_mid (by rfl) _ _ rfl _ _ rfl _ _ (fun w hSw => hSw.c9.range) under35 rfl size35) (by assumption) ?_
        simp only [Act.put, List.setIfInBounds_toArray, List.set_cons_zero, List.set_cons_succ]
        refine wpAnyH_take (i := 2) (oi := { dst := some 38, op := Op.move (Operand.tmp 12), type := 3, pos := "cpu.go:54", after := #[{ on := 5, ground := Ground.gcOnly Departure.lateStores }], guard := none }) (v := .int .i64 (j : Int)) rfl (by kernel_rfl) (by kernel_rfl) (by kernel_rfl) (fun _ _ _ h => h) (Or.inl ⟨by rfl, by intro w hSw; go_simp⟩) (by assumption) ?_
        simp only [Act.put, List.setIfInBounds_toArray, List.set_cons_zero, List.set_cons_succ]
        refine wpAnyH_take (i := 3) (oi := { dst := some 39, op := Op.binOp BinOp.add 3 (Operand.tmp 38) (Operand.const (Value.int IntKind.i64 1)) 3, type := 3, pos := "cpu.go:54", after := #[{ on := 2, ground := Ground.data }, { on := 5, ground := Ground.gcOnly Departure.lateStores }], guard := none }) (v := .int .i64 ((j : Int) + 1)) rfl (by kernel_rfl) (by kernel_rfl) (by kernel_rfl) (fun _ _ _ h => h) (Or.inl ⟨by rfl, by intro w hSw; go_simp; exact wrapI _ (by omega)⟩) (by assumption) ?_
        simp only [Act.put, List.setIfInBounds_toArray, List.set_cons_zero, List.set_cons_succ]
        refine wpAnyH_ready (rs := [4]) (by kernel_rfl) (by simp) (AllReadyH.cons (o := { dst := none, op := Op.store 26 (Operand.tmp 8) (Operand.tmp 36), type := 0, pos := "cpu.go:54", after := #[{ on := 0, ground := Ground.data }, { on := 0, ground := Ground.phase }, { on := 1, ground := Ground.textOnly Departure.lateStores }, { on := 2, ground := Ground.textOnly Departure.lateStores }, { on := 3, ground := Ground.textOnly Departure.lateStores }], guard := none }) rfl (fun KQ hK => ?_) AllReadyH.nil)
        rw [if_pos (by rfl)]
        refine wp_store_st 26 _ _ rfl g8 o.f.cs rfl rfl HD.out.c8 (by rw [size27, F.len]) rfl (F.all _) ?_
        intro w8 hc8 hb8 hs8
        have HE8 := hid (HD.out.put8 hc8 hb8)
        clear hc8 hb8 hs8
        refine hK.out _ _ HE8.out (fun hHeld => ?_)
        clear hK KQ
        try simp only [Act.put]
        refine wpAnyH_ready (rs := [5]) (by kernel_rfl) (by simp) (AllReadyH.cons (o := { dst := none, op := Op.store 38 (Operand.tmp 9) (Operand.tmp 37), type := 0, pos := "cpu.go:54", after := #[{ on := 1, ground := Ground.data }, { on := 4, ground := Ground.chain }, { on := 0, ground := Ground.phase }, { on := 1, ground := Ground.phase }, { on := 2, ground := Ground.textOnly Departure.lateStores }, { on := 3, ground := Ground.textOnly Departure.lateStores }, { on := 4, ground := Ground.phase }], guard := none }) rfl (fun KQ hK => ?_) AllReadyH.nil)
        rw [if_pos (by rfl)]
        refine wp_store_st 38 _ _ rfl g9 (evc o.k o.a) rfl rfl HE8.out.c9 size35 rfl rfl ?_
        intro w9 hc9 hb9 hs9
        have HE9 := hid (HE8.out.put9 hc9 hb9)
        clear hc9 hb9 hs9
        refine hK.out _ _ HE9.out (fun hHeld => ?_)
        clear hK KQ
        try simp only [Act.put]
        refine wpAnyH_ready (rs := [6]) (by kernel_rfl) (by simp) (AllReadyH.cons (o := { dst := some 10, op := Op.assign (Operand.tmp 39), type := 3, pos := "cpu.go:54", after := #[{ on := 3, ground := Ground.data }, { on := 5, ground := Ground.chain }, { on := 0, ground := Ground.phase }, { on := 1, ground := Ground.phase }, { on := 2, ground := Ground.phase }, { on := 3, ground := Ground.phase }, { on := 4, ground := Ground.phase }, { on := 5, ground := Ground.phase }], guard := none }) rfl (fun KQ hK => ?_) AllReadyH.nil)
        go_simp
        refine hK.out _ _ HE9.out (fun hHeld => ?_)
        clear hK KQ
        try simp only [Act.put, List.setIfInBounds_toArray, List.set_cons_zero, List.set_cons_succ]
        refine wpAnyH_ready (rs := [7]) (by kernel_rfl) (by simp) (AllReadyH.cons (o := { dst := some 11, op := Op.assign (Operand.const (Value.int IntKind.i64 0)), type := 47, pos := "cpu.go:54", after := #[{ on := 6, ground := Ground.chain }, { on := 0, ground := Ground.phase }, { on := 1, ground := Ground.phase }, { on := 2, ground := Ground.phase }, { on := 3, ground := Ground.phase }, { on := 4, ground := Ground.phase }, { on := 5, ground := Ground.phase }, { on := 6, ground := Ground.phase }], guard := none }) rfl (fun KQ hK => ?_) AllReadyH.nil)
        go_simp
        refine hK.out _ _ HE9.out (fun hHeld => ?_)
        clear hK KQ
        try simp only [Act.put, List.setIfInBounds_toArray, List.set_cons_zero, List.set_cons_succ]
        refine wpAnyH_done (by kernel_rfl) ?_ _
        go_wp2_with fail
        refine ret_four rfl rfl g8 g9 _ _ rfl rfl HE9.out.c8 HE9.out.c9 under27 under35 rfl rfl (by rw [size27, F.len]) size35 ?_
        have h := HRn.out
        rw [if_neg HK0.out] at h
        rw [← h]
        exact ⟨rfl, HE9.out.rd⟩
    · have hjn : j = n := by omega
      subst hjn
      have HRn := hid HQ.out.2.2.2
      rw [Nat.sub_self] at HRn
      unfold rn at HRn
      go_upto_region 11 with fail
      go_wp2_with (first | (refine wpList_load_f rfl _ rfl g8 f' rfl HQ.out.1.c8 ?_) | (refine wpList_store_f rfl _ _ rfl g8 f' f' rfl rfl HQ.out.1.c8 ?_; intro w8 hc8 hb8 hs8; have HE8 := hid (HQ.out.1.put8 hc8 hb8); clear hc8 hb8 hs8) | (refine wpList_store_st rfl 38 _ _ rfl g9 (evc 5 0) rfl rfl HE8.out.c9 size35 rfl rfl ?_; intro w9 hc9 hb9 hs9; have HE9 := hid (HE8.out.put9 hc9 hb9); clear hc9 hb9 hs9))
      refine ret_four rfl rfl g8 g9 _ _ rfl rfl HE9.out.c8 HE9.out.c9 under27 under35 rfl rfl (by rw [size27, F.len]) size35 ?_
      rw [← HRn.out]
      exact ⟨rfl, HE9.out.rd⟩
end Go.Proofs.YteldpapacdbbiaaGreatDoor
