/- cpu's Run 9. -/
import Derived.Test.YteldpapacdbbiaaDoorC7
namespace Go.Proofs.YteldpapacdbbiaaDoor
open Go.RowKit
set_option maxHeartbeats 8000000
set_option maxRecDepth 100000
attribute [-simp] Tryd.isAgg26 Tryd.sizeOf26 Tryd.isAgg24
theorem ret_four {P : Program} {fn : Func} {p q r s : Tmp} {ty e ty2 e2 : TypeId} {d d2 : TypeDesc} {a : Act} {w : World} {post : Ending → World → Prop} (hr : fn.results = #[.cell p ty, .cell q ty2, .tmp r, .tmp s]) (hd : a.defers = []) (g g2 : Nat) (cs cs2 : List Value)
    (hp : a.tmps.getD p undef = .pointer (some ⟨g, 0, none⟩)) (hq : a.tmps.getD q undef = .pointer (some ⟨g2, 0, none⟩)) (hb : Cel w g e cs) (hb2 : Cel w g2 e2 cs2) (hu : P.underlying ty = some d) (hu2 : P.underlying ty2 = some d2) (hdd : (match d with | .struct _ | .array _ _ => true | _ => false) = true) (hdd2 : (match d2 with | .struct _ | .array _ _ => true | _ => false) = true) (hi : (P.info? ty).map (·.size) = some cs.length) (hi2 : (P.info? ty2).map (·.size) = some cs2.length)
    (h : post (.returned (.tuple #[.agg cs.toArray, .agg cs2.toArray, a.tmps.getD r undef, a.tmps.getD s undef])) w) : bodyPost P fn post .ret a w := by
  refine bodyPost_ret (v := .tuple #[.agg cs.toArray, .agg cs2.toArray, a.tmps.getD r undef, a.tmps.getD s undef]) ?_ hd h
  have hp' : a.tmps[p]?.getD undef = .pointer (some ⟨g, 0, none⟩) := by simpa using hp
  have hq' : a.tmps[q]?.getD undef = .pointer (some ⟨g2, 0, none⟩) := by simpa using hq
  have h1 := run_loadVar_row (P := P) w g e ty _ (0, 0) _ hb hu hdd (by rw [hi]; simp)
  have h2 := run_loadVar_row (P := P) w g2 e2 ty2 _ (0, 0) _ hb2 hu2 hdd2 (by rw [hi2]; simp)
  simp [results, hr, hp', hq', asAddr, h1, h2]
theorem wrapI (n : Int) (h : -9223372036854775808 ≤ n ∧ n ≤ 9223372036854775807) : IntKind.i64.wrap n = n := by
  rw [IntKind.wrap_i64]; omega
structure RM (W x : World) (g8 g9 : Nat) (fp : Fp) (m : MS) (f : F) (k a : Int) : Prop where
  rd : Rd W x fp m
  c8 : Cel x g8 26 f.cs
  c9 : Cel x g9 35 (evc k a)
  l8 : W.heap.size ≤ g8
  l9 : W.heap.size ≤ g9
theorem RM.on {W x x' : World} {g8 g9 : Nat} {fp : Fp} {m : MS} {f : F} {k a : Int} (d : RM W x g8 g9 fp m f k a) (hb : Below x.heap.size x x') : RM W x' g8 g9 fp m f k a := ⟨d.rd.on hb, d.c8.on hb, d.c9.on hb, d.l8, d.l9⟩
theorem RM.step {W x x' : World} {g8 g9 : Nat} {fp : Fp} {m m' : MS} {f : F} {k a : Int} (d : RM W x g8 g9 fp m f k a) (r : Rd x x' fp m') : RM W x' g8 g9 fp m' f k a := ⟨d.rd.step r.mem r.but, d.c8.but r.but (d.rd.new d.l8), d.c9.but r.but (d.rd.new d.l9), d.l8, d.l9⟩
theorem RM.put8 {W x x' : World} {g8 g9 : Nat} {fp : Fp} {m : MS} {f f' : F} {k a : Int} (d : RM W x g8 g9 fp m f k a) (hc : Cel x' g8 26 f'.cs) (hb : ButL [g8] x x') : RM W x' g8 g9 fp m f' k a := ⟨d.rd.set hb d.l8, hc, d.c9.but hb (by simpa using d.c9.ne d.c8 (by decide)), d.l8, d.l9⟩
theorem RM.put9 {W x x' : World} {g8 g9 : Nat} {fp : Fp} {m : MS} {f : F} {k a k' a' : Int} (d : RM W x g8 g9 fp m f k a) (hc : Cel x' g9 35 (evc k' a')) (hb : ButL [g9] x x') : RM W x' g8 g9 fp m f k' a' := ⟨d.rd.set hb d.l9, d.c8.but hb (by simpa using d.c8.ne d.c9 (by decide)), hc, d.l8, d.l9⟩
def ROut.v (o : ROut) : Value := .tuple #[.agg o.f.cs.toArray, .agg (evc o.k o.a).toArray, .int .i64 (o.u : Int), .int .i64 0]
theorem RM.new (W : World) (fp : Fp) (m : MS) (hm : Mem W fp m) (f : F) : RM W (((W.alloc (.cells f.cs.toArray 26)).alloc zf).alloc (.cells (evc 0 0).toArray 35)) (W.heap.size + 1) (W.heap.size + 1 + 1) fp m F.zero 0 0 ∧ Cel (((W.alloc (.cells f.cs.toArray 26)).alloc zf).alloc (.cells (evc 0 0).toArray 35)) W.heap.size 26 f.cs :=
  have h := SM.new W fp m hm f
  ⟨⟨h.rd, h.c6, h.c7, h.l6, h.l7⟩, h.cf⟩
theorem run_no (W : World) (fp : Fp) (m : MS) (hM : Mem W fp m) (l : Int) (f : F) (n : Int) (hn : n < 0 ∨ 100000 < n) :
    Calls Tryd.prog 9 #[ptr fp.gm, .int .i64 l, f.v, .int .i64 n] W fun x w' => x = .returned (.tuple #[.agg F.zero.cs.toArray, .agg (evc 0 0).toArray, .int .i64 0, .int .i64 100]) ∧ Rd W w' fp m := by
  have HX := hid (RM.new W fp m hM f).1
  clear hM
  unfold F.v
  simp only [zf, evc] at HX
  unfold ptr at *
  generalize f.cs.toArray = C at *
  rcases hn with hn | hn
  all_goals go_enter Tryd.func9, Tryd.ntmps9
  all_goals go_upto_region 1 with fail
  all_goals generalize hX : ((W.alloc _).alloc _).alloc _ = X at *
  all_goals clear hX
  all_goals generalize W.heap.size + 1 + 1 = g9 at *
  all_goals generalize W.heap.size + 1 = g8 at *
  all_goals go_wp2_with (first | (refine wpList_build_zero rfl rfl ?_) | (refine wpList_store_f rfl _ _ rfl g8 F.zero F.zero rfl rfl HX.out.c8 ?_; intro w8 hc8 hb8 hs8; have H8 := hid (HX.out.put8 hc8 hb8); clear hc8 hb8 hs8) | (refine wpList_store_st rfl 35 _ _ rfl g9 (evc 0 0) rfl rfl H8.out.c9 size35 rfl rfl ?_; intro w9 hc9 hb9 hs9; have H9 := hid (H8.out.put9 hc9 hb9); clear hc9 hb9 hs9))
  all_goals refine ret_four rfl rfl g8 g9 _ _ rfl rfl H9.out.c8 H9.out.c9 under27 under35 rfl rfl (by rw [size27, F.len]) size35 ⟨rfl, H9.out.rd⟩
theorem run_any (W : World) (hT : Tb W) (fp : Fp) (m : MS) (hM : Mem W fp m) (hU : m.U) (l : Int) (f : F) (hF : f.U) (hlo : ∀ k ∈ fp.w, 2 < k) (n : Nat) (hn : (n : Int) ≤ 100000) :
    Calls Tryd.prog 9 #[ptr fp.gm, .int .i64 l, f.v, .int .i64 (n : Int)] W fun x w' => x = .returned (rn l n 0 m f).v ∧ Rd W w' fp (rn l n 0 m f).m := by
  have HX := hid (RM.new W fp m hM f).1
  have HC := hid (RM.new W fp m hM f).2
  have HU := hid (And.intro hU hF)
  have HS := hid (fun x (hb : ButL fp.w W x) (m' : MS) (f' : F) (hm : Mem x fp m') (hU' : m'.U) (hF' : f'.U) => step_any x (hT.but hb hlo) fp m' hm hU' l f' hF' hlo)
  clear hT hM hU hF hlo
  generalize hr : rn l n 0 m f = O at *
  have HRn := hid hr
  clear hr
  simp only [F.v] at *
  simp only [zf, evc] at HX HC
  unfold ptr at *
  have hn0 : (0 : Int) ≤ (n : Int) := by omega
  go_enter Tryd.func9, Tryd.ntmps9
  go_upto_region 1 with fail
  generalize hX : ((W.alloc _).alloc _).alloc _ = X at *
  clear hX
  generalize W.heap.size + 1 + 1 = g9 at *
  generalize W.heap.size + 1 = g8 at *
  generalize W.heap.size = g6 at *
  go_upto_region 3 with fail
  go_upto_region 4 with (first | (refine wpList_load_f rfl _ rfl g6 f rfl HC.out ?_) | (refine wpList_store_f rfl _ _ rfl g8 F.zero f rfl rfl HX.out.c8 ?_; intro w8 hc8 hb8 hs8; have H8 := hid (HX.out.put8 hc8 hb8); clear hc8 hb8 hs8))
  clear HX HC
  go_wp2_with fail
  go_loopw [23] (fun i wr => ∃ (j : Nat) (m' : MS) (f' : F) (k a : Int), j ≤ n ∧ i = .int .i64 (j : Int) ∧ Hid (RM W wr g8 g9 fp m' f' k a ∧ m'.U ∧ f'.U ∧ rn l (n - j) j m' f' = O)) (fun i _ => n - (intOf i).toNat)
  case atStart => exact ⟨0, m, f, 0, 0, Nat.zero_le _, rfl, hid ⟨H8.out, HU.out.1, HU.out.2, HRn.out⟩⟩
  case round =>
    obtain ⟨j, m', f', k, a, hj, rfl, HQ⟩ := hrel
    clear H8 HRn HU
    by_cases hlt : j < n
    · have q1 : (j : Int) < (n : Int) := by omega
      have HS1 := hid (HS.out _ HQ.out.1.rd.but m' f' HQ.out.1.rd.mem HQ.out.2.1 HQ.out.2.2.1)
      have HU1 := hid (stp_U HQ.out.2.1 l HQ.out.2.2.1)
      obtain ⟨d, hd⟩ : ∃ d, n - j = d + 1 := ⟨n - j - 1, by omega⟩
      have HRn := hid HQ.out.2.2.2
      rw [hd] at HRn
      unfold rn at HRn
      have HE : Hid (n - (j + 1) = d) := hid (by omega)
      clear hd
      have HM := hid HQ.out.1
      clear HQ
      generalize stp m' l f' = o at *
      go_upto_region 8 with (first | (refine wpList_load_f rfl _ rfl g8 f' rfl HM.out.c8 ?_) | (go_at_call 11; refine HS1.out.mono ?_; rintro e w1 ⟨rfl, hr1⟩; have HM1 := hid (HM.out.step hr1); clear hr1; unfold Out.v) | (refine wpList_store_f rfl _ _ rfl g8 f' o.f rfl rfl HM1.out.c8 ?_; intro w8 hc8 hb8 hs8; have HM2 := hid (HM1.out.put8 hc8 hb8); clear hc8 hb8 hs8) | (refine wpList_store_st rfl 35 _ _ rfl g9 (evc o.k o.a) rfl rfl HM2.out.c9 size35 rfl rfl ?_; intro w9 hc9 hb9 hs9; have HM3 := hid (HM2.out.put9 hc9 hb9); clear hc9 hb9 hs9))
      have ck : w9.cell? ⟨g9, 0, none⟩ = some (.int .i64 o.k) := HM3.out.c9.cell 0
      by_cases hk : o.k = 0
      · rw [hk] at ck
        go_wp2_with fail
        go_roundw
        case measure => simp [intOf] <;> omega
        case rel => exact ⟨j + 1, o.m, o.f, o.k, o.a, by omega, by simp, hid ⟨HM3.out, HU1.out.m, HU1.out.f, by
          have h := HRn.out
          rw [if_pos hk] at h
          rw [HE.out]; exact h⟩⟩
      · have hk1 : (o.k != 0) = true := by simpa using hk
        have HK0 := hid hk
        clear hk
        go_upto_region 9 with fail
        have HD := hid (HM3.out.on (Below.refl _ _).drew)
        clear ck
        refine wp_region_held_drew (S := fun x => RM W x g8 g9 fp o.m o.f o.k o.a) (by kernel_rfl) HD.out (fun hHeld => ?_)
        refine wpAnyH_take (i := 0) (oi := { dst := some 36, op := Op.load 26 (Operand.tmp 8), type := 26, pos := "cpu.go:54", after := #[], guard := none }) (v := .agg o.f.cs.toArray) rfl (by kernel_rfl) (by kernel_rfl) (by kernel_rfl) (fun _ _ _ h => h) (yieldsIf_load_mid (by rfl) _ _ rfl _ _ rfl _ _ (fun w hSw => hSw.c8.range) under27 rfl (by rw [size27, F.len])) (by assumption) ?_
        simp only [Act.put, List.setIfInBounds_toArray, List.set_cons_zero, List.set_cons_succ]
        refine wpAnyH_take (i := 1) (oi := { dst := some 37, op := Op.load 35 (Operand.tmp 9), type := 35, pos := "cpu.go:54", after := #[{ on := 4, ground := Ground.gcOnly Departure.lateStores }], guard := none }) (v := .agg (evc o.k o.a).toArray) rfl (by kernel_rfl) (by kernel_rfl) (by kernel_rfl) (fun _ _ _ h => h) (yieldsIf_load_mid (by rfl) _ _ rfl _ _ rfl _ _ (fun w hSw => hSw.c9.range) under35 rfl size35) (by assumption) ?_
        simp only [Act.put, List.setIfInBounds_toArray, List.set_cons_zero, List.set_cons_succ]
        refine wpAnyH_take (i := 2) (oi := { dst := some 38, op := Op.move (Operand.tmp 12), type := 3, pos := "cpu.go:54", after := #[{ on := 5, ground := Ground.gcOnly Departure.lateStores }], guard := none }) (v := .int .i64 (j : Int)) rfl (by kernel_rfl) (by kernel_rfl) (by kernel_rfl) (fun _ _ _ h => h) (Or.inl ⟨by rfl, by intro w hSw; go_simp⟩) (by assumption) ?_
        simp only [Act.put, List.setIfInBounds_toArray, List.set_cons_zero, List.set_cons_succ]
        refine wpAnyH_take (i := 3) (oi := { dst := some 39, op := Op.binOp BinOp.add 3 (Operand.tmp 38) (Operand.const (Value.int IntKind.i64 1)) 3, type := 3, pos := "cpu.go:54", after := #[{ on := 2, ground := Ground.data }, { on := 5, ground := Ground.gcOnly Departure.lateStores }], guard := none }) (v := .int .i64 ((j : Int) + 1)) rfl (by kernel_rfl) (by kernel_rfl) (by kernel_rfl) (fun _ _ _ h => h) (Or.inl ⟨by rfl, by intro w hSw; go_simp; exact wrapI _ (by omega)⟩) (by assumption) ?_
        simp only [Act.put, List.setIfInBounds_toArray, List.set_cons_zero, List.set_cons_succ]
        refine wpAnyH_ready (rs := [4]) (by kernel_rfl) (by simp) (AllReadyH.cons (o := { dst := none, op := Op.store 26 (Operand.tmp 8) (Operand.tmp 36), type := 0, pos := "cpu.go:54", after := #[{ on := 0, ground := Ground.data }, { on := 0, ground := Ground.phase }, { on := 1, ground := Ground.textOnly Departure.lateStores }, { on := 2, ground := Ground.textOnly Departure.lateStores }, { on := 3, ground := Ground.textOnly Departure.lateStores }], guard := none }) rfl (fun KQ hK => ?_) AllReadyH.nil)
        rw [if_pos (by rfl)]
        refine wp_store_st 26 _ _ rfl g8 o.f.cs rfl rfl HD.out.c8 (by rw [size27, F.len]) rfl (F.all _) ?_
        intro w8 hc8 hb8 hs8
        have HE8 := hid (HD.out.put8 hc8 hb8)
        clear hc8 hb8 hs8
        refine hK.out _ _ HE8.out (fun hHeld => ?_)
        clear hK KQ
        try simp only [Act.put]
        refine wpAnyH_ready (rs := [5]) (by kernel_rfl) (by simp) (AllReadyH.cons (o := { dst := none, op := Op.store 35 (Operand.tmp 9) (Operand.tmp 37), type := 0, pos := "cpu.go:54", after := #[{ on := 1, ground := Ground.data }, { on := 4, ground := Ground.chain }, { on := 0, ground := Ground.phase }, { on := 1, ground := Ground.phase }, { on := 2, ground := Ground.textOnly Departure.lateStores }, { on := 3, ground := Ground.textOnly Departure.lateStores }, { on := 4, ground := Ground.phase }], guard := none }) rfl (fun KQ hK => ?_) AllReadyH.nil)
        rw [if_pos (by rfl)]
        refine wp_store_st 35 _ _ rfl g9 (evc o.k o.a) rfl rfl HE8.out.c9 size35 rfl rfl ?_
        intro w9 hc9 hb9 hs9
        have HE9 := hid (HE8.out.put9 hc9 hb9)
        clear hc9 hb9 hs9
        refine hK.out _ _ HE9.out (fun hHeld => ?_)
        clear hK KQ
        try simp only [Act.put]
        refine wpAnyH_ready (rs := [6]) (by kernel_rfl) (by simp) (AllReadyH.cons (o := { dst := some 10, op := Op.assign (Operand.tmp 39), type := 3, pos := "cpu.go:54", after := #[{ on := 3, ground := Ground.data }, { on := 5, ground := Ground.chain }, { on := 0, ground := Ground.phase }, { on := 1, ground := Ground.phase }, { on := 2, ground := Ground.phase }, { on := 3, ground := Ground.phase }, { on := 4, ground := Ground.phase }, { on := 5, ground := Ground.phase }], guard := none }) rfl (fun KQ hK => ?_) AllReadyH.nil)
        go_simp
        refine hK.out _ _ HE9.out (fun hHeld => ?_)
        clear hK KQ
        try simp only [Act.put, List.setIfInBounds_toArray, List.set_cons_zero, List.set_cons_succ]
        refine wpAnyH_ready (rs := [7]) (by kernel_rfl) (by simp) (AllReadyH.cons (o := { dst := some 11, op := Op.assign (Operand.const (Value.int IntKind.i64 0)), type := 36, pos := "cpu.go:54", after := #[{ on := 6, ground := Ground.chain }, { on := 0, ground := Ground.phase }, { on := 1, ground := Ground.phase }, { on := 2, ground := Ground.phase }, { on := 3, ground := Ground.phase }, { on := 4, ground := Ground.phase }, { on := 5, ground := Ground.phase }, { on := 6, ground := Ground.phase }], guard := none }) rfl (fun KQ hK => ?_) AllReadyH.nil)
        go_simp
        refine hK.out _ _ HE9.out (fun hHeld => ?_)
        clear hK KQ
        try simp only [Act.put, List.setIfInBounds_toArray, List.set_cons_zero, List.set_cons_succ]
        refine wpAnyH_done (by kernel_rfl) ?_ _
        go_wp2_with fail
        refine ret_four rfl rfl g8 g9 _ _ rfl rfl HE9.out.c8 HE9.out.c9 under27 under35 rfl rfl (by rw [size27, F.len]) size35 ?_
        have h := HRn.out
        rw [if_neg HK0.out] at h
        rw [← h]
        exact ⟨rfl, HE9.out.rd⟩
    · have hjn : j = n := by omega
      subst hjn
      have HRn := hid HQ.out.2.2.2
      rw [Nat.sub_self] at HRn
      unfold rn at HRn
      go_upto_region 11 with fail
      go_wp2_with (first | (refine wpList_load_f rfl _ rfl g8 f' rfl HQ.out.1.c8 ?_) | (refine wpList_store_f rfl _ _ rfl g8 f' f' rfl rfl HQ.out.1.c8 ?_; intro w8 hc8 hb8 hs8; have HE8 := hid (HQ.out.1.put8 hc8 hb8); clear hc8 hb8 hs8) | (refine wpList_store_st rfl 35 _ _ rfl g9 (evc 5 0) rfl rfl HE8.out.c9 size35 rfl rfl ?_; intro w9 hc9 hb9 hs9; have HE9 := hid (HE8.out.put9 hc9 hb9); clear hc9 hb9 hs9))
      refine ret_four rfl rfl g8 g9 _ _ rfl rfl HE9.out.c8 HE9.out.c9 under27 under35 rfl rfl (by rw [size27, F.len]) size35 ?_
      rw [← HRn.out]
      exact ⟨rfl, HE9.out.rd⟩
end Go.Proofs.YteldpapacdbbiaaDoor
