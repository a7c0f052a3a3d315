import Derived.Test.YtgbpbfnpeeciaaaGreatP35
import Derived.Test.YtgbpbfnpeeciaaaGreatP41
import Derived.Test.YtgbpbfnpeeciaaaGreatP28
import Derived.Test.YtgbpbfnpeeciaaaGreatP01
import Derived.Test.YtgbpbfnpeeciaaaGreatP40
namespace Go.Proofs.YtgbpbfnpeeciaaaGreat
open Go.RowKit
set_option maxRecDepth 100000
set_option maxHeartbeats 4000000
theorem rin_und {d : DS} {s : Int} (hf : d.folE s = 0) (k : Nat) (hk : k < 256) (hs : d.isS s (d.m.word true (d.fst s) k) = true) : ∀ n, n ≤ 1024 → d.rin s k n = d.m.und k (pf (d.m.word true (d.fst s) k)) n
  | 0, _ => rfl
  | n + 1, hn => by
    have hfn : d.fndE s (jW k n 0) = 0 := by rw [fnd_jW hf k n hk (by omega), if_pos hs]
    have hw2 : d.w2 s (jW k n 0) = d.m.word true (pf (d.m.word true (d.fst s) k)) n := by unfold DS.w2; rw [w1_jW d s k n hk (by omega), (jW_key2 k n hk (by omega)).2.2]
    unfold DS.rin MS.und
    rw [rin_und hf k hk hs n (by omega)]
    unfold DS.atE DS.atM
    simp only [hfn, if_true, hw2]
theorem lsn_rlst {d : DS} {s : Int} (hf : d.folE s = 0) : ∀ n, n ≤ 256 → d.rlst s n = d.lsn s n
  | 0, _ => rfl
  | n + 1, hn => by
    unfold DS.rlst DS.lsn
    rw [lsn_rlst hf n (by omega)]
    have h0 := fnd_jW hf n 0 (by omega) (by decide)
    rw [show ((0 : Nat) : Int) = 0 from rfl] at h0
    rw [h0]
    by_cases hs : d.isS s (d.m.word true (d.fst s) n) = true
    · rw [if_pos hs, if_pos hs, if_pos rfl, rin_und hf n (by omega) hs 1024 (Nat.le_refl _)]
    · rw [if_neg hs, if_neg hs, if_neg (by decide)]
end Go.Proofs.YtgbpbfnpeeciaaaGreat
namespace Go.Proofs.YtgbpbfnpeeciaaaGreat
open Go.RowKit
set_option maxHeartbeats 4000000
set_option maxRecDepth 100000
theorem emptied_any (W : World) (x : Int) : Calls Tryz.prog 90 #[.int .u32 x] W fun e W' => e = .returned (.tuple #[.int .u32 0, .int .i64 (empE x)]) ∧ W' = W := by
  unfold empE
  by_cases hx : x = 0
  · subst hx
    go_enter Tryz.func90, Tryz.ntmps90
    go_wp2_with fail
    go_returns
    exact ⟨rfl, rfl⟩
  · rw [if_neg hx]
    go_enter Tryz.func90, Tryz.ntmps90
    go_wp2_with fail
    go_returns
    exact ⟨rfl, rfl⟩
theorem turn44_any (W : World) (p : Dp) (d : DS) (h : DB W p d) (pg off : Int) :
    Calls Tryz.prog 78 #[rdF p.f pg off, wrF p.f pg off, fnV 90] W fun x W' => x = .returned (.int .i64 (empE (d.m.word true pg off))) ∧ DB W' p (d.tn pg off (0) (empE (d.m.word true pg off))) ∧ ButL p.f.w W W' := by
  have HR := hid (readd_any W p d h pg off)
  have HL := hid (fun w (hw : DB w p (d.rd pg off)) v => layd_any w p (d.rd pg off) hw pg off v)
  have HX := hid (fun w => emptied_any w (d.m.word true pg off))
  unfold DS.tn
  clear h
  generalize d.m.word true pg off = F at *
  generalize empE F = E at *
  simp only [rdF, wrF, ptr, fnV, plV] at *
  by_cases hE : E = 0
  · subst hE
    rw [if_pos rfl]
    go_enter Tryz.func78, Tryz.ntmps78
    go_wp2_with (first | (go_at_call 79; refine HR.out.mono ?_; rintro x w2 ⟨rfl, hd, hb⟩; have HD := hid hd; have HB := hid hb; clear hb hd) | (go_at_call 90; refine (HX.out _).mono ?_; rintro x w3 ⟨rfl, rfl⟩; have HD2 := HD; have HB2 := HB) | (go_at_call 80; refine (HL.out _ HD2.out 0).mono ?_; rintro x w4 ⟨rfl, hd, hb⟩; have HD3 := hid hd; have HB3 := hid (HB2.out.trans hb); clear hb hd))
    go_returns
    exact ⟨rfl, HD3.out, HB3.out⟩
  · rw [if_neg hE]
    go_enter Tryz.func78, Tryz.ntmps78
    go_wp2_with (first | (go_at_call 79; refine HR.out.mono ?_; rintro x w2 ⟨rfl, hd, hb⟩; have HD := hid hd; have HB := hid hb; clear hb hd) | (go_at_call 90; refine (HX.out _).mono ?_; rintro x w3 ⟨rfl, rfl⟩; have HD2 := HD; have HB2 := HB))
    go_returns
    exact ⟨rfl, HD2.out, HB2.out⟩
theorem cut_any (W : World) (p : Dp) (d : DS) (h : DB W p d) (hU : d.m.U) (s va : Int) (v0 : 0 ≤ va) (v1 : va < 4294967296) :
    Calls Tryz.prog 38 #[ptr p.g, .int .i64 s, .int .u32 va] W fun x W' => x = .returned (.int .i64 (d.cutE s va)) ∧ DB W' p (d.cut s va) ∧ ButL p.f.w W W' := by
  have HFi := hid (fun w (hw : DB w p d) => find2_any w p d hw hU s va v0 v1)
  have D0 := hid (DG.startw h)
  have HT := hid (fun w (hw : DB w p (d.fndD s va)) => turn44_any w p (d.fndD s va) hw (pf (d.w1 s va)) (spJ va))
  rw [(d.fndD_m s va).1, show d.m.word true (pf (d.w1 s va)) (spJ va) = d.w2 s va from rfl] at HT
  unfold DS.cutE DS.cut
  unfold DS.fndV at HFi
  clear h hU v0 v1
  generalize hw2 : d.w2 s va = V at *
  clear hw2
  generalize pf (d.w1 s va) = q at *
  generalize spJ va = J at *
  generalize d.fndE s va = E at *
  generalize hd1 : d.fndD s va = d1 at *
  clear hd1
  generalize empE V = X at *
  simp only [ptr, plV, zV3, rdF, wrF, fnV] at *
  by_cases hE : E = 0
  · subst hE
    simp only [if_true] at HFi ⊢
    go_enter Tryz.func38, Tryz.ntmps38
    go_upto_region 2 with (first | (go_at_call 85; refine (HFi.out _ D0.out.db).mono ?_; rintro x w2 ⟨rfl, hd, hb⟩; have D1 := hid ((D0.out.step hd hb (fun _ hk => hk)).new 147 [.pointer (some ⟨p.f.gm, 0, none⟩), .int .i64 q, .int .i64 J]); clear hb hd))
    clear D0 HFi
    generalize w2.alloc _ = w3 at *
    generalize w2.heap.size = g7 at *
    go_wp2_with (first | (go_at_call 78; refine (HT.out _ D1.out.db).mono ?_; rintro x w4 ⟨rfl, hd, hb⟩; have D2 := hid (D1.out.step hd hb (fun _ hk => hk)); clear hb hd) | (refine wpList_load_g rfl 147 _ rfl g7 rfl (D1.out.get 0 rfl) rfl under97 size97 ?_))
    go_returns
    exact ⟨rfl, D2.out.db, D2.out.but⟩
  · simp only [hE, if_false] at HFi ⊢
    go_enter Tryz.func38, Tryz.ntmps38
    go_upto_region 2 with (first | (go_at_call 85; refine (HFi.out _ D0.out.db).mono ?_; rintro x w2 ⟨rfl, hd, hb⟩; have D1 := hid ((D0.out.step hd hb (fun _ hk => hk)).new 147 [.pointer none, .int .i64 0, .int .i64 0]); clear hb hd))
    clear D0 HFi
    generalize w2.alloc _ = w3 at *
    generalize w2.heap.size = g7 at *
    go_wp2_with fail
    go_returns
    exact ⟨rfl, D1.out.db, D1.out.but⟩
theorem at_any2 (W : World) (p : Dp) (d : DS) (h : DB W p d) (hU : d.m.U) (s va : Int) (v0 : 0 ≤ va) (v1 : va < 4294967296) :
    Calls Tryz.prog 40 #[ptr p.g, .int .i64 s, .int .u32 va] W fun x W' => x = .returned (.tuple #[(d.atM s va).v, .int .i64 (d.atE s va)]) ∧ DB W' p (d.look s va) ∧ ButL p.f.w W W' := by
  have HFi := hid (fun w (hw : DB w p d) => find2_any w p d hw hU s va v0 v1)
  have D0 := hid ((DG.startw h).new 88 [.bool false, .int .i64 0, .bool false, .bool false])
  have HM := hid (fun w (hw : DB w p (d.fndD s va)) => memory_any w p (d.fndD s va) hw)
  have HT := hid (fun w (hw : DB w p (d.fndD s va)) => mapped2_any w p (d.fndD s va) hw ((d.fndD_m s va).2.2.2.2 hU) (pf (d.w1 s va)) (spJ va))
  rw [(MS.mE_at (d.fndD_m s va).2.1 _).1, (MS.mE_at (d.fndD_m s va).2.1 _).2, (d.fndD_m s va).1, show d.m.word true (pf (d.w1 s va)) (spJ va) = d.w2 s va from rfl] at HT
  unfold DS.atM DS.atE DS.look
  unfold DS.fndV at HFi
  clear h hU v0 v1
  generalize hw2 : d.w2 s va = V at *
  clear hw2
  generalize pf (d.w1 s va) = q at *
  generalize spJ va = J at *
  generalize d.fndE s va = E at *
  generalize hd1 : d.fndD s va = d1 at *
  clear hd1
  generalize d.m.mE V = X at *
  generalize d.m.mM V = M at *
  simp only [ptr, plV, zV3, rdF, Mp.v] at *
  by_cases hE : E = 0
  · subst hE
    simp only [if_true] at HFi ⊢
    go_enter Tryz.func40, Tryz.ntmps40
    go_upto_region 1 with fail
    generalize World.alloc _ _ = x0 at *
    generalize hg : W.heap.size = g6 at D0 ⊢
    have HG := hid hg
    clear hg
    go_upto_region 2 with (first | (go_at_call 85; refine (HFi.out _ D0.out.db).mono ?_; rintro x w2 ⟨rfl, hd, hb⟩; have D1 := hid ((D0.out.step hd hb (fun _ hk => hk)).new 147 [.pointer (some ⟨p.f.gm, 0, none⟩), .int .i64 q, .int .i64 J]); have HN : Hid (w2.heap.size ≠ g6) := hid (fun e => by have := ((D0.out.step hd hb (fun _ hk => hk)).get 0 rfl).lt; omega); clear hb hd))
    clear D0 HFi
    generalize w2.alloc _ = w3 at *
    generalize w2.heap.size = g8 at *
    go_upto_region 4 with fail
    refine wp_region_held_drew (S := fun w => Cel w g8 147 [.pointer (some ⟨p.f.gm, 0, none⟩), .int .i64 q, .int .i64 J]) (by kernel_rfl) (D1.out.get 0 rfl) (fun hHeld => ?_)
    have D1b := hid (D1.out.on (Below.refl _ _).drew)
    clear D1
    have D1 := D1b
    clear D1b
    generalize World.drew _ = w4 at *
    refine tk 0 ⟨some 21, .move (.tmp 0), 43, "space.go:69", #[], none⟩ (.pointer (some ⟨p.g, 0, none⟩)) ?_
    simp only [Act.put, List.setIfInBounds_toArray, List.set_cons_zero, List.set_cons_succ]
    refine tk 2 ⟨some 23, .load 147 (.tmp 8), 147, "space.go:69", #[], none⟩ (.agg #[.pointer (some ⟨p.f.gm, 0, none⟩), .int .i64 q, .int .i64 J]) ?_ (hy := yieldsIf_load_mid (by rfl) _ _ rfl _ _ rfl _ _ (fun w hSw => hSw.range) under97 rfl (by rw [size97]; rfl))
    simp only [Act.put, List.setIfInBounds_toArray, List.set_cons_zero, List.set_cons_succ]
    refine tk 3 ⟨some 24, .makeFunc (Fn.func 79) #[.tmp 23] #[], 150, "space.go:69", #[⟨2, .data⟩], none⟩ (.func (.func 79) #[.agg #[.pointer (some ⟨p.f.gm, 0, none⟩), .int .i64 q, .int .i64 J]] #[]) ?_
    simp only [Act.put, List.setIfInBounds_toArray, List.set_cons_zero, List.set_cons_succ]
    refine wpAnyH_ready (rs := [1]) (by kernel_rfl) (by simp) (AllReadyH.cons (o := ⟨some 22, .call { callee := .value (.func 92), args := #[.tmp 21], argTypes := #[43] }, 36, "space.go:69", #[⟨0, .data⟩], none⟩) rfl (fun KQ hK => ?_) AllReadyH.nil)
    go_simp
    refine (HM.out _ D1.out.db).mono ?_
    rintro e w6 ⟨rfl, rfl⟩
    clear HM
    go_wp2_with fail
    refine hK.out _ _ (D1.out.get 0 rfl) (fun hHeld => ?_)
    clear hK KQ
    try simp only [Act.put, List.setIfInBounds_toArray, List.set_cons_zero, List.set_cons_succ]
    refine wpAnyH_ready (rs := [4]) (by kernel_rfl) (by simp) (AllReadyH.cons (o := ⟨some 25, .call { callee := .value (.func 91), args := #[.tmp 22, .tmp 24], argTypes := #[36, 150] }, 91, "space.go:69", #[⟨1, .data⟩, ⟨3, .data⟩, ⟨1, .chain⟩], none⟩) rfl (fun KQ hK => ?_) AllReadyH.nil)
    go_simp
    refine (HT.out _ D1.out.db).mono ?_
    rintro e w7 ⟨rfl, hd, hb⟩
    have D3 := hid (D1.out.step hd hb (fun _ hk => hk))
    clear hb hd D1 HT
    go_wp2_with fail
    refine hK.out _ _ (D3.out.get 0 rfl) (fun hHeld => ?_)
    clear hK KQ
    try simp only [Act.put, List.setIfInBounds_toArray, List.set_cons_zero, List.set_cons_succ]
    refine tk 5 ⟨some 26, .extract (.tmp 25) 0, 88, "space.go:69", #[⟨4, .data⟩], none⟩ (.agg #[.bool M.s, .int .i64 M.p, .bool M.wr, .bool M.ex]) ?_
    simp only [Act.put, List.setIfInBounds_toArray, List.set_cons_zero, List.set_cons_succ]
    refine tk 6 ⟨some 27, .extract (.tmp 25) 1, 37, "space.go:69", #[⟨4, .data⟩], none⟩ (.int .i64 X) ?_
    simp only [Act.put, List.setIfInBounds_toArray, List.set_cons_zero, List.set_cons_succ]
    refine wpAnyH_ready (rs := [7]) (by kernel_rfl) (by simp) (AllReadyH.cons (o := ⟨none, .store 88 (.tmp 6) (.tmp 26), 0, "space.go:69", #[⟨5, .data⟩, ⟨4, .chain⟩, ⟨0, .phase⟩, ⟨1, .phase⟩, ⟨2, .phase⟩, ⟨3, .phase⟩, ⟨4, .phase⟩, ⟨5, .phase⟩, ⟨6, .phase⟩], none⟩) rfl (fun KQ hK => ?_) AllReadyH.nil)
    rw [if_pos (by rfl)]
    refine wp_store_st 88 _ _ rfl g6 [.bool M.s, .int .i64 M.p, .bool M.wr, .bool M.ex] rfl rfl (D3.out.get 1 rfl) size49 rfl rfl ?_
    intro w8 hc hb hs
    have D4 := hid (D3.out.tail.put (by simp) hc hb)
    have HC := hid hc
    have H8 := hid ((D3.out.get 0 rfl).but hb (by simpa using HN.out))
    clear hc hb hs
    refine hK.out _ _ H8.out (fun hHeld => ?_)
    clear hK KQ
    try simp only [Act.put]
    refine wpAnyH_ready (rs := [8]) (by kernel_rfl) (by simp) (AllReadyH.cons (o := ⟨some 7, .assign (.tmp 27), 37, "space.go:69", #[⟨6, .data⟩, ⟨7, .chain⟩, ⟨0, .phase⟩, ⟨1, .phase⟩, ⟨2, .phase⟩, ⟨3, .phase⟩, ⟨4, .phase⟩, ⟨5, .phase⟩, ⟨6, .phase⟩, ⟨7, .phase⟩], none⟩) rfl (fun KQ hK => ?_) AllReadyH.nil)
    go_simp
    refine hK.out _ _ H8.out (fun hHeld => ?_)
    clear hK KQ
    try simp only [Act.put, List.setIfInBounds_toArray, List.set_cons_zero, List.set_cons_succ]
    refine wpAnyH_done (by kernel_rfl) ?_ _
    go_wp2_with fail
    exact ret_st2 rfl rfl g6 _ rfl HC.out under49 rfl size49 ⟨rfl, D4.out.db, D4.out.but⟩
  · simp only [hE, if_false] at HFi ⊢
    go_enter Tryz.func40, Tryz.ntmps40
    go_upto_region 1 with fail
    generalize World.alloc _ _ = x0 at *
    generalize hg : W.heap.size = g6 at D0 ⊢
    have HG := hid hg
    clear hg
    go_upto_region 2 with (first | (go_at_call 85; refine (HFi.out _ D0.out.db).mono ?_; rintro x w2 ⟨rfl, hd, hb⟩; have D1 := hid ((D0.out.step hd hb (fun _ hk => hk)).new 147 [.pointer none, .int .i64 0, .int .i64 0]); clear hb hd))
    clear D0 HFi
    generalize w2.alloc _ = w3 at *
    generalize w2.heap.size = g8 at *
    go_wp2_with (first | (refine wpList_build_z49 rfl rfl ?_) | (refine wpList_store_st rfl 88 _ _ rfl g6 [.bool false, .int .i64 0, .bool false, .bool false] rfl rfl (D1.out.get 1 rfl) size49 rfl rfl ?_; intro w6 hc hb hs; have D4 := hid (D1.out.tail.put (by simp) hc hb); have HC := hid hc; clear hc hb hs))
    exact ret_st2 rfl rfl g6 _ rfl HC.out under49 rfl size49 ⟨rfl, D4.out.db, D4.out.but⟩
end Go.Proofs.YtgbpbfnpeeciaaaGreat
