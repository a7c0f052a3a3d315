import Derived.Test.YtncnogndopgknaaGreatDoorP48
namespace Go.Proofs.YtncnogndopgknaaGreatDoor
open Go.RowKit
set_option maxRecDepth 40000
set_option maxHeartbeats 8000000
theorem info22s : (Tryz.prog.info? 22).map (fun i => (i.zero, i.size, i.bytes)) = some (some (.int .u32 0), 1, 4) := by kernel_rfl
theorem u32s_len (l : List Nat) : (u32s l).length = l.length := by simp [u32s]
theorem at_lie {w : World} {ao : Option Addr} {ws : List Nat} (h : AtW w ao ws) : Lie w ao (u32s ws) := by
  rcases h with rfl | ⟨b, o, rfl, _, hc⟩
  · exact .inl rfl
  · refine .inr ⟨b, o, rfl, fun j u hu => ?_⟩
    simp only [u32s, List.getElem?_map, Option.map_eq_some_iff] at hu
    obtain ⟨x, hx, rfl⟩ := hu
    obtain ⟨hj, rfl⟩ := List.getElem?_eq_some_iff.1 hx
    exact hc j hj
theorem own_at0 {w : World} {B n k c : Nat} {ao : Option Addr} {ws : List Nat} {ys : List Value} (h : w.ownsRow B 22 1 (.slice ao (n + k) c) (n + k) (u32s ws ++ ys)) (hl : ws.length = n) : AtW w ao ws := by
  rcases Nat.eq_zero_or_pos n with h0 | h0
  · exact .inl (List.eq_nil_of_length_eq_zero (by omega))
  · obtain ⟨g, rfl⟩ := own_some h (by omega)
    have hlt := (own_lt2 h (g := g) rfl).2
    refine .inr ⟨g, 0, rfl, hlt, fun i hi => ?_⟩
    have := own_rng h i (.int .u32 (ws[i] : Nat)) (by
      rw [List.getElem?_append_left (by rw [u32s_len]; exact hi)]
      simp [u32s, hi])
    simpa using this
theorem xor_rg (a b : Int) : 0 ≤ bits .xor .u32 a b ∧ bits .xor .u32 a b < 4294967296 := by
  have h := bits_within .xor .u32 a b
  have h1 : IntKind.u32.min = 0 := by decide
  have h2 : IntKind.u32.max = 4294967295 := by decide
  omega
theorem keeps_any (W : World) (h : AW W) (hT : TB W) (ao : Option Addr) (m n c : Nat) (hmc : m ≤ c) (hsel : m ≤ 2048 ∧ n = m ∨ 2048 < m ∧ n = 2048) (ws : List Nat) (hl : ws.length = n) (hw : ∀ x ∈ ws, x < 4294967296) (hat : AtW W ao ws) (base : Nat) (hb : base < 4294967296) (t : Int) :
    Calls Tryz.prog 6 #[.slice ao m c, .int .u32 (base : Int), .int .i64 t] W fun x w' => x = .returned (.bool true) ∧ Below W.heap.size W w' := by
  have H8 : Hid (∀ x, Below W.heap.size W x → Calls Tryz.prog 8 #[] x fun y w' => y = .returned (.bool true) ∧ Below x.heap.size x w') := hid (fun x hx => first_any x (h.on hx))
  have n1 : (n : Int) ≤ 2048 := by omega
  have HN : Hid (ws.length = n ∧ n ≤ 2048) := hid ⟨hl, by omega⟩
  have HA := hid (fun x (hx : Below W.heap.size W x) => hat.on hx)
  have HTB := hid (fun x (hx : Below W.heap.size W x) => hT.on hx)
  have HAW := hid (fun x (hx : Below W.heap.size W x) => h.on hx)
  have HWs := hid hw
  have HP : Hid (∀ x, Below W.heap.size W x → ∀ (a : Option Addr) (k : Nat) (us : List Nat), us.length = n → (∀ y ∈ us, y < 4294967296) → AtW x a us → Calls Tryz.prog 15 #[.slice a n k, .int .u32 (base : Int)] x fun e w' => e = .returned (.tuple #[.string ⟨(A.prt us).toArray⟩, .int .i64 0]) ∧ Below x.heap.size x w') := hid (fun x hx a k us hu hlt ha => by
    have h0 := print_any x (hT.on hx) a n k us hu ha hlt (base : Int)
    have e2 : A.prtE us = 0 := by unfold A.prtE; rw [if_pos (by omega)]
    rw [e2] at h0
    exact h0)
  clear h hT hat hl hw
  go_enter Tryz.func6, Tryz.ntmps6
  go_upto_if 39 with fail
  go_cut [0] from 40 to 41 (fun v wx => v = .slice ao n c ∧ W = wx)
  case first =>
    rcases hsel with ⟨h1, rfl⟩ | ⟨h1, rfl⟩
    · have m1 : (n : Int) ≤ 2048 := by omega
      go_wp2_with fail
      go_meet
      exact ⟨rfl, rfl⟩
    · have m1 : (2048 : Int) < (m : Int) := by omega
      have m2 : (2048 : Int) ≤ (c : Int) := by omega
      go_wp2_with fail
      go_meet
      exact ⟨rfl, rfl⟩
  obtain ⟨rfl, rfl⟩ := hcut
  clear hsel hmc
  go_wp2_with (at_builtin; refine wpList_append_s rfl _ _ 24 22 rfl Tryz.underlying24 info22s rfl (by decide) (by decide) (B := W.heap.size) (n := 0) (v := .slice none 0 0) (xs := []) rfl ⟨rfl, .inl ⟨rfl, rfl⟩⟩ (Nat.le_refl _) (news := u32s ws) (p := ao) (m := n) (c := c) rfl (by rw [u32s_len, HN.out.1, Nat.mul_one]) (at_lie (HA.out _ (Below.refl _ _))) (u32s_one ws) (by omega) ?_; intro v4 w4 hal; have HK4 := hid ((KS.start W).add ⟨22, 1, .slice none 0 0, 0, []⟩ (Below.refl _ _) ⟨rfl, .inl ⟨rfl, rfl⟩⟩ |>.app 0 rfl hal); clear hal)
  have HK5 : Hid (KS W w4 [⟨22, 1, v4, n + 0, u32s ws ++ rp 0 [.int .u32 4276993775]⟩] []) := hid (by
    have := HK4.out
    simp only [Nat.zero_add, List.nil_append, List.set_cons_zero] at this
    rw [show rp 0 [.int .u32 4276993775] = [] from rfl, List.append_nil]
    exact this)
  clear HK4
  go_loopw [7, 8] (fun v i wr => ∃ k : Nat, k ≤ 300 ∧ i = .int .i64 (k : Int) ∧ Hid (KS W wr [⟨22, 1, v, n + k, u32s ws ++ rp k [.int .u32 4276993775]⟩] [])) (fun _ i _ => 300 - (intOf i).toNat)
  case atStart => exact ⟨0, Nat.zero_le _, rfl, HK5⟩
  case round =>
    clear HK5
    obtain ⟨k, hk, rfl, HK⟩ := hrel
    by_cases hlt : k < 300
    · have c1 : (k : Int) < 300 := by omega
      go_wp2_with (at_builtin; refine wpList_append_s rfl _ _ 24 22 rfl Tryz.underlying24 info22s rfl (by decide) (by decide) rfl ((HK.out.on (below_one _ (.cells #[.int .u32 4276993775] 22))).mem (i := 0) rfl) (HK.out.on (below_one _ (.cells #[.int .u32 4276993775] 22))).below.size rfl (m := 1) (st := 1) rfl (cel_new _ 22 [.int .u32 4276993775]).lie (by simp [Value.oneCell']) (by have := HN.out.2; show n + k + 1 ≤ _; omega) ?_; intro v5 w5 hal; have HK3 := hid ((HK.out.on (below_one _ (.cells #[.int .u32 4276993775] 22))).app 0 rfl hal); clear hal)
      go_roundw
      case measure => simp [intOf] <;> omega
      case rel => exact ⟨k + 1, by omega, by simp, hid (by
        have := HK3.out
        simp only [List.set_cons_zero, List.append_assoc] at this
        rw [← rp_succ, Nat.add_assoc] at this
        exact this)⟩
    · have hk3 : k = 300 := by omega
      subst hk3
      obtain ⟨aw, cw, rfl⟩ := own_frm HK.out.own0 (by decide)
      obtain ⟨gw, rfl⟩ := own_some HK.out.own0 (by omega)
      have hcw := own_cap HK.out.own0
      have cw1 : (n : Int) + 300 ≤ (cw : Int) := by omega
      have cw2 : (n : Int) ≤ (cw : Int) := by omega
      have HAt : Hid (∀ x, Below wr.heap.size wr x → AtW x (some ⟨gw, 0, none⟩) ws) := hid (fun x hx => own_at0 (own_on HK.out.own0 hx) HN.out.1)
      have HMk : Hid (∀ x, Below wr.heap.size wr x → ∀ k, n ≤ k → k < n + 300 → x.cell? ⟨gw, k, none⟩ = some (.int .u32 4276993775)) := hid (fun x hx k h1 h2 => by
        have := own_rng (own_on HK.out.own0 hx) k (.int .u32 4276993775) (by
          rw [List.getElem?_append_right (by rw [u32s_len, HN.out.1]; exact h1), u32s_len, HN.out.1]
          exact rp_get 300 _ _ (by omega))
        simpa using this)
      clear hcw hlt hk
      go_upto_region 10 with (go_at_call 15; refine (HP.out _ HK.out.below _ _ ws HN.out.1 HWs.out (HAt.out _ (Below.refl _ _))).mono ?_; rintro e w6 ⟨rfl, hb6⟩; have HK6 := hid (HK.out.on hb6); have HB6 := hid hb6; clear hb6)
      have HMk6 : Hid (∀ k, n ≤ k → k < n + 300 → w6.cell? ⟨gw, k, none⟩ = some (.int .u32 4276993775)) := hid (HMk.out w6 HB6.out)
      have HAt6 := hid (HAt.out w6 HB6.out)
      clear HK HB6 HAt HMk
      go_wp2_with fail
      go_loopw [11] (fun i wr => ∃ k : Nat, n ≤ k ∧ k ≤ n + 300 ∧ i = .int .i64 (k : Int) ∧ wr = w6) (fun i _ => n + 300 - (intOf i).toNat)
      case atStart => exact ⟨n, Nat.le_refl _, by omega, rfl, rfl⟩
      case round =>
        obtain ⟨k, hk0, hk, rfl, rfl⟩ := hrel
        by_cases hlt : k < n + 300
        · have c1 : (k : Int) < (n : Int) + 300 := by omega
          have y0 := HMk6.out k hk0 hlt
          clear hlt
          go_wp2_with fail
          go_roundw
          case measure => simp [intOf] <;> omega
          case rel => exact ⟨k + 1, by omega, by omega, by simp⟩
        · have c1 : ¬ (k : Int) < (n : Int) + 300 := by omega
          clear hlt hk hk0
          go_upto_region 15 with fail
          have HSm : Hid (∀ x, Below wr.heap.size wr x → Calls Tryz.prog 10 #[.slice (some ⟨gw, 0, none⟩) n cw, .slice ao n c] x fun y w' => y = .returned (.bool true) ∧ Below x.heap.size x w') := hid (fun x hx => by
            have h0 := same_any x ws (by have := HN.out; omega) (some ⟨gw, 0, none⟩) ao cw c (atu (HAt6.out.on hx)) (atu (HA.out x (below_on HK6.out.below hx)))
            rw [HN.out.1] at h0
            exact h0)
          go_upto_if 91 with (first | (go_at_call 10; refine (HSm.out _ (Below.refl _ _)).mono ?_; rintro e w7 ⟨rfl, hb7⟩; have HK7 := hid (HK6.out.on hb7); have HAt7 := hid (HAt6.out.on hb7); clear hb7) | (go_at_call 8; refine (H8.out w7 HK7.out.below).mono ?_; rintro e w8 ⟨rfl, hb8⟩; have HK8 := hid (HK7.out.on hb8); have HAt8 := hid (HAt7.out.on hb8); clear hb8))
          go_cut [12, 13, 14, 15, 16] from 91 to 135 (fun _ _ _ _ _ wx => Hid (KS W wx [] []))
          case first =>
            by_cases hz : n = 0
            · have z1 : ¬ (0 : Int) < (n : Int) := by omega
              clear hz
              go_wp2_with fail
              go_meet
              exact hid HK8.out.tail
            · as_aux_lemma =>
                have z1 : 0 < n := by omega
                go_upto_region 18 with fail
                clear z1
                have hlt : n / 2 < ws.length := by have := HN.out.1; omega
                obtain ⟨x, hx⟩ : ∃ x, ws[n / 2] = x := ⟨_, rfl⟩
                have y0 : w8.cell? ⟨gw, n / 2, none⟩ = some (.int .u32 (x : Int)) := by
                  rcases HAt8.out with h0 | ⟨b, o, he, _, hc⟩
                  · rw [h0] at hlt; simp at hlt
                  · injection he with he
                    injection he with h1 h2
                    subst h1 h2
                    have := hc (n / 2) hlt
                    rw [Nat.zero_add, hx] at this
                    exact this
                have x1 : (x : Int) < 4294967296 := by have := HWs.out x (hx ▸ List.getElem_mem hlt); omega
                have yf := own_free HK8.out.own0 (n / 2)
                have HN2 := hid hlt
                clear hx hz hlt
                go_upto_region 19 with fail
                have hxr := xor_rg (if IntKind.u32.signed = true then -1 else IntKind.u32.max) (x : Int)
                obtain ⟨x', hx'⟩ : ∃ x' : Nat, bits .xor .u32 (if IntKind.u32.signed = true then -1 else IntKind.u32.max) (x : Int) = (x' : Int) := ⟨_, (Int.toNat_of_nonneg hxr.1).symm⟩
                rw [hx'] at hxr ⊢
                have HUs : Hid ((ws.set (n / 2) x').length = n ∧ ∀ y ∈ ws.set (n / 2) x', y < 4294967296) := hid ⟨by rw [List.length_set]; exact HN.out.1, fun y hy => by
                  rcases List.mem_or_eq_of_mem_set hy with h | rfl
                  · exact HWs.out y h
                  · have := hxr.2; omega⟩
                have HK9 : Hid (KS W (w8.setCell ⟨gw, n / 2, none⟩ (.int .u32 (x' : Int))) [⟨22, 1, .slice (some ⟨gw, 0, none⟩) (n + 300) cw, n + 300, u32s (ws.set (n / 2) x') ++ rp 300 [.int .u32 4276993775]⟩] []) := hid (by
                  have := HK8.out.set1 0 rfl (n / 2) (.int .u32 (x' : Int))
                  rw [List.set_append_left _ _ (by rw [u32s_len]; exact HN2.out)] at this
                  have e : (u32s ws).set (n / 2) (.int .u32 (x' : Int)) = u32s (ws.set (n / 2) x') := by simp [u32s, List.map_set]
                  rw [e] at this
                  exact this)
                clear HK8 HAt8 y0 yf hx' hxr x1 HN2
                generalize ws.set (n / 2) x' = us at *
                generalize w8.setCell _ _ = w9 at *
                have HAu : Hid (∀ x, Below w9.heap.size w9 x → AtW x (some ⟨gw, 0, none⟩) us) := hid (fun x hx => own_at0 (own_on HK9.out.own0 hx) HUs.out.1)
                go_upto_region 21 with (go_at_call 15; refine (HP.out _ HK9.out.below _ _ us HUs.out.1 HUs.out.2 (HAu.out _ (Below.refl _ _))).mono ?_; rintro e w10 ⟨rfl, hb10⟩; have HB10 := hid hb10; have HKa := hid (HK9.out.on hb10); clear hb10)
                go_upto_region 22 with (at_builtin; refine wpList_append_s rfl _ _ 24 22 rfl Tryz.underlying24 info22s rfl (by decide) (by decide) (B := W.heap.size) (n := 0) (v := .slice none 0 0) (xs := []) rfl ⟨rfl, .inl ⟨rfl, rfl⟩⟩ HKa.out.below.size (news := u32s us) (p := some ⟨gw, 0, none⟩) (m := n) (c := cw) rfl (by rw [u32s_len, HUs.out.1, Nat.mul_one]) (at_lie (HAu.out _ HB10.out)) (u32s_one us) (by have := HN.out.2; omega) ?_; intro vm w11 hal; have HKb := hid ((HKa.out.add ⟨22, 1, .slice none 0 0, 0, []⟩ (Below.refl _ _) ⟨rfl, .inl ⟨rfl, rfl⟩⟩).app 0 rfl hal); clear hal)
                have HKb2 : Hid (KS W w11 [⟨22, 1, vm, n, u32s us⟩, ⟨22, 1, .slice (some ⟨gw, 0, none⟩) (n + 300) cw, n + 300, u32s us ++ rp 300 [.int .u32 4276993775]⟩] []) := hid (by
                  have := HKb.out
                  simp only [Nat.zero_add, List.nil_append, List.set_cons_zero] at this
                  exact this)
                clear HKb
                obtain ⟨am, cm, rfl⟩ := own_frm HKb2.out.own0 (by decide)
                have HAm : Hid (AtW w11 am us) := hid (own_at0 (k := 0) (ys := []) (by rw [Nat.add_zero, List.append_nil]; exact HKb2.out.own0) HUs.out.1)
                go_wp2_with (go_at_call 15; refine (HP.out _ HKb2.out.below _ _ us HUs.out.1 HUs.out.2 HAm.out).mono ?_; rintro e w12 ⟨rfl, hb12⟩; have HKc := hid (HKb2.out.on hb12); clear hb12)
                go_meet
                exact hid HKc.out.tail.tail
          clear HK6 HMk6 HAt6 HSm c1 cw1 cw2 HP H8 HTB
          obtain ⟨rr, r2, r6, hwi⟩ := wi2_any t
          have HWi := hid hwi
          have rr1 : (rr : Int) ≤ 6 := by omega
          have HKb := hid (kb_start hcut.out n)
          have H9 : Hid (∀ x, Below W.heap.size W x → Calls Tryz.prog 9 #[.string ⟨(A.prt ws).toArray⟩, .int .u32 (base : Int)] x fun y w' => ∃ a c', y = .returned (.tuple #[.slice a n c', .agg #[.int .i64 0, .int .i64 0, .int .i64 0]]) ∧ w'.ownsRow x.heap.size 22 1 (.slice a n c') n (u32s ws) ∧ UAt w' a ws ∧ Below x.heap.size x w') := hid (fun x hx => asmk_any x (HAW.out x hx) n ws HN.out.1 HN.out.2 HWs.out base hb)
          have H13 : Hid (∀ x, Below W.heap.size W x → Calls Tryz.prog 13 #[.string ⟨#[112, 58, 32, 113, 58, 32, 115, 118, 99, 32, 48, 10, 114, 58, 32, 119, 111, 114, 100, 32, 112, 10, 115, 58]⟩] x fun y w' => ∃ g c', y = .returned (.tuple #[.slice (some ⟨g, 0, none⟩) 4 c', .agg #[.int .i64 0, .int .i64 0, .int .i64 0]]) ∧ w'.ownsRow x.heap.size 43 2 (.slice (some ⟨g, 0, none⟩) 4 c') 4 (labsC lab4) ∧ Below x.heap.size x w') := hid (fun x hx => labk_any x (HAW.out x hx))
          clear hwi hcut HAW hb
          generalize (⟨(A.prt ws).toArray⟩ : ByteArray) = st at *
          go_upto_region 29 with fail
          go_loopw [17, 18, 19, 20, 21, 22, 23, 24, 25, 26, 27, 28, 29, 30, 31, 32, 33, 34, 35, 36] (fun vB vN vL tt _ _ _ _ _ _ _ _ _ _ _ _ _ _ _ _ wr => ∃ (j : Nat) (Ks : List Kp), j ≤ 3 ∧ tt = .int .i64 ((2 * j : Nat) : Int) ∧ Ks.length = 2 * j ∧ Hid ((∀ (i : Nat) (k : Kp), Ks[i]? = some k → k.i = i) ∧ KS W wr (kb vB vN vL Ks) (Ks.flatMap (Kp.hs n)))) (fun _ _ _ tt _ _ _ _ _ _ _ _ _ _ _ _ _ _ _ _ _ => 10 - (intOf tt).toNat)
          case atStart => exact ⟨0, [], by omega, rfl, rfl, hid ⟨fun i k h => by simp at h, HKb.out⟩⟩
          case round =>
            clear HKb
            obtain ⟨j, Ks, hj, rfl, hKl, HK⟩ := hrel
            by_cases hlt : 2 * j < rr
            · as_aux_lemma =>
                have q1 : ((2 * j : Nat) : Int) < (rr : Int) := by omega
                have hj3 : j < 3 := by omega
                obtain ⟨tj, htj⟩ : ∃ tj, tj = 2 * j := ⟨_, rfl⟩
                rw [← htj] at q1 hKl ⊢
                have HTJ := hid htj
                clear htj hlt
                go_upto_region 31 with (go_at_call 17; refine (HWi.out _).mono ?_; rintro e w1 ⟨rfl, rfl⟩)
                have HKt : Hid (KS W wr ((⟨24, 1, .slice none 0 0, 0, []⟩ : Rr) :: ⟨39, 1, .slice none 0 0, 0, []⟩ :: kb u17 u18 u19 Ks) (Ks.flatMap (Kp.hs n))) := hid (((HK.out.2.add ⟨39, 1, .slice none 0 0, 0, []⟩ (Below.refl _ _) ⟨rfl, .inl ⟨rfl, rfl⟩⟩).add ⟨24, 1, .slice none 0 0, 0, []⟩ (Below.refl _ _) ⟨rfl, .inl ⟨rfl, rfl⟩⟩))
                go_upto_region 34 with fail
                go_loopw [21, 22, 23, 24, 25, 26, 27] (fun v1 v2 kk _ _ _ _ wr => ∃ ds : List Dq, ds.length ≤ 2 ∧ kk = .int .i64 (ds.length : Int) ∧ Hid (KS W wr (two v1 v2 ds ++ (ds.flatMap (Dq.rows n ws) ++ kb u17 u18 u19 Ks)) (Ks.flatMap (Kp.hs n)))) (fun _ _ kk _ _ _ _ _ => 3 - (intOf kk).toNat)
                case atStart => exact ⟨[], by decide, rfl, HKt⟩
                case round =>
                  clear HKt
                  obtain ⟨ds, hds, rfl, HK0⟩ := hrel
                  obtain ⟨k, hk⟩ : ∃ k, ds.length = k := ⟨_, rfl⟩
                  have HDK := hid hk
                  rw [hk] at hds ⊢
                  by_cases hlt : k < 2
                  · as_aux_lemma =>
                      have q2 : (k : Int) < 2 := by omega
                      clear hlt hk
                      go_upto_region 37 with (go_at_call 9; refine (H9.out _ HK0.out.below).mono ?_; rintro e w2 ⟨a1, c1, rfl, ho1, hu1, hb1⟩; have HK1 := hid (HK0.out.add ⟨22, 1, .slice a1 n c1, n, u32s ws⟩ hb1 ho1); have HU1 := hid hu1; clear ho1 hu1 hb1)
                      have HK2 := hid (HK1.out.box 27 [.int .i64 0, .int .i64 0, .int .i64 0])
                      have HU2 := hid (HU1.out.on (below_one w2 (.cells #[.int .i64 0, .int .i64 0, .int .i64 0] 27)))
                      clear HK1 HU1 HK0
                      generalize World.alloc w2 _ = w3 at *
                      generalize w2.heap.size = g5 at *
                      go_upto_region 38 with (go_at_call 13; refine (H13.out _ HK2.out.below).mono ?_; rintro e w4 ⟨g4, c4, rfl, ho4, hb4⟩; have HK3 := hid (HK2.out.add ⟨43, 2, .slice (some ⟨g4, 0, none⟩) 4 c4, 4, labsC lab4⟩ hb4 ho4); have HU3 := hid (HU2.out.on hb4); clear ho4 hb4 HK2 HU2)
                      have HK4 := hid (HK3.out.box 27 [.int .i64 0, .int .i64 0, .int .i64 0])
                      have HU4 := hid (HU3.out.on (below_one w4 (.cells #[.int .i64 0, .int .i64 0, .int .i64 0] 27)))
                      clear HK3 HU3
                      generalize World.alloc w4 _ = w5 at *
                      generalize w4.heap.size = g7 at *
                      have HS2 : Hid (Calls Tryz.prog 10 #[.slice a1 n c1, .slice ao n c] w5 fun y w' => y = .returned (.bool true) ∧ Below w5.heap.size w5 w') := hid (by
                        have h0 := same_any w5 ws (by have := HN.out; omega) a1 ao c1 c HU4.out (atu (HA.out w5 HK4.out.below))
                        rw [HN.out.1] at h0
                        exact h0)
                      have y5 : w5.cell? ⟨g5, 0, none⟩ = some (.int .i64 0) := (HK4.out.cel 2 rfl).cell 0
                      clear HU4
                      go_upto_if 202 with (go_at_call 10; refine HS2.out.mono ?_; rintro e w6 ⟨rfl, hb6⟩; have HK5 := hid (HK4.out.on hb6); have y7 : w6.cell? ⟨g7, 0, none⟩ = some (.int .i64 0) := (HK5.out.cel 0 rfl).cell 0; have HZ := hid (own_rng (HK5.out.mem (i := 1) rfl)); have z0 : w6.cell? ⟨g4, 0, none⟩ = some (.string ⟨#[112]⟩) := HZ.out 0 _ rfl; have z4 : w6.cell? ⟨g4, 4, none⟩ = some (.string ⟨#[114]⟩) := HZ.out 4 _ rfl; have z5 : w6.cell? ⟨g4, 5, none⟩ = some (.int .i64 1) := HZ.out 5 _ rfl; have z7 : w6.cell? ⟨g4, 7, none⟩ = some (.int .i64 2) := HZ.out 7 _ rfl; clear hb6 HK4 HS2 y5)
                      have HK6 : Hid (KS W w6 (⟨24, 1, u21, ds.length, ds.map (·.l)⟩ :: ⟨39, 1, u22, ds.length, ds.map (·.a)⟩ :: ⟨22, 1, .slice a1 n c1, n, u32s ws⟩ :: ⟨43, 2, .slice (some ⟨g4, 0, none⟩) 4 c4, 4, labsC lab4⟩ :: (ds.flatMap (Dq.rows n ws) ++ kb u17 u18 u19 Ks)) (Ks.flatMap (Kp.hs n))) := hid (two_ready (HK5.out.tail.er 1))
                      clear HK5 HZ y7 z0 z4 z5 z7
                      go_upto_region 41 with (at_builtin; refine wpList_append_s rfl _ _ 53 24 rfl Tryz.underlying53 info24s rfl (by decide) (by decide) rfl ((HK6.out.on (below_one _ (.cells #[.slice a1 n c1] 24))).mem (i := 0) rfl) (HK6.out.on (below_one _ (.cells #[.slice a1 n c1] 24))).below.size rfl (m := 1) (st := 1) rfl (cel_new _ 24 [.slice a1 n c1]).lie (by simp [Value.oneCell']) (by have := HDK.out; show ds.length + 1 ≤ _; omega) ?_; intro v8 w8b hal; have HK6b := hid ((HK6.out.on (below_one _ (.cells #[.slice a1 n c1] 24))).app 0 rfl hal); clear hal)
                      have HK7b : Hid (KS W w8b (⟨24, 1, v8, ds.length + 1, ds.map (·.l) ++ [.slice a1 n c1]⟩ :: ⟨39, 1, u22, ds.length, ds.map (·.a)⟩ :: ⟨22, 1, .slice a1 n c1, n, u32s ws⟩ :: ⟨43, 2, .slice (some ⟨g4, 0, none⟩) 4 c4, 4, labsC lab4⟩ :: (ds.flatMap (Dq.rows n ws) ++ kb u17 u18 u19 Ks)) (Ks.flatMap (Kp.hs n))) := hid HK6b.out
                      clear HK6 HK6b
                      go_wp2_with (at_builtin; refine wpList_append_s rfl _ _ 51 39 rfl Tryz.underlying51 info39s rfl (by decide) (by decide) rfl ((HK7b.out.on (below_one _ (.cells #[.slice (some ⟨g4, 0, none⟩) 4 c4] 39))).mem (i := 1) rfl) (HK7b.out.on (below_one _ (.cells #[.slice (some ⟨g4, 0, none⟩) 4 c4] 39))).below.size rfl (m := 1) (st := 1) rfl (cel_new _ 39 [.slice (some ⟨g4, 0, none⟩) 4 c4]).lie (by simp [Value.oneCell']) (by have := HDK.out; show ds.length + 1 ≤ _; omega) ?_; intro v9 w9b hal; have HK8b := hid ((HK7b.out.on (below_one _ (.cells #[.slice (some ⟨g4, 0, none⟩) 4 c4] 39))).app 1 rfl hal); clear hal)
                      have HK9b : Hid (KS W w9b (⟨24, 1, v8, ds.length + 1, ds.map (·.l) ++ [.slice a1 n c1]⟩ :: ⟨39, 1, v9, ds.length + 1, ds.map (·.a) ++ [.slice (some ⟨g4, 0, none⟩) 4 c4]⟩ :: ⟨22, 1, .slice a1 n c1, n, u32s ws⟩ :: ⟨43, 2, .slice (some ⟨g4, 0, none⟩) 4 c4, 4, labsC lab4⟩ :: (ds.flatMap (Dq.rows n ws) ++ kb u17 u18 u19 Ks)) (Ks.flatMap (Kp.hs n))) := hid HK8b.out
                      go_roundw
                      case measure => simp [intOf] <;> omega
                      case rel => exact ⟨ds ++ [⟨.slice a1 n c1, .slice (some ⟨g4, 0, none⟩) 4 c4⟩], by rw [List.length_append, HDK.out]; show k + 1 ≤ 2; omega, by rw [List.length_append, HDK.out]; simp, hid (two_add (d := ⟨.slice a1 n c1, .slice (some ⟨g4, 0, none⟩) 4 c4⟩) rfl HK9b.out)⟩
                  · as_aux_lemma =>
                      have q2 : ¬ (k : Int) < 2 := by omega
                      have HD2 : Hid (ds.length = 2) := hid (by have := HDK.out; omega)
                      have HKu : Hid (KS W wr (kb u17 u18 u19 Ks ++ (⟨24, 1, u21, 2, ds.map (·.l)⟩ :: ⟨39, 1, u22, 2, ds.map (·.a)⟩ :: (ds.drop 0).flatMap (Dq.rows n ws))) (Ks.flatMap (Kp.hs n))) := hid (by
                        have h := two_done HK0.out
                        unfold two at h
                        rw [HD2.out] at h
                        rw [List.drop_zero]
                        exact h)
                      clear HK0 HDK hk hlt hds
                      have o3 : wr.ownsRow W.heap.size 24 1 u21 2 (ds.map (·.l)) := HKu.out.mem (i := 3) rfl
                      have o4 : wr.ownsRow W.heap.size 39 1 u22 2 (ds.map (·.a)) := HKu.out.mem (i := 4) rfl
                      obtain ⟨a21, c21, rfl⟩ := own_frm o3 (by decide)
                      obtain ⟨g21, rfl⟩ := own_some o3 (by decide)
                      obtain ⟨a22, c22, rfl⟩ := own_frm o4 (by decide)
                      obtain ⟨g22, rfl⟩ := own_some o4 (by decide)
                      clear o3 o4
                      go_upto_region 43 with fail
                      go_loopw [17, 18, 19, 28, 29, 30, 31, 32, 33, 34] (fun vB vN vL kk _ _ _ _ _ _ wr => ∃ (k : Nat) (Ks' : List Kp), k ≤ 2 ∧ kk = .int .i64 (k : Int) ∧ Ks'.length = tj + k ∧ Hid ((∀ (i : Nat) (q : Kp), Ks'[i]? = some q → q.i = i) ∧ KS W wr (kb vB vN vL Ks' ++ (⟨24, 1, .slice (some ⟨g21, 0, none⟩) 2 c21, 2, ds.map (·.l)⟩ :: ⟨39, 1, .slice (some ⟨g22, 0, none⟩) 2 c22, 2, ds.map (·.a)⟩ :: (ds.drop k).flatMap (Dq.rows n ws))) (Ks'.flatMap (Kp.hs n)))) (fun _ _ _ kk _ _ _ _ _ _ _ => 3 - (intOf kk).toNat)
                      case atStart => exact ⟨0, Ks, by omega, rfl, by omega, hid ⟨HK.out.1, HKu.out⟩⟩
                      case round =>
                        clear HKu HK
                        obtain ⟨k2, Ks2, hk2, rfl, hKl2, HK9⟩ := hrel
                        by_cases hlt : k2 < 2
                        · as_aux_lemma =>
                            have q3 : (k2 : Int) < 2 := by omega
                            obtain ⟨⟨dl, da⟩, hd⟩ : ∃ d, ds[k2]? = some d := ⟨_, List.getElem?_eq_getElem (by rw [HD2.out]; exact hlt)⟩
                            obtain ⟨X, hX⟩ : ∃ X, (ds.drop (k2 + 1)).flatMap (Dq.rows n ws) = X := ⟨_, rfl⟩
                            have hdr : ds.drop k2 = ⟨dl, da⟩ :: ds.drop (k2 + 1) := by
                              obtain ⟨hk, he⟩ := List.getElem?_eq_some_iff.1 hd
                              rw [List.drop_eq_getElem_cons hk, he]
                            have HK10 : Hid (KS W wr (⟨55, 3, u17, Ks2.length, Ks2.flatMap Kp.cs⟩ :: ⟨39, 1, u18, Ks2.length, Ks2.map (·.a)⟩ :: ⟨39, 1, u19, Ks2.length, Ks2.map (·.b)⟩ :: ⟨24, 1, .slice (some ⟨g21, 0, none⟩) 2 c21, 2, ds.map (·.l)⟩ :: ⟨39, 1, .slice (some ⟨g22, 0, none⟩) 2 c22, 2, ds.map (·.a)⟩ :: ⟨22, 1, dl, n, u32s ws⟩ :: ⟨43, 2, da, 4, labsC lab4⟩ :: X) (Ks2.flatMap (Kp.hs n))) := hid (by
                              have h := HK9.out.2
                              rw [hdr, List.flatMap_cons, hX] at h
                              exact h)
                            have HX := hid hX
                            have HI := hid HK9.out.1
                            have HKL := hid hKl2
                            clear HK9 hX hdr
                            have o3 : wr.ownsRow W.heap.size 22 1 dl n (u32s ws) := HK10.out.mem (i := 5) rfl
                            have o4 : wr.ownsRow W.heap.size 43 2 da 4 (labsC lab4) := HK10.out.mem (i := 6) rfl
                            obtain ⟨a1, c1, rfl⟩ := own_frm o3 (by decide)
                            obtain ⟨a2, c4, rfl⟩ := own_frm o4 (by decide)
                            obtain ⟨g4, rfl⟩ := own_some o4 (by decide)
                            clear o3 o4
                            have y1 : wr.cell? ⟨g21, k2, none⟩ = some (.slice a1 n c1) := by
                              have := own_rng (HK10.out.mem (i := 3) rfl) k2 (.slice a1 n c1) (by simp [hd])
                              simpa using this
                            have y2 : wr.cell? ⟨g22, k2, none⟩ = some (.slice (some ⟨g4, 0, none⟩) 4 c4) := by
                              have := own_rng (HK10.out.mem (i := 4) rfl) k2 (.slice (some ⟨g4, 0, none⟩) 4 c4) (by simp [hd])
                              simpa using this
                            have t4 : (tj : Int) ≤ 4 := by have := HTJ.out; omega
                            clear hlt hd
                            go_upto_region 48 with fail
                            obtain ⟨ii, hii⟩ : ∃ ii, ii = tj + k2 := ⟨_, rfl⟩
                            have em : (tj : Int) + (k2 : Int) = ((ii : Nat) : Int) := by omega
                            have em7 : (ii : Int) + 7 = ((ii + 7 : Nat) : Int) := by omega
                            have HII := hid hii
                            rw [em, em7]
                            have HK11 := hid (HK10.out.box 55 [.slice a1 n c1, .slice none 0 0, .int .u32 ((ii + 7 : Nat) : Int)])
                            clear HK10 y1 y2 hii em7
                            generalize World.alloc wr _ = w11 at *
                            generalize wr.heap.size = g5 at *
                            go_upto_region 49 with fail
                            have HF0 : Hid (KS W w11 (bx 55 g5 [.slice a1 n c1, .slice none 0 0, .int .u32 ((ii + 7 : Nat) : Int)] :: ⟨55, 3, u17, Ks2.length, Ks2.flatMap Kp.cs⟩ :: ⟨39, 1, u18, Ks2.length, Ks2.map (·.a)⟩ :: ⟨39, 1, u19, Ks2.length, Ks2.map (·.b)⟩ :: ⟨24, 1, .slice (some ⟨g21, 0, none⟩) 2 c21, 2, ds.map (·.l)⟩ :: ⟨39, 1, .slice (some ⟨g22, 0, none⟩) 2 c22, 2, ds.map (·.a)⟩ :: ⟨22, 1, .slice a1 n c1, n, fl1 (.int .u32 ((ii + 7 : Nat) : Int)) (u32s ws) 0⟩ :: ⟨43, 2, .slice (some ⟨g4, 0, none⟩) 4 c4, 4, labsC lab4⟩ :: X) (Ks2.flatMap (Kp.hs n))) := hid (by rw [fl1_0]; exact HK11.out)
                            clear HK11
                            go_loopw [32] (fun i wr => ∃ j : Nat, j ≤ n ∧ i = .int .i64 (j : Int) ∧ Hid (KS W wr (bx 55 g5 [.slice a1 n c1, .slice none 0 0, .int .u32 ((ii + 7 : Nat) : Int)] :: ⟨55, 3, u17, Ks2.length, Ks2.flatMap Kp.cs⟩ :: ⟨39, 1, u18, Ks2.length, Ks2.map (·.a)⟩ :: ⟨39, 1, u19, Ks2.length, Ks2.map (·.b)⟩ :: ⟨24, 1, .slice (some ⟨g21, 0, none⟩) 2 c21, 2, ds.map (·.l)⟩ :: ⟨39, 1, .slice (some ⟨g22, 0, none⟩) 2 c22, 2, ds.map (·.a)⟩ :: ⟨22, 1, .slice a1 n c1, n, fl1 (.int .u32 ((ii + 7 : Nat) : Int)) (u32s ws) j⟩ :: ⟨43, 2, .slice (some ⟨g4, 0, none⟩) 4 c4, 4, labsC lab4⟩ :: X) (Ks2.flatMap (Kp.hs n)))) (fun i _ => n - (intOf i).toNat)
                            case atStart => exact ⟨0, Nat.zero_le _, rfl, HF0⟩
                            case round =>
                              clear HF0
                              obtain ⟨j, hj, rfl, HK12⟩ := hrel
                              by_cases hlt : j < n
                              · have q4 : (j : Int) < (n : Int) := by omega
                                have o3 : wr.ownsRow W.heap.size 22 1 (.slice a1 n c1) n (fl1 (.int .u32 ((ii + 7 : Nat) : Int)) (u32s ws) j) := HK12.out.mem (i := 6) rfl
                                obtain ⟨ga, rfl⟩ := own_some o3 (by omega)
                                have hle : j < (u32s ws).length := by rw [u32s_len, HN.out.1]; exact hlt
                                obtain ⟨uu, huu⟩ : ∃ uu, (fl1 (.int .u32 ((ii + 7 : Nat) : Int)) (u32s ws) j)[j]? = some uu := ⟨_, List.getElem?_eq_getElem (by rw [fl1_len _ _ _ (by omega)]; exact hle)⟩
                                have y0 : wr.cell? ⟨ga, j, none⟩ = some uu := by
                                  have := own_rng o3 j uu huu
                                  simpa using this
                                have yf := own_free o3 j
                                have y5 : wr.cell? ⟨g5, 2, none⟩ = some (.int .u32 ((ii + 7 : Nat) : Int)) := (HK12.out.cel 0 rfl).cell 2
                                have HK13 : Hid (KS W (wr.setCell ⟨ga, j, none⟩ (.int .u32 ((ii + 7 : Nat) : Int))) (bx 55 g5 [.slice (some ⟨ga, 0, none⟩) n c1, .slice none 0 0, .int .u32 ((ii + 7 : Nat) : Int)] :: ⟨55, 3, u17, Ks2.length, Ks2.flatMap Kp.cs⟩ :: ⟨39, 1, u18, Ks2.length, Ks2.map (·.a)⟩ :: ⟨39, 1, u19, Ks2.length, Ks2.map (·.b)⟩ :: ⟨24, 1, .slice (some ⟨g21, 0, none⟩) 2 c21, 2, ds.map (·.l)⟩ :: ⟨39, 1, .slice (some ⟨g22, 0, none⟩) 2 c22, 2, ds.map (·.a)⟩ :: ⟨22, 1, .slice (some ⟨ga, 0, none⟩) n c1, n, fl1 (.int .u32 ((ii + 7 : Nat) : Int)) (u32s ws) (j + 1)⟩ :: ⟨43, 2, .slice (some ⟨g4, 0, none⟩) 4 c4, 4, labsC lab4⟩ :: X) (Ks2.flatMap (Kp.hs n))) := hid (by
                                  have := HK12.out.set1 6 rfl j (.int .u32 ((ii + 7 : Nat) : Int))
                                  rw [fl1_set _ _ _ hle] at this
                                  exact this)
                                clear HK12 o3 huu hle hlt
                                go_wp2_with fail
                                go_roundw
                                case measure => simp [intOf] <;> omega
                                case rel => exact ⟨j + 1, by omega, by simp, HK13⟩
                              · as_aux_lemma =>
                                  have hjn : n = j := by omega
                                  subst hjn
                                  have HK12b : Hid (KS W wr (bx 55 g5 [.slice a1 n c1, .slice none 0 0, .int .u32 ((ii + 7 : Nat) : Int)] :: ⟨55, 3, u17, Ks2.length, Ks2.flatMap Kp.cs⟩ :: ⟨39, 1, u18, Ks2.length, Ks2.map (·.a)⟩ :: ⟨39, 1, u19, Ks2.length, Ks2.map (·.b)⟩ :: ⟨24, 1, .slice (some ⟨g21, 0, none⟩) 2 c21, 2, ds.map (·.l)⟩ :: ⟨39, 1, .slice (some ⟨g22, 0, none⟩) 2 c22, 2, ds.map (·.a)⟩ :: ⟨22, 1, .slice a1 n c1, n, rp n [.int .u32 ((ii + 7 : Nat) : Int)]⟩ :: ⟨43, 2, .slice (some ⟨g4, 0, none⟩) 4 c4, 4, labsC lab4⟩ :: X) (Ks2.flatMap (Kp.hs n))) := hid (by
                                    have := HK12.out
                                    rw [fl1_all _ _ _ (by rw [u32s_len, HN.out.1])] at this
                                    exact this)
                                  clear HK12 hlt hj
                                  have y5 : wr.cell? ⟨g5, 2, none⟩ = some (.int .u32 ((ii + 7 : Nat) : Int)) := (HK12b.out.cel 0 rfl).cell 2
                                  go_upto_region 52 with fail
                                  go_upto_region 53 with (at_builtin; refine wpList_append_s rfl _ _ 24 22 rfl Tryz.underlying24 info22s rfl (by decide) (by decide) rfl ((HK12b.out.on (below_one _ (.cells #[.int .u32 ((ii + 7 : Nat) : Int)] 22))).mem (i := 6) rfl) (HK12b.out.on (below_one _ (.cells #[.int .u32 ((ii + 7 : Nat) : Int)] 22))).below.size rfl (m := 1) (st := 1) rfl (cel_new _ 22 [.int .u32 ((ii + 7 : Nat) : Int)]).lie (by simp [Value.oneCell']) (by have := HN.out.2; show n + 1 ≤ _; omega) ?_; intro vm w13 hal; have HK14 := hid ((HK12b.out.on (below_one _ (.cells #[.int .u32 ((ii + 7 : Nat) : Int)] 22))).keepAt 6 rfl rfl hal); have y7 : w13.cell? ⟨g5, 1, none⟩ = some (.slice none 0 0) := (HK14.out.cel 0 rfl).cell 1; have yf := own_free (HK14.out.mem (i := 0) rfl) 1; obtain ⟨am, cm, rfl⟩ := two_frm hal (by decide); clear hal y5)
                                  have HK15 : Hid (KS W (w13.setCell ⟨g5, 1, none⟩ (.slice am (n + 1) cm)) (bx 55 g5 [.slice a1 n c1, .slice am (n + 1) cm, .int .u32 ((ii + 7 : Nat) : Int)] :: ⟨55, 3, u17, Ks2.length, Ks2.flatMap Kp.cs⟩ :: ⟨39, 1, u18, Ks2.length, Ks2.map (·.a)⟩ :: ⟨39, 1, u19, Ks2.length, Ks2.map (·.b)⟩ :: ⟨24, 1, .slice (some ⟨g21, 0, none⟩) 2 c21, 2, ds.map (·.l)⟩ :: ⟨39, 1, .slice (some ⟨g22, 0, none⟩) 2 c22, 2, ds.map (·.a)⟩ :: ⟨43, 2, .slice (some ⟨g4, 0, none⟩) 4 c4, 4, labsC lab4⟩ :: X) (⟨22, 1, .slice a1 n c1, .slice am (n + 1) cm, n, n + 1, [.int .u32 ((ii + 7 : Nat) : Int)]⟩ :: Ks2.flatMap (Kp.hs n))) := hid (HK14.out.setj 0 rfl 1 (.slice am (n + 1) cm))
                                  clear HK12b HK14 y7 yf
                                  generalize World.setCell w13 _ _ = w15 at *
                                  have y5 : w15.cell? ⟨g5, 0, none⟩ = some (.slice a1 n c1) := (HK15.out.cel 0 rfl).cell 0
                                  have y6 : w15.cell? ⟨g5, 1, none⟩ = some (.slice am (n + 1) cm) := (HK15.out.cel 0 rfl).cell 1
                                  have y7 : w15.cell? ⟨g5, 2, none⟩ = some (.int .u32 ((ii + 7 : Nat) : Int)) := (HK15.out.cel 0 rfl).cell 2
                                  go_upto_region 54 with (at_builtin; refine wpList_append_s rfl _ _ 50 55 rfl Tryz.underlying50 info55s rfl (by decide) (by decide) rfl ((HK15.out.on (below_one _ (.cells #[.slice a1 n c1, .slice am (n + 1) cm, .int .u32 ((ii + 7 : Nat) : Int)] 55))).mem (i := 1) rfl) (HK15.out.on (below_one _ (.cells #[.slice a1 n c1, .slice am (n + 1) cm, .int .u32 ((ii + 7 : Nat) : Int)] 55))).below.size rfl (m := 1) (st := 3) rfl (cel_new _ 55 [.slice a1 n c1, .slice am (n + 1) cm, .int .u32 ((ii + 7 : Nat) : Int)]).lie (by simp [Value.oneCell']) (by have := HKL.out; show Ks2.length + 1 ≤ _; omega) ?_; intro v17 w16 hal; have HK16 := hid ((HK15.out.on (below_one _ (.cells #[.slice a1 n c1, .slice am (n + 1) cm, .int .u32 ((ii + 7 : Nat) : Int)] 55))).app 1 rfl hal); clear hal)
                                  have HK17 : Hid (KS W w16 (⟨55, 3, v17, Ks2.length + 1, Ks2.flatMap Kp.cs ++ [.slice a1 n c1, .slice am (n + 1) cm, .int .u32 ((ii + 7 : Nat) : Int)]⟩ :: ⟨39, 1, u18, Ks2.length, Ks2.map (·.a)⟩ :: ⟨39, 1, u19, Ks2.length, Ks2.map (·.b)⟩ :: ⟨24, 1, .slice (some ⟨g21, 0, none⟩) 2 c21, 2, ds.map (·.l)⟩ :: ⟨39, 1, .slice (some ⟨g22, 0, none⟩) 2 c22, 2, ds.map (·.a)⟩ :: ⟨43, 2, .slice (some ⟨g4, 0, none⟩) 4 c4, 4, labsC lab4⟩ :: X) (⟨22, 1, .slice a1 n c1, .slice am (n + 1) cm, n, n + 1, [.int .u32 ((ii + 7 : Nat) : Int)]⟩ :: Ks2.flatMap (Kp.hs n))) := hid HK16.out.tail
                                  clear HK15 HK16 y5 y6 y7
                                  go_upto_region 55 with fail
                                  have HF0 : Hid (KS W w16 (⟨55, 3, v17, Ks2.length + 1, Ks2.flatMap Kp.cs ++ [.slice a1 n c1, .slice am (n + 1) cm, .int .u32 ((ii + 7 : Nat) : Int)]⟩ :: ⟨39, 1, u18, Ks2.length, Ks2.map (·.a)⟩ :: ⟨39, 1, u19, Ks2.length, Ks2.map (·.b)⟩ :: ⟨24, 1, .slice (some ⟨g21, 0, none⟩) 2 c21, 2, ds.map (·.l)⟩ :: ⟨39, 1, .slice (some ⟨g22, 0, none⟩) 2 c22, 2, ds.map (·.a)⟩ :: ⟨43, 2, .slice (some ⟨g4, 0, none⟩) 4 c4, 4, fls [.string ⟨#[35]⟩, .int .i64 (ii : Int)] 2 (labsC lab4) 0⟩ :: X) (⟨22, 1, .slice a1 n c1, .slice am (n + 1) cm, n, n + 1, [.int .u32 ((ii + 7 : Nat) : Int)]⟩ :: Ks2.flatMap (Kp.hs n))) := hid (by rw [fls_0]; exact HK17.out)
                                  clear HK17
                                  go_loopw [33] (fun i wr => ∃ j : Nat, j ≤ 4 ∧ i = .int .i64 (j : Int) ∧ Hid (KS W wr (⟨55, 3, v17, Ks2.length + 1, Ks2.flatMap Kp.cs ++ [.slice a1 n c1, .slice am (n + 1) cm, .int .u32 ((ii + 7 : Nat) : Int)]⟩ :: ⟨39, 1, u18, Ks2.length, Ks2.map (·.a)⟩ :: ⟨39, 1, u19, Ks2.length, Ks2.map (·.b)⟩ :: ⟨24, 1, .slice (some ⟨g21, 0, none⟩) 2 c21, 2, ds.map (·.l)⟩ :: ⟨39, 1, .slice (some ⟨g22, 0, none⟩) 2 c22, 2, ds.map (·.a)⟩ :: ⟨43, 2, .slice (some ⟨g4, 0, none⟩) 4 c4, 4, fls [.string ⟨#[35]⟩, .int .i64 (ii : Int)] 2 (labsC lab4) j⟩ :: X) (⟨22, 1, .slice a1 n c1, .slice am (n + 1) cm, n, n + 1, [.int .u32 ((ii + 7 : Nat) : Int)]⟩ :: Ks2.flatMap (Kp.hs n)))) (fun i _ => 4 - (intOf i).toNat)
                                  case atStart => exact ⟨0, Nat.zero_le _, rfl, HF0⟩
                                  case round =>
                                    clear HF0
                                    obtain ⟨j, hj, rfl, HK18⟩ := hrel
                                    by_cases hlt : j < 4
                                    · have q4 : (j : Int) < 4 := by omega
                                      go_upto_region 57 with fail
                                      go_wp2_with (refine wpList_store_g (st := 2) rfl _ _ rfl rfl HK18.out 5 rfl j hlt [.string ⟨#[35]⟩, .int .i64 (ii : Int)] rfl (by simp [Value.oneCell']) rfl (by show _ = Value.agg #[.string ⟨#[35]⟩, .int .i64 (ii : Int)]; rw [← em]; rfl) ?_; intro w19 h19; have HK19 := hid h19; clear h19)
                                      have HK20 : Hid (KS W w19 (⟨55, 3, v17, Ks2.length + 1, Ks2.flatMap Kp.cs ++ [.slice a1 n c1, .slice am (n + 1) cm, .int .u32 ((ii + 7 : Nat) : Int)]⟩ :: ⟨39, 1, u18, Ks2.length, Ks2.map (·.a)⟩ :: ⟨39, 1, u19, Ks2.length, Ks2.map (·.b)⟩ :: ⟨24, 1, .slice (some ⟨g21, 0, none⟩) 2 c21, 2, ds.map (·.l)⟩ :: ⟨39, 1, .slice (some ⟨g22, 0, none⟩) 2 c22, 2, ds.map (·.a)⟩ :: ⟨43, 2, .slice (some ⟨g4, 0, none⟩) 4 c4, 4, fls [.string ⟨#[35]⟩, .int .i64 (ii : Int)] 2 (labsC lab4) (j + 1)⟩ :: X) (⟨22, 1, .slice a1 n c1, .slice am (n + 1) cm, n, n + 1, [.int .u32 ((ii + 7 : Nat) : Int)]⟩ :: Ks2.flatMap (Kp.hs n))) := hid (by
                                        rw [← fls_succ [.string ⟨#[35]⟩, .int .i64 (ii : Int)] 2 (labsC lab4) rfl j]
                                        exact HK19.out)
                                      go_roundw
                                      case measure => simp [intOf] <;> omega
                                      case rel => exact ⟨j + 1, by omega, by simp, HK20⟩
                                    · as_aux_lemma =>
                                        have hj4 : 4 = j := by omega
                                        subst hj4
                                        have HK21 : Hid (KS W wr (⟨55, 3, v17, Ks2.length + 1, Ks2.flatMap Kp.cs ++ [.slice a1 n c1, .slice am (n + 1) cm, .int .u32 ((ii + 7 : Nat) : Int)]⟩ :: ⟨39, 1, u18, Ks2.length, Ks2.map (·.a)⟩ :: ⟨39, 1, u19, Ks2.length, Ks2.map (·.b)⟩ :: ⟨24, 1, .slice (some ⟨g21, 0, none⟩) 2 c21, 2, ds.map (·.l)⟩ :: ⟨39, 1, .slice (some ⟨g22, 0, none⟩) 2 c22, 2, ds.map (·.a)⟩ :: ⟨43, 2, .slice (some ⟨g4, 0, none⟩) 4 c4, 4, rp 4 [.string ⟨#[35]⟩, .int .i64 (ii : Int)]⟩ :: X) (⟨22, 1, .slice a1 n c1, .slice am (n + 1) cm, n, n + 1, [.int .u32 ((ii + 7 : Nat) : Int)]⟩ :: Ks2.flatMap (Kp.hs n))) := hid (by
                                          have := HK18.out
                                          rw [fls_all [.string ⟨#[35]⟩, .int .i64 (ii : Int)] 2 4 (labsC lab4) rfl] at this
                                          exact this)
                                        clear HK18 hlt hj
                                        go_upto_region 58 with fail
                                        go_upto_region 59 with (at_builtin; refine wpList_append_s rfl _ _ 51 39 rfl Tryz.underlying51 info39s rfl (by decide) (by decide) rfl ((HK21.out.on (below_one _ (.cells #[.slice (some ⟨g4, 0, none⟩) 4 c4] 39))).mem (i := 1) rfl) (HK21.out.on (below_one _ (.cells #[.slice (some ⟨g4, 0, none⟩) 4 c4] 39))).below.size rfl (m := 1) (st := 1) rfl (cel_new _ 39 [.slice (some ⟨g4, 0, none⟩) 4 c4]).lie (by simp [Value.oneCell']) (by have := HKL.out; show Ks2.length + 1 ≤ _; omega) ?_; intro v18 w22 hal; have HK22 := hid ((HK21.out.on (below_one _ (.cells #[.slice (some ⟨g4, 0, none⟩) 4 c4] 39))).app 1 rfl hal); clear hal)
                                        have HK23 : Hid (KS W w22 (⟨55, 3, v17, Ks2.length + 1, Ks2.flatMap Kp.cs ++ [.slice a1 n c1, .slice am (n + 1) cm, .int .u32 ((ii + 7 : Nat) : Int)]⟩ :: ⟨39, 1, v18, Ks2.length + 1, Ks2.map (·.a) ++ [.slice (some ⟨g4, 0, none⟩) 4 c4]⟩ :: ⟨39, 1, u19, Ks2.length, Ks2.map (·.b)⟩ :: ⟨24, 1, .slice (some ⟨g21, 0, none⟩) 2 c21, 2, ds.map (·.l)⟩ :: ⟨39, 1, .slice (some ⟨g22, 0, none⟩) 2 c22, 2, ds.map (·.a)⟩ :: ⟨43, 2, .slice (some ⟨g4, 0, none⟩) 4 c4, 4, rp 4 [.string ⟨#[35]⟩, .int .i64 (ii : Int)]⟩ :: X) (⟨22, 1, .slice a1 n c1, .slice am (n + 1) cm, n, n + 1, [.int .u32 ((ii + 7 : Nat) : Int)]⟩ :: Ks2.flatMap (Kp.hs n))) := hid HK22.out
                                        have HG0 : Hid (Grow W w22 (⟨55, 3, v17, Ks2.length + 1, Ks2.flatMap Kp.cs ++ [.slice a1 n c1, .slice am (n + 1) cm, .int .u32 ((ii + 7 : Nat) : Int)]⟩ :: ⟨39, 1, v18, Ks2.length + 1, Ks2.map (·.a) ++ [.slice (some ⟨g4, 0, none⟩) 4 c4]⟩ :: ⟨39, 1, u19, Ks2.length, Ks2.map (·.b)⟩ :: ⟨24, 1, .slice (some ⟨g21, 0, none⟩) 2 c21, 2, ds.map (·.l)⟩ :: ⟨39, 1, .slice (some ⟨g22, 0, none⟩) 2 c22, 2, ds.map (·.a)⟩ :: X) (⟨22, 1, .slice a1 n c1, .slice am (n + 1) cm, n, n + 1, [.int .u32 ((ii + 7 : Nat) : Int)]⟩ :: Ks2.flatMap (Kp.hs n)) 43 2 (.slice (some ⟨g4, 0, none⟩) 4 c4) (.slice (some ⟨g4, 0, none⟩) 4 c4) 4 0 [.string ⟨#[35]⟩, .int .i64 (ii : Int)]) := hid (.inl ⟨g4, c4, rfl, rfl, HK23.out.up 5 rfl⟩)
                                        clear HK21 HK22 HK23
                                        go_upto_region 60 with fail
                                        go_loopw [30, 34] (fun v i wr => ∃ m : Nat, m ≤ 40 ∧ i = .int .i64 (m : Int) ∧ Hid (Grow W wr (⟨55, 3, v17, Ks2.length + 1, Ks2.flatMap Kp.cs ++ [.slice a1 n c1, .slice am (n + 1) cm, .int .u32 ((ii + 7 : Nat) : Int)]⟩ :: ⟨39, 1, v18, Ks2.length + 1, Ks2.map (·.a) ++ [.slice (some ⟨g4, 0, none⟩) 4 c4]⟩ :: ⟨39, 1, u19, Ks2.length, Ks2.map (·.b)⟩ :: ⟨24, 1, .slice (some ⟨g21, 0, none⟩) 2 c21, 2, ds.map (·.l)⟩ :: ⟨39, 1, .slice (some ⟨g22, 0, none⟩) 2 c22, 2, ds.map (·.a)⟩ :: X) (⟨22, 1, .slice a1 n c1, .slice am (n + 1) cm, n, n + 1, [.int .u32 ((ii + 7 : Nat) : Int)]⟩ :: Ks2.flatMap (Kp.hs n)) 43 2 (.slice (some ⟨g4, 0, none⟩) 4 c4) v 4 m [.string ⟨#[35]⟩, .int .i64 (ii : Int)])) (fun _ i _ => 40 - (intOf i).toNat)
                                        case atStart => exact ⟨0, Nat.zero_le _, rfl, HG0⟩
                                        case round =>
                                          clear HG0
                                          obtain ⟨m, hm, rfl, HG⟩ := hrel
                                          by_cases hlt : m < 40
                                          · have q4 : (m : Int) < 40 := by omega
                                            go_upto_region 62 with fail
                                            try rw [em]
                                            go_wp2_with (at_builtin; refine wpList_append_s rfl _ _ 39 43 rfl Tryz.underlying39 info43s rfl (by decide) (by decide) rfl (HG.out.on (below_one _ (.cells #[.string ⟨#[35]⟩, .int .i64 (ii : Int)] 43))).own (HG.out.on (below_one _ (.cells #[.string ⟨#[35]⟩, .int .i64 (ii : Int)] 43))).below.size rfl (m := 1) (st := 2) rfl (cel_new _ 43 [.string ⟨#[35]⟩, .int .i64 (ii : Int)]).lie (by simp [Value.oneCell']) (by show 4 + m + 1 ≤ _; omega) ?_; intro v24 w24 hal; have HG2 := hid ((HG.out.on (below_one _ (.cells #[.string ⟨#[35]⟩, .int .i64 (ii : Int)] 43))).step rfl hal); clear hal)
                                            go_roundw
                                            case measure => simp [intOf] <;> omega
                                            case rel => exact ⟨m + 1, by omega, by simp, HG2⟩
                                          · as_aux_lemma =>
                                              have hm4 : 40 = m := by omega
                                              subst hm4
                                              obtain ⟨av, cv, rfl⟩ := own_frm HG.out.own (by decide)
                                              have HK25 : Hid (KS W wr (⟨55, 3, v17, Ks2.length + 1, Ks2.flatMap Kp.cs ++ [.slice a1 n c1, .slice am (n + 1) cm, .int .u32 ((ii + 7 : Nat) : Int)]⟩ :: ⟨39, 1, v18, Ks2.length + 1, Ks2.map (·.a) ++ [.slice (some ⟨g4, 0, none⟩) 4 c4]⟩ :: ⟨39, 1, u19, Ks2.length, Ks2.map (·.b)⟩ :: ⟨24, 1, .slice (some ⟨g21, 0, none⟩) 2 c21, 2, ds.map (·.l)⟩ :: ⟨39, 1, .slice (some ⟨g22, 0, none⟩) 2 c22, 2, ds.map (·.a)⟩ :: X) (⟨43, 2, .slice (some ⟨g4, 0, none⟩) 4 c4, .slice av (4 + 40) cv, 4, 4 + 40, [.string ⟨#[35]⟩, .int .i64 (ii : Int)]⟩ :: ⟨22, 1, .slice a1 n c1, .slice am (n + 1) cm, n, n + 1, [.int .u32 ((ii + 7 : Nat) : Int)]⟩ :: Ks2.flatMap (Kp.hs n))) := hid (HG.out.keep rfl)
                                              clear HG hlt hm
                                              go_upto_region 63 with fail
                                              go_wp2_with (at_builtin; refine wpList_append_s rfl _ _ 51 39 rfl Tryz.underlying51 info39s rfl (by decide) (by decide) rfl ((HK25.out.on (below_one _ (.cells #[.slice av (4 + 40) cv] 39))).mem (i := 2) rfl) (HK25.out.on (below_one _ (.cells #[.slice av (4 + 40) cv] 39))).below.size rfl (m := 1) (st := 1) rfl (cel_new _ 39 [.slice av (4 + 40) cv]).lie (by simp [Value.oneCell']) (by have := HKL.out; show Ks2.length + 1 ≤ _; omega) ?_; intro v19 w26 hal; have HK26 := hid ((HK25.out.on (below_one _ (.cells #[.slice av (4 + 40) cv] 39))).app 2 rfl hal); clear hal)
                                              have HK27 : Hid (KS W w26 (⟨55, 3, v17, Ks2.length + 1, Ks2.flatMap Kp.cs ++ [.slice a1 n c1, .slice am (n + 1) cm, .int .u32 ((ii + 7 : Nat) : Int)]⟩ :: ⟨39, 1, v18, Ks2.length + 1, Ks2.map (·.a) ++ [.slice (some ⟨g4, 0, none⟩) 4 c4]⟩ :: ⟨39, 1, v19, Ks2.length + 1, Ks2.map (·.b) ++ [.slice av (4 + 40) cv]⟩ :: ⟨24, 1, .slice (some ⟨g21, 0, none⟩) 2 c21, 2, ds.map (·.l)⟩ :: ⟨39, 1, .slice (some ⟨g22, 0, none⟩) 2 c22, 2, ds.map (·.a)⟩ :: X) (⟨43, 2, .slice (some ⟨g4, 0, none⟩) 4 c4, .slice av (4 + 40) cv, 4, 4 + 40, [.string ⟨#[35]⟩, .int .i64 (ii : Int)]⟩ :: ⟨22, 1, .slice a1 n c1, .slice am (n + 1) cm, n, n + 1, [.int .u32 ((ii + 7 : Nat) : Int)]⟩ :: Ks2.flatMap (Kp.hs n))) := hid HK26.out
                                              clear HK26 HK25
                                              go_roundw
                                              case measure => simp [intOf] <;> omega
                                              case rel => exact ⟨k2 + 1, Ks2 ++ [⟨.slice a1 n c1, .slice am (n + 1) cm, .slice (some ⟨g4, 0, none⟩) 4 c4, .slice av (4 + 40) cv, ii⟩], by omega, by simp, by rw [List.length_append, HKL.out]; rfl, hid ⟨ix_add HI.out (by rw [HKL.out]; exact HII.out), by rw [HX.out]; exact kb_add (k := ⟨.slice a1 n c1, .slice am (n + 1) cm, .slice (some ⟨g4, 0, none⟩) 4 c4, .slice av (4 + 40) cv, ii⟩) rfl HK27.out⟩⟩
                        · as_aux_lemma =>
                            have hk4 : k2 = 2 := by omega
                            subst hk4
                            have HK30 : Hid (KS W wr (kb u17 u18 u19 Ks2) (Ks2.flatMap (Kp.hs n))) := hid (kb_front HK9.out.2)
                            have HI := hid HK9.out.1
                            have HKL := hid hKl2
                            clear HK9 hlt hk2 hKl2
                            have o1 : wr.ownsRow W.heap.size 55 3 u17 Ks2.length (Ks2.flatMap Kp.cs) := HK30.out.mem (i := 0) rfl
                            have o2 : wr.ownsRow W.heap.size 39 1 u18 Ks2.length (Ks2.map (·.a)) := HK30.out.mem (i := 1) rfl
                            have o3 : wr.ownsRow W.heap.size 39 1 u19 Ks2.length (Ks2.map (·.b)) := HK30.out.mem (i := 2) rfl
                            rw [HKL.out] at o1 o2 o3
                            obtain ⟨b1, d1, rfl⟩ := own_frm o1 (by decide)
                            obtain ⟨p1, rfl⟩ := own_some o1 (by omega)
                            obtain ⟨b2, d2, rfl⟩ := own_frm o2 (by decide)
                            obtain ⟨p2, rfl⟩ := own_some o2 (by omega)
                            obtain ⟨b3, d3, rfl⟩ := own_frm o3 (by decide)
                            obtain ⟨p3, rfl⟩ := own_some o3 (by omega)
                            clear o1 o2 o3
                            go_upto_region 65 with fail
                            go_loopw [35, 36] (fun i _ wr => ∃ jj : Nat, jj ≤ tj + 2 ∧ i = .int .i64 (jj : Int) ∧ Hid (KS W wr (kb (.slice (some ⟨p1, 0, none⟩) (tj + 2) d1) (.slice (some ⟨p2, 0, none⟩) (tj + 2) d2) (.slice (some ⟨p3, 0, none⟩) (tj + 2) d3) Ks2) (Ks2.flatMap (Kp.hs n)))) (fun i _ _ => 10 - (intOf i).toNat)
                            case atStart => exact ⟨0, Nat.zero_le _, rfl, HK30⟩
                            case round =>
                              clear HK30
                              obtain ⟨jj, hjj, rfl, HK31⟩ := hrel
                              have t4 : tj ≤ 4 := by have := HTJ.out; omega
                              by_cases hlt : jj < tj + 2
                              · as_aux_lemma =>
                                  have q4 : (jj : Int) ≤ (tj : Int) + 1 := by omega
                                  have q5 : (jj : Int) < (tj : Int) + 2 := by omega
                                  obtain ⟨kq, hkq⟩ : ∃ kq, Ks2[jj]? = some kq := ⟨_, List.getElem?_eq_getElem (by rw [HKL.out]; exact hlt)⟩
                                  have hci := HI.out jj kq hkq
                                  have hmem : ∀ x ∈ kq.hs n, x ∈ Ks2.flatMap (Kp.hs n) := fun x hx => List.mem_flatMap.2 ⟨kq, List.mem_of_getElem? hkq, hx⟩
                                  obtain ⟨kl, km, ka, kbb, ki⟩ := kq
                                  have hci : ki = jj := hci
                                  subst hci
                                  have HM := hid hmem
                                  have HQ := hid hkq
                                  clear hmem
                                  have o4 : wr.ownsRow W.heap.size 43 2 ka 4 (rp 4 [.string ⟨#[35]⟩, .int .i64 (ki : Int)]) := (HK31.out.each _ (HM.out (Kp.h2 ⟨kl, km, ka, kbb, ki⟩) (by simp [Kp.hs]))).l
                                  have o5 : wr.ownsRow W.heap.size 43 2 kbb 44 (rp 44 [.string ⟨#[35]⟩, .int .i64 (ki : Int)]) := (HK31.out.each _ (HM.out (Kp.h2 ⟨kl, km, ka, kbb, ki⟩) (by simp [Kp.hs]))).m
                                  obtain ⟨b4, d4, rfl⟩ := own_frm o4 (by decide)
                                  obtain ⟨p4, rfl⟩ := own_some o4 (by decide)
                                  obtain ⟨b5, d5, rfl⟩ := own_frm o5 (by decide)
                                  obtain ⟨p5, rfl⟩ := own_some o5 (by decide)
                                  clear o4 o5
                                  have HC := hid (fun (x : World) (hx : Below wr.heap.size wr x) => kb_cells (HK31.out.on hx) HKL.out HQ.out)
                                  have HS : Hid (Calls Tryz.prog 18 #[.agg #[kl, km, .int .u32 ((ki + 7 : Nat) : Int)]] wr fun e w' => e = .returned (.bool true) ∧ Below wr.heap.size wr w') := hid (stays_any wr W.heap.size n (ki + 7) kl km (HK31.out.each _ (HM.out (Kp.h1 n ⟨kl, km, .slice (some ⟨p4, 0, none⟩) 4 d4, .slice (some ⟨p5, 0, none⟩) 44 d5, ki⟩) (by simp [Kp.hs]))).l (HK31.out.each _ (HM.out (Kp.h1 n ⟨kl, km, .slice (some ⟨p4, 0, none⟩) 4 d4, .slice (some ⟨p5, 0, none⟩) 44 d5, ki⟩) (by simp [Kp.hs]))).m HN.out.2)
                                  have y0 : wr.cell? ⟨p1, ki * 3, none⟩ = some kl := (HC.out wr (Below.refl _ _)).1
                                  have y1 : wr.cell? ⟨p1, ki * 3 + 1, none⟩ = some km := (HC.out wr (Below.refl _ _)).2.1
                                  have y2 : wr.cell? ⟨p1, ki * 3 + 2, none⟩ = some (.int .u32 ((ki + 7 : Nat) : Int)) := (HC.out wr (Below.refl _ _)).2.2.1
                                  clear hkq hlt
                                  go_upto_region 70 with (go_at_call 18; refine HS.out.mono ?_; rintro e w32 ⟨rfl, hb32⟩; have HK32 := hid (HK31.out.on hb32); have HB32 := hid hb32; clear y0 y1 y2 hb32)
                                  have y3 : w32.cell? ⟨p2, ki, none⟩ = some (.slice (some ⟨p4, 0, none⟩) 4 d4) := (HC.out w32 HB32.out).2.2.2.1
                                  have y4 : w32.cell? ⟨p3, ki, none⟩ = some (.slice (some ⟨p5, 0, none⟩) 44 d5) := (HC.out w32 HB32.out).2.2.2.2
                                  have HY4 : Hid (∀ x, x < 4 → w32.cell? ⟨p4, x * 2, none⟩ = some (.string ⟨#[35]⟩) ∧ w32.cell? ⟨p4, x * 2 + 1, none⟩ = some (.int .i64 (ki : Int))) := hid (fun x hx => ⟨hk_cell (HK32.out.each _ (HM.out (Kp.h2 ⟨kl, km, .slice (some ⟨p4, 0, none⟩) 4 d4, .slice (some ⟨p5, 0, none⟩) 44 d5, ki⟩) (by simp [Kp.hs]))).l rfl (j := 0) hx rfl, hk_cell (HK32.out.each _ (HM.out (Kp.h2 ⟨kl, km, .slice (some ⟨p4, 0, none⟩) 4 d4, .slice (some ⟨p5, 0, none⟩) 44 d5, ki⟩) (by simp [Kp.hs]))).l rfl (j := 1) hx rfl⟩)
                                  have HY5 : Hid (∀ x, x < 44 → w32.cell? ⟨p5, x * 2, none⟩ = some (.string ⟨#[35]⟩) ∧ w32.cell? ⟨p5, x * 2 + 1, none⟩ = some (.int .i64 (ki : Int))) := hid (fun x hx => ⟨hk_cell (HK32.out.each _ (HM.out (Kp.h2 ⟨kl, km, .slice (some ⟨p4, 0, none⟩) 4 d4, .slice (some ⟨p5, 0, none⟩) 44 d5, ki⟩) (by simp [Kp.hs]))).m rfl (j := 0) hx rfl, hk_cell (HK32.out.each _ (HM.out (Kp.h2 ⟨kl, km, .slice (some ⟨p4, 0, none⟩) 4 d4, .slice (some ⟨p5, 0, none⟩) 44 d5, ki⟩) (by simp [Kp.hs]))).m rfl (j := 1) hx rfl⟩)
                                  clear HC HS HK31 HB32
                                  go_loopw [36] (fun i wr => ∃ x : Nat, x ≤ 44 ∧ i = .int .i64 (x : Int) ∧ wr = w32) (fun i _ => 44 - (intOf i).toNat)
                                  case atStart => exact ⟨0, Nat.zero_le _, rfl, rfl⟩
                                  case round =>
                                    obtain ⟨x, hx, rfl, rfl⟩ := hrel
                                    by_cases hlt : x < 44
                                    · have q6 : (x : Int) < 44 := by omega
                                      obtain ⟨z0, z1⟩ := HY5.out x hlt
                                      by_cases h4 : x < 4
                                      · as_aux_lemma =>
                                          have q7 : (x : Int) < 4 := by omega
                                          obtain ⟨z2, z3⟩ := HY4.out x h4
                                          clear hlt h4
                                          go_wp2_with fail
                                          go_roundw
                                          case measure => simp [intOf] <;> omega
                                          case rel => exact ⟨x + 1, by omega, by simp⟩
                                      · as_aux_lemma =>
                                          have q7 : ¬ (x : Int) < 4 := by omega
                                          clear hlt h4
                                          go_wp2_with fail
                                          go_roundw
                                          case measure => simp [intOf] <;> omega
                                          case rel => exact ⟨x + 1, by omega, by simp⟩
                                    · have q6 : ¬ (x : Int) < 44 := by omega
                                      clear hlt hx y3 y4
                                      go_wp2_with fail
                                      go_roundw
                                      case measure => simp [intOf] <;> omega
                                      case rel => exact ⟨ki + 1, by omega, by simp⟩
                              · have q4 : ¬ (jj : Int) ≤ (tj : Int) + 1 := by omega
                                clear hlt
                                go_wp2_with fail
                                go_roundw
                                case measure => have := HTJ.out; simp [intOf] <;> omega
                                case rel => exact ⟨j + 1, Ks2, by omega, by have := HTJ.out; congr 1; omega, by have := HTJ.out; rw [HKL.out]; omega, hid ⟨HI.out, HK31.out⟩⟩
            · as_aux_lemma =>
                have q1 : ¬ ((2 * j : Nat) : Int) < (rr : Int) := by omega
                have HB9 := hid HK.out.2.below
                go_wp2_with (go_at_call 17; refine (HWi.out _).mono ?_; rintro e w1 ⟨rfl, rfl⟩)
                go_ret
                exact ⟨rfl, HB9.out⟩
end Go.Proofs.YtncnogndopgknaaGreatDoor
