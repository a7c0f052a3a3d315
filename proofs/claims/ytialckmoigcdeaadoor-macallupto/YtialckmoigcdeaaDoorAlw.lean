/- MacAll. -/
import Derived.Test.YtialckmoigcdeaaDoorOw
import Derived.Deep.DeepCutAuto
import Derived.Deep.MidRow
namespace Go.Proofs.YtialckmoigcdeaaDoor
open Go.RowKit
set_option maxHeartbeats 8000000
set_option maxRecDepth 100000
attribute [-simp] Tryd.isAgg58 Tryd.zeroValue58 Tryd.isAgg26 Tryd.sizeOf26 Tryd.zeroValue26
theorem all_l (W : World) (hT : Tabs W) (hR : TabR W) (sa : Option Addr) (n c : Nat) (hn : n ≤ 1048576)
    (hS : n = 0 ∨ ∃ b off, sa = some ⟨b, off, none⟩ ∧ b < W.heap.size ∧ ∀ k, k < n → ∃ o : Ov, o.In W ∧ W.rangeAt b (off + k * 23) o.cs) :
    Calls Tryd.prog 6 #[.slice sa n c] W fun e W' => e = .returned (.bool true) ∧ Below W.heap.size W W' := by
  have HT := hid hT
  obtain ⟨i42, j42, z42, s42, b42⟩ := info_parts info42
  obtain ⟨i55, j55, z55, s55, b55⟩ := info_parts info55
  have HI42 := hid (And.intro j42 (And.intro z42 (And.intro s42 b42)))
  have HI55 := hid (And.intro j55 (And.intro z55 (And.intro s55 b55)))
  clear j42 z42 s42 b42 j55 z55 s55 b55
  have HR := hid (fun w (hb : Below W.heap.size W w) => hR.on hT.sz hb)
  have HTT := hid (fun w (hb : Below W.heap.size W w) => hT.on hb)
  have HSc := hid hS
  have n1 : (n : Int) ≤ 1048576 := by omega
  clear hT hR hS
  obtain ⟨V, hV⟩ : ∃ V : List Value, V = [.int .i64 0, .int .i64 0, .slice none 0 0, .slice none 0 0, .slice none 0 0, .slice none 0 0] ++ (List.replicate 16 (.int .u32 0) ++ [.int .i64 0]) := ⟨_, rfl⟩
  have HVl : Hid (V.length = 23) := hid (by rw [hV]; simp)
  have hv : ∀ w, (zeroValue 58).run Tryd.prog w = .ok (.agg V.toArray) w := fun w => by rw [Tryd.zeroValue58, hV]; rfl
  clear hV
  go_enter Tryd.func6, Tryd.ntmps6
  go_upto_region 3 with (first | (go_at_call 23; refine (numbers_any _).mono ?_; rintro e w0 ⟨rfl, rfl⟩) | (go_at_call 9; refine (first_law _ HT.out).mono ?_; rintro e w1 ⟨rfl, hb⟩; have HB1 := hid hb; clear hb))
  clear HT
  go_upto_region 4 with (first | (go_at_call 17; refine (new_mac w1 (HTT.out _ HB1.out) none 0 0 [] rfl (fun i => by simp) (.inl rfl) (by decide)).mono ?_; rintro e w2 ⟨gm, gi, go, hm, hi, ho, rfl, MH, hb⟩; have HM := hid (And.intro MH (And.intro hm (And.intro hi (And.intro ho hb)))); clear MH hm hi ho hb))
  have HA0 := hid (AI.start HB1.out HM.out.1 HM.out.2.1 HM.out.2.2.1 HM.out.2.2.2.1 HM.out.2.2.2.2)
  clear HM
  go_wp2_with fail
  generalize w2.heap.size = g3 at *
  generalize hx : (w2.alloc (Obj.cells #[Value.pointer (some ⟨gm, 0, none⟩)] 42)).alloc (Obj.cells #[Value.slice none 0 0, Value.slice none 0 0] 55) = w3 at *
  clear hx HB1
  go_loopw [3, 4, 5] (fun v3 v4 i wr => ∃ (k : Nat) (u3 u4 : Value) (Ps : List PH) (Ds : List DH), k ≤ n ∧ i = .int .i64 (k : Int) ∧ v3 = u3 ∧ v4 = u4 ∧ Hid (AI W wr k u3 u4 Ps Ds)) (fun _ _ i _ => n - (intOf i).toNat)
  case atStart => exact ⟨0, _, _, _, _, Nat.zero_le _, rfl, rfl, rfl, HA0⟩
  case round =>
    clear HA0
    obtain ⟨k, u3, u4, Ps, Ds, hk, rfl, rfl, rfl, HA⟩ := hrel
    by_cases hlt : k < n
    · have q1 : (k : Int) < (n : Int) := by omega
      rcases HSc.out with h0 | ⟨b, off, rfl, hb, hsc⟩
      · omega
      clear HSc
      obtain ⟨o, hoi, hor⟩ := hsc k hlt
      clear hsc
      have HO := hid (And.intro hoi hor)
      clear hoi hor
      have RO : Hid (∀ w, Below W.heap.size W w → w.rangeAt b (off + k * 23) o.cs) := hid (fun w hw => range_below HO.out.2 hb hw)
      go_upto_region 9 with (first | (refine wpList_load_mid rfl 58 _ rfl b (off + k * 23) rfl _ _ (RO.out _ HA.out.below) Tryd.underlying58 rfl (by rw [size58, Ov.len HO.out.1]) ?_) | (refine wpList_store_row rfl 58 _ _ rfl wr.heap.size _ rfl rfl 58 V.toArray (heap_alloc_new _ _) (by rw [size58]; simp [Ov.len HO.out.1]) (by simp [HVl.out, Ov.len HO.out.1]) (by simpa using o.one) ?_))
      have HB := hid (AB.start HA.out HO.out.1 V)
      clear HA HO RO HVl hv
      generalize wr.heap.size = g6 at *
      generalize hx : (World.alloc wr (Obj.cells V.toArray 58)).setRow g6 o.cs.toArray = w4 at *
      clear hx
      simp only [Act.put]
      have c0 := HB.out.c0
      have c1 := HB.out.c1
      obtain ⟨h3, c3, rfl, l3, m3, _, _⟩ := HB.out.ai.P.form HB.out.ai.pos
      obtain ⟨h4, c4, rfl, l4, m4, _, _, _, _⟩ := HB.out.ai.D.form (by rw [HB.out.ai.len]; exact HB.out.ai.pos)
      have hlen := HB.out.ai.len
      have hpos := HB.out.ai.pos
      have hmost := HB.out.ai.most
      rw [hlen] at HB l4
      rw [hlen]
      generalize hnp : Ps.length = np at *
      have HNp := hid hnp
      clear hnp
      have HW := hid (And.intro (wh_lt o.hh np hpos) (And.intro (wh_pos o.hh np hpos) (wh_neg o.hh np hpos)))
      generalize wh o.hh np = q at *
      generalize hr : o.hh.tmod (np : Int) = r at *
      have hq := HW.out.1
      have p1 : (1 : Int) ≤ (np : Int) := by omega
      have p2 : (np : Int) ≤ 1048577 := by omega
      have p3 : ((np : Int) == 0) = false := beq_false_of_ne (by omega)
      have HL := hid hlen
      clear hlen
      go_upto_if 36 with fail
      go_cut [7] (fun v w => v = .int .i64 (q : Int) ∧ w4 = w)
      case first =>
        by_cases h0 : r < 0
        · have h2 := HW.out.2.2 h0
          have HE := hid h2
          have h3 : IntKind.wrap .i64 (r + (np : Int)) = r + (np : Int) := by rw [IntKind.wrap_i64]; omega
          clear h2
          go_wp2_with fail
          go_meet
          exact ⟨by rw [HE.out], rfl⟩
        · have h0' : 0 ≤ r := by omega
          have HE := hid (HW.out.2.1 h0')
          go_wp2_with fail
          go_meet
          exact ⟨by rw [HE.out], rfl⟩
      case rest =>
      obtain ⟨rfl, rfl⟩ := hcut
      clear HW hr c1
      have c0' := HB.out.c0
      have q2 : (q : Int) < (np : Int) := by omega
      by_cases k3 : o.kd = 3
      · have HK3 := hid k3
        have n3 : (o.kd == 3) = true := by simpa using k3
        clear k3
        have c2 := HB.out.c2
        go_upto_region 17 with (first | (go_at_call 15; refine (words_lw _ (B := W.heap.size) HB.out.mid.size o.ua o.un o.uc o.us HB.out.mid.u.hul HB.out.mid.u.hua HB.out.mid.u.hus (by have := HB.out.mid.u.hun; omega)).mono ?_; rintro e w5 ⟨vo, vc, rfl, L5, a5, s5, H5⟩; have HM5 := hid (And.intro (HB.out.mid.on H5.below) a5); clear L5 a5 s5 H5) | (go_at_call 17; refine (new_mac w5 (HTT.out _ HM5.out.1.below) vo o.un vc o.us HM5.out.1.u.hul HM5.out.1.u.wu HM5.out.2 (by have := HM5.out.1.u.hun; omega)).mono ?_; rintro e w6 ⟨gm', gi', go', hm, hi, ho, rfl, MH, hb⟩; have HM6 := hid (new_mid HM5.out.1 MH hi ho hb); clear hm hi ho MH hb) | (at_builtin; refine wpList_append_two rfl _ _ 53 rfl (base := W.heap.size) Tryd.underlying53 HI42.out.1 HI42.out.2.1 HI42.out.2.2.1 HI42.out.2.2.2 rfl (by decide) rfl (own_np HM6.out.mid.P.own HNp.out) HM6.out.mid.size rfl (news := [.pointer (some ⟨gm', 0, none⟩)]) rfl (src_new _ [_] _) (by simp [Value.oneCell']) (by unfold maxLen; omega) (by omega) ?_; intro v7 w7 ho7 hw7; have HM7 := hid (pushP_l HM6.out HNp.out ho7 hw7); clear ho7 hw7))
        have c2' := HM7.out.c2
        clear HM5 HM6 c2 c0 c0'
        go_wp2_with (first | (go_at_call 15; refine (words_lw _ (B := W.heap.size) HM7.out.size o.ua o.un o.uc o.us HM7.out.u.hul HM7.out.u.hua HM7.out.u.hus (by have := HM7.out.u.hun; omega)).mono ?_; rintro e w8 ⟨vo8, vc8, rfl, L8, a8, s8, H8⟩; have HM8 := hid (newD_l (HM7.out.on H8.below) L8); clear L8 a8 s8 H8) | (at_builtin; refine wpList_append_two rfl _ _ 56 rfl (base := W.heap.size) Tryd.underlying56 HI55.out.1 HI55.out.2.1 HI55.out.2.2.1 HI55.out.2.2.2 rfl (by decide) rfl (own_np HM8.out.1.D.own HL.out) HM8.out.1.size rfl (news := [.slice vo8 o.un vc8, .slice none 0 0]) rfl (src_new _ [_, _] _) (by simp [Value.oneCell']) (by unfold maxLen; omega) (by omega) ?_; intro v9 w9 ho9 hw9; have HM9 := hid (HM8.out.1.pushD ⟨.slice vo8 o.un vc8, .slice none 0 0, o.us, []⟩ HM8.out.2 (World.ownsRow_nil _ _ _ _) HL.out ho9 hw9); clear ho9 hw9))
        go_roundw
        case measure => simp [intOf] <;> omega
        case rel => exact ⟨k + 1, _, _, _, _, by omega, by simp, rfl, rfl, hid (HB.out.ai.push rfl rfl rfl HM9.out.u.wu (by rw [HM9.out.u.hul]; exact HM9.out.u.hun) HM9.out.below HM9.out.P HM9.out.D)⟩
      by_cases k4 : o.kd = 4
      · have HK4 := hid k4
        have n3 : (o.kd == 3) = false := by simp [k4]
        have n4 : (o.kd == 4) = true := by simpa using k4
        clear k4 k3
        obtain ⟨p, d, HPq, HDq, hpk, hps⟩ := HB.out.ai.at (q := q) (by rw [HNp.out]; exact hq)
        have HLd : Hid (d.said.length ≤ 1048576 * 1048576) := hid (Nat.le_trans (HB.out.ai.bd d (List.mem_of_getElem? HDq)).2.2.2 (by have := hn; exact Nat.mul_le_mul_right _ (by omega)))
        replace HPq : Hid (Ps[q]? = some p) := HPq
        replace HDq : Hid (Ds[q]? = some d) := HDq
        have HE := hid (And.intro hpk hps)
        have HLq : Hid (p.said.length ≤ 1048576 * 1048576) := hid (by rw [hps]; exact HLd.out)
        clear hpk hps
        have HM0 := hid HB.out.mid
        have HC3 : Hid (∀ w, Mid W w (.slice (some ⟨h3, 0, none⟩) np c3) (.slice (some ⟨h4, 0, none⟩) np c4) Ps Ds o g6 → w.cell? ⟨h3, q, none⟩ = some (.pointer (some ⟨p.gm, 0, none⟩)) ∧ w.cell? ⟨p.gm, 0, none⟩ = some (.pointer (some ⟨p.gi, 0, none⟩)) ∧ w.cell? ⟨g6, 2, none⟩ = some (.slice o.ua o.un o.uc)) := hid (fun w h => ⟨pst_cell h.P HPq.out, ((h.P.each p (List.mem_of_getElem? HPq.out)).1.cel.cell 0).trans rfl, h.c2⟩)
        go_upto_region 19 with fail
        have HD := hid (HM0.out.on (Below.refl _ _).drew)
        have HS0 := hid (HC3.out _ HD.out)
        have HS : Hid (∀ w', Below w4.drew.heap.size w4.drew w' → w'.cell? ⟨h3, q, none⟩ = some (.pointer (some ⟨p.gm, 0, none⟩)) ∧ w'.cell? ⟨p.gm, 0, none⟩ = some (.pointer (some ⟨p.gi, 0, none⟩)) ∧ w'.cell? ⟨g6, 2, none⟩ = some (.slice o.ua o.un o.uc)) := hid (fun w hb => HC3.out _ (HD.out.on hb))
        refine wp_region_held_drew (S := fun w => w.cell? ⟨h3, q, none⟩ = some (.pointer (some ⟨p.gm, 0, none⟩)) ∧ w.cell? ⟨p.gm, 0, none⟩ = some (.pointer (some ⟨p.gi, 0, none⟩)) ∧ w.cell? ⟨g6, 2, none⟩ = some (.slice o.ua o.un o.uc)) (by kernel_rfl) HS0.out (fun hHeld => ?_)
        refine wpAnyH_take (i := 0) (oi := { dst := some 63, op := Op.move (Operand.tmp 3), type := 53, pos := "law.go:109", after := #[], guard := none }) (v := .slice (some ⟨h3, 0, none⟩) np c3) rfl (by kernel_rfl) (by kernel_rfl) (by kernel_rfl) (fun _ _ _ h => h) (Or.inl ⟨by rfl, by intro w hSw; go_simp⟩) (by assumption) ?_
        simp only [Act.put, List.setIfInBounds_toArray, List.set_cons_zero, List.set_cons_succ]
        refine wpAnyH_take (i := 1) (oi := { dst := some 64, op := Op.move (Operand.tmp 7), type := 3, pos := "law.go:109", after := #[], guard := none }) (v := .int .i64 (q : Int)) rfl (by kernel_rfl) (by kernel_rfl) (by kernel_rfl) (fun _ _ _ h => h) (Or.inl ⟨by rfl, by intro w hSw; go_simp⟩) (by assumption) ?_
        simp only [Act.put, List.setIfInBounds_toArray, List.set_cons_zero, List.set_cons_succ]
        refine wpAnyH_take (i := 2) (oi := { dst := some 65, op := Op.indexAddr 53 (Operand.tmp 63) (Operand.tmp 64), type := 0, pos := "law.go:109", after := #[{ on := 0, ground := Ground.data }, { on := 1, ground := Ground.data }], guard := none }) (v := .pointer (some ⟨h3, q, none⟩)) rfl (by kernel_rfl) (by kernel_rfl) (by kernel_rfl) (fun _ _ _ h => h) (Or.inl ⟨by rfl, by intro w hSw; go_simp⟩) (by assumption) ?_
        simp only [Act.put, List.setIfInBounds_toArray, List.set_cons_zero, List.set_cons_succ]
        refine wpAnyH_take (i := 3) (oi := { dst := some 66, op := Op.load 42 (Operand.tmp 65), type := 42, pos := "law.go:109", after := #[{ on := 2, ground := Ground.data }], guard := none }) (v := .pointer (some ⟨p.gm, 0, none⟩)) rfl (by kernel_rfl) (by kernel_rfl) (by kernel_rfl) (fun _ _ _ h => h) (Or.inl ⟨by rfl, by intro w hSw; have hc := hSw.1; go_simp⟩) (by assumption) ?_
        simp only [Act.put, List.setIfInBounds_toArray, List.set_cons_zero, List.set_cons_succ]
        refine wpAnyH_take (i := 4) (oi := { dst := some 67, op := Op.nilCheck (Operand.tmp 66), type := 0, pos := "law.go:109", after := #[{ on := 3, ground := Ground.data }], guard := none }) (v := .pointer (some ⟨p.gm, 0, none⟩)) rfl (by kernel_rfl) (by kernel_rfl) (by kernel_rfl) (fun _ _ _ h => h) (Or.inl ⟨by rfl, by intro w hSw; go_simp⟩) (by assumption) ?_
        simp only [Act.put, List.setIfInBounds_toArray, List.set_cons_zero, List.set_cons_succ]
        refine wpAnyH_take (i := 5) (oi := { dst := some 68, op := Op.fieldAddr 47 (Operand.tmp 67) 0, type := 0, pos := "law.go:109", after := #[{ on := 4, ground := Ground.data }], guard := none }) (v := .pointer (some ⟨p.gm, 0, none⟩)) rfl (by kernel_rfl) (by kernel_rfl) (by kernel_rfl) (fun _ _ _ h => h) (Or.inl ⟨by rfl, by intro w hSw; go_simp⟩) (by assumption) ?_
        simp only [Act.put, List.setIfInBounds_toArray, List.set_cons_zero, List.set_cons_succ]
        refine wpAnyH_take (i := 6) (oi := { dst := some 69, op := Op.load 45 (Operand.tmp 68), type := 45, pos := "law.go:109", after := #[{ on := 5, ground := Ground.data }], guard := none }) (v := .pointer (some ⟨p.gi, 0, none⟩)) rfl (by kernel_rfl) (by kernel_rfl) (by kernel_rfl) (fun _ _ _ h => h) (Or.inl ⟨by rfl, by intro w hSw; have hc := hSw.2.1; go_simp⟩) (by assumption) ?_
        simp only [Act.put, List.setIfInBounds_toArray, List.set_cons_zero, List.set_cons_succ]
        refine wpAnyH_take (i := 7) (oi := { dst := some 70, op := Op.fieldAddr 58 (Operand.tmp 6) 2, type := 0, pos := "law.go:109", after := #[], guard := none }) (v := .pointer (some ⟨g6, 2, none⟩)) rfl (by kernel_rfl) (by kernel_rfl) (by kernel_rfl) (fun _ _ _ h => h) (Or.inl ⟨by rfl, by intro w hSw; go_simp⟩) (by assumption) ?_
        simp only [Act.put, List.setIfInBounds_toArray, List.set_cons_zero, List.set_cons_succ]
        refine wpAnyH_take (i := 8) (oi := { dst := some 71, op := Op.load 35 (Operand.tmp 70), type := 35, pos := "law.go:109", after := #[{ on := 7, ground := Ground.data }], guard := none }) (v := .slice o.ua o.un o.uc) rfl (by kernel_rfl) (by kernel_rfl) (by kernel_rfl) (fun _ _ _ h => h) (Or.inl ⟨by rfl, by intro w hSw; have hc := hSw.2.2; go_simp⟩) (by assumption) ?_
        simp only [Act.put, List.setIfInBounds_toArray, List.set_cons_zero, List.set_cons_succ]
        refine wpAnyH_ready (rs := [9]) (by kernel_rfl) (by simp) (AllReadyH.cons (o := { dst := some 72, op := Op.call { callee := Callee.value (Operand.func 15), args := #[Operand.tmp 71], argTypes := #[35] }, type := 35, pos := "law.go:109", after := #[{ on := 8, ground := Ground.data }], guard := none }) rfl (fun KQ hK => ?_) AllReadyH.nil)
        go_simp
        refine (words_lw _ (B := W.heap.size) HD.out.size o.ua o.un o.uc o.us HD.out.u.hul HD.out.u.hua HD.out.u.hus (by have := HD.out.u.hun; omega)).mono ?_
        rintro e w5 ⟨vo, vc, rfl, L5, a5, s5, H5⟩
        have HM5 := hid (HD.out.on H5.below)
        have HS5 := HS.out w5 H5.below
        have HA5 := hid a5
        clear L5 a5 s5 H5
        go_wp2_with fail
        refine hK.out _ _ HS5 (fun hHeld => ?_)
        clear hK KQ
        try simp only [Act.put, List.setIfInBounds_toArray, List.set_cons_zero, List.set_cons_succ]
        refine wpAnyH_ready (rs := [10]) (by kernel_rfl) (by simp) (AllReadyH.cons (o := { dst := some 73, op := Op.call { callee := Callee.value (Operand.func 18), args := #[Operand.tmp 69, Operand.tmp 72], argTypes := #[45, 35] }, type := 0, pos := "law.go:109", after := #[{ on := 6, ground := Ground.data }, { on := 9, ground := Ground.data }, { on := 9, ground := Ground.chain }], guard := none }) rfl (fun KQ hK => ?_) AllReadyH.nil)
        go_simp
        refine (addL_any w5 (HTT.out _ HM5.out.below).sha (HTT.out _ HM5.out.below).sz p.gi _ ((HM5.out.P.each p (List.mem_of_getElem? HPq.out)).1.inner) vo o.un vc o.us HM5.out.u.hul HA5.out (by have := HM5.out.u.hun; omega) (by rw [List.length_append, xorL_length, keyW_length]; have := HM5.out.u.hun; have := HLq.out; omega)).mono ?_
        rintro e w6 ⟨rfl, hd6, hb6⟩
        have HM6 := hid (HM5.out.addP HPq.out hb6 hd6)
        have HS6 := cel3 HM5.out rfl (HM5.out.P.each p (List.mem_of_getElem? HPq.out)).1 hb6 HS5
        clear hd6 hb6
        go_wp2_with fail
        refine hK.out _ _ HS6 (fun hHeld => ?_)
        clear hK KQ
        try simp only [Act.put, List.setIfInBounds_toArray, List.set_cons_zero, List.set_cons_succ]
        refine wpAnyH_done (by kernel_rfl) ?_ _
        clear HS HC3 HS0 HD HM0 HM5 hHeld HS5 HA5 HS6
        go_upto_region 20 with fail
        have HM7 := hid (HM6.out.on (Below.refl _ _).drew)
        have HS7 := hid HM7.out.c2
        obtain ⟨so, sc, hsv, hat, hsl⟩ := (HM7.out.D.each d (List.mem_of_getElem? HDq.out)).2.holds
        have HC4 : Hid (w6.drew.cell? ⟨h4, q * 2 + 1, none⟩ = some (.slice so d.said.length sc)) := hid (by rw [← hsv]; exact (dst_cell HM7.out.D HDq.out).2)
        have HA7 := hid (And.intro hat hsl)
        clear hsv hat hsl HM6
        refine wp_region_held_drew (S := fun w => w.cell? ⟨g6, 2, none⟩ = some (.slice o.ua o.un o.uc)) (by kernel_rfl) HS7.out (fun hHeld => ?_)
        refine wpAnyH_take (i := 0) (oi := { dst := some 74, op := Op.move (Operand.tmp 4), type := 56, pos := "law.go:110", after := #[], guard := none }) (v := .slice (some ⟨h4, 0, none⟩) np c4) rfl (by kernel_rfl) (by kernel_rfl) (by kernel_rfl) (fun _ _ _ h => h) (Or.inl ⟨by rfl, by intro w hSw; go_simp⟩) (by assumption) ?_
        simp only [Act.put, List.setIfInBounds_toArray, List.set_cons_zero, List.set_cons_succ]
        refine wpAnyH_take (i := 1) (oi := { dst := some 75, op := Op.move (Operand.tmp 7), type := 3, pos := "law.go:110", after := #[], guard := none }) (v := .int .i64 (q : Int)) rfl (by kernel_rfl) (by kernel_rfl) (by kernel_rfl) (fun _ _ _ h => h) (Or.inl ⟨by rfl, by intro w hSw; go_simp⟩) (by assumption) ?_
        simp only [Act.put, List.setIfInBounds_toArray, List.set_cons_zero, List.set_cons_succ]
        refine wpAnyH_take (i := 2) (oi := { dst := some 76, op := Op.move (Operand.tmp 4), type := 56, pos := "law.go:110", after := #[], guard := none }) (v := .slice (some ⟨h4, 0, none⟩) np c4) rfl (by kernel_rfl) (by kernel_rfl) (by kernel_rfl) (fun _ _ _ h => h) (Or.inl ⟨by rfl, by intro w hSw; go_simp⟩) (by assumption) ?_
        simp only [Act.put, List.setIfInBounds_toArray, List.set_cons_zero, List.set_cons_succ]
        refine wpAnyH_take (i := 3) (oi := { dst := some 77, op := Op.move (Operand.tmp 7), type := 3, pos := "law.go:110", after := #[], guard := none }) (v := .int .i64 (q : Int)) rfl (by kernel_rfl) (by kernel_rfl) (by kernel_rfl) (fun _ _ _ h => h) (Or.inl ⟨by rfl, by intro w hSw; go_simp⟩) (by assumption) ?_
        simp only [Act.put, List.setIfInBounds_toArray, List.set_cons_zero, List.set_cons_succ]
        refine wpAnyH_take (i := 4) (oi := { dst := some 78, op := Op.indexAddr 56 (Operand.tmp 76) (Operand.tmp 77), type := 0, pos := "law.go:110", after := #[{ on := 2, ground := Ground.data }, { on := 3, ground := Ground.data }], guard := none }) (v := .pointer (some ⟨h4, q * 2, none⟩)) rfl (by kernel_rfl) (by kernel_rfl) (by kernel_rfl) (fun _ _ _ h => h) (Or.inl ⟨by rfl, by intro w hSw; go_simp⟩) (by assumption) ?_
        simp only [Act.put, List.setIfInBounds_toArray, List.set_cons_zero, List.set_cons_succ]
        refine wpAnyH_take (i := 5) (oi := { dst := some 79, op := Op.fieldAddr 55 (Operand.tmp 78) 1, type := 0, pos := "law.go:110", after := #[{ on := 4, ground := Ground.data }], guard := none }) (v := .pointer (some ⟨h4, q * 2 + 1, none⟩)) rfl (by kernel_rfl) (by kernel_rfl) (by kernel_rfl) (fun _ _ _ h => h) (Or.inl ⟨by rfl, by intro w hSw; go_simp⟩) (by assumption) ?_
        simp only [Act.put, List.setIfInBounds_toArray, List.set_cons_zero, List.set_cons_succ]
        refine wpAnyH_take (i := 8) (oi := { dst := some 82, op := Op.fieldAddr 58 (Operand.tmp 6) 2, type := 0, pos := "law.go:110", after := #[], guard := none }) (v := .pointer (some ⟨g6, 2, none⟩)) rfl (by kernel_rfl) (by kernel_rfl) (by kernel_rfl) (fun _ _ _ h => h) (Or.inl ⟨by rfl, by intro w hSw; go_simp⟩) (by assumption) ?_
        simp only [Act.put, List.setIfInBounds_toArray, List.set_cons_zero, List.set_cons_succ]
        refine wpAnyH_take (i := 9) (oi := { dst := some 83, op := Op.load 35 (Operand.tmp 82), type := 35, pos := "law.go:110", after := #[{ on := 8, ground := Ground.data }], guard := none }) (v := .slice o.ua o.un o.uc) rfl (by kernel_rfl) (by kernel_rfl) (by kernel_rfl) (fun _ _ _ h => h) (Or.inl ⟨by rfl, by intro w hSw; have hc := hSw; go_simp⟩) (by assumption) ?_
        simp only [Act.put, List.setIfInBounds_toArray, List.set_cons_zero, List.set_cons_succ]
        refine wpAnyH_ready (rs := [6]) (by kernel_rfl) (by simp) (AllReadyH.cons (o := { dst := some 80, op := Op.load 35 (Operand.tmp 79), type := 35, pos := "law.go:110", after := #[{ on := 5, ground := Ground.data }], guard := none }) rfl (fun KQ hK => ?_) AllReadyH.nil)
        have hc4 := HC4.out; go_simp
        refine hK.out _ _ HS7.out (fun hHeld => ?_)
        clear hK KQ
        try simp only [Act.put, List.setIfInBounds_toArray, List.set_cons_zero, List.set_cons_succ]
        refine wpAnyH_ready (rs := [7]) (by kernel_rfl) (by simp) (AllReadyH.cons (o := { dst := some 81, op := Op.call { callee := Callee.value (Operand.func 15), args := #[Operand.tmp 80], argTypes := #[35] }, type := 35, pos := "law.go:110", after := #[{ on := 6, ground := Ground.data }], guard := none }) rfl (fun KQ hK => ?_) AllReadyH.nil)
        go_simp
        refine (words_lw _ (B := W.heap.size) HM7.out.size so d.said.length sc d.said rfl HA7.out.1 HA7.out.2 (by have := HLd.out; omega)).mono ?_
        rintro e w8 ⟨vo8, vc8, rfl, L8, a8, s8, H8⟩
        have HM8 := hid (HM7.out.on H8.below)
        have HS8 := hid HM8.out.c2
        have HH8 := hid H8
        clear L8 a8 s8 H8
        go_wp2_with fail
        refine hK.out _ _ HS8.out (fun hHeld => ?_)
        clear hK KQ
        try simp only [Act.put, List.setIfInBounds_toArray, List.set_cons_zero, List.set_cons_succ]
        refine wpAnyH_ready (rs := [10]) (by kernel_rfl) (by simp) (AllReadyH.cons (o := { dst := some 84, op := Op.call { callee := Callee.builtin Builtin.append, args := #[Operand.tmp 81, Operand.tmp 83], argTypes := #[35, 35] }, type := 35, pos := "law.go:110", after := #[{ on := 7, ground := Ground.data }, { on := 9, ground := Ground.data }, { on := 7, ground := Ground.chain }], guard := none }) rfl (fun KQ hK => ?_) AllReadyH.nil)
        refine wp_append_w _ _ rfl (.slice vo8 d.said.length vc8) d.said rfl HH8.out o.ua o.un o.uc o.us rfl HM8.out.u.hul HM8.out.u.hua HM8.out.u.hus (by have := HLd.out; have := HM8.out.u.hun; omega) ?_
        intro v9 w9 H9
        obtain ⟨vo9, vc9, hv9, _, _, _⟩ := H9.at'
        generalize (d.said ++ o.us).length = ln9 at hv9
        subst hv9
        have HM9 := hid (HM7.out.on H9.below)
        have HS9 := hid HM9.out.c2
        have HL9 := hid (H9.lw HM7.out.size)
        clear H9
        refine hK.out _ _ HS9.out (fun hHeld => ?_)
        clear hK KQ
        try simp only [Act.put, List.setIfInBounds_toArray, List.set_cons_zero, List.set_cons_succ]
        refine wpAnyH_take (i := 11) (oi := { dst := some 85, op := Op.indexAddr 56 (Operand.tmp 74) (Operand.tmp 75), type := 0, pos := "law.go:110", after := #[{ on := 0, ground := Ground.data }, { on := 1, ground := Ground.data }, { on := 0, ground := Ground.phase }, { on := 1, ground := Ground.phase }, { on := 2, ground := Ground.phase }, { on := 3, ground := Ground.phase }, { on := 4, ground := Ground.phase }, { on := 5, ground := Ground.phase }, { on := 6, ground := Ground.phase }, { on := 7, ground := Ground.phase }, { on := 8, ground := Ground.phase }, { on := 9, ground := Ground.phase }, { on := 10, ground := Ground.phase }], guard := none }) (v := .pointer (some ⟨h4, q * 2, none⟩)) rfl (by kernel_rfl) (by kernel_rfl) (by kernel_rfl) (fun _ _ _ h => h) (Or.inl ⟨by rfl, by intro w hSw; go_simp⟩) (by assumption) ?_
        simp only [Act.put, List.setIfInBounds_toArray, List.set_cons_zero, List.set_cons_succ]
        refine wpAnyH_take (i := 12) (oi := { dst := some 86, op := Op.fieldAddr 55 (Operand.tmp 85) 1, type := 0, pos := "law.go:110", after := #[{ on := 11, ground := Ground.data }, { on := 0, ground := Ground.phase }, { on := 1, ground := Ground.phase }, { on := 2, ground := Ground.phase }, { on := 3, ground := Ground.phase }, { on := 4, ground := Ground.phase }, { on := 5, ground := Ground.phase }, { on := 6, ground := Ground.phase }, { on := 7, ground := Ground.phase }, { on := 8, ground := Ground.phase }, { on := 9, ground := Ground.phase }, { on := 10, ground := Ground.phase }], guard := none }) (v := .pointer (some ⟨h4, q * 2 + 1, none⟩)) rfl (by kernel_rfl) (by kernel_rfl) (by kernel_rfl) (fun _ _ _ h => h) (Or.inl ⟨by rfl, by intro w hSw; go_simp⟩) (by assumption) ?_
        simp only [Act.put, List.setIfInBounds_toArray, List.set_cons_zero, List.set_cons_succ]
        refine wpAnyH_ready (rs := [13]) (by kernel_rfl) (by simp) (AllReadyH.cons (o := { dst := none, op := Op.store 35 (Operand.tmp 86) (Operand.tmp 84), type := 0, pos := "law.go:110", after := #[{ on := 12, ground := Ground.data }, { on := 10, ground := Ground.data }, { on := 10, ground := Ground.chain }, { on := 0, ground := Ground.phase }, { on := 1, ground := Ground.phase }, { on := 2, ground := Ground.phase }, { on := 3, ground := Ground.phase }, { on := 4, ground := Ground.phase }, { on := 5, ground := Ground.phase }, { on := 6, ground := Ground.phase }, { on := 7, ground := Ground.phase }, { on := 8, ground := Ground.phase }, { on := 9, ground := Ground.phase }, { on := 10, ground := Ground.phase }], guard := none }) rfl (fun KQ hK => ?_) AllReadyH.nil)
        have hf4 := dst_free HM9.out.D (q * 2 + 1)
        have hc9 := (dst_cell HM9.out.D HDq.out).2
        go_simp
        clear hf4 hc9
        have HMa := hid (HM9.out.putD HL.out HDq.out (.slice vo9 ln9 vc9) _ HL9.out)
        have HSa := hid HMa.out.c2
        refine hK.out _ _ HSa.out (fun hHeld => ?_)
        clear hK KQ
        try simp only [Act.put]
        refine wpAnyH_done (by kernel_rfl) ?_ _
        clear hHeld HS7 HS8 HS9 HSa HC4 HA7 HM7 HM8 HM9 HH8 HL9
        go_wp2_with fail
        go_roundw
        case measure => simp [intOf] <;> omega
        case rel => exact ⟨k + 1, _, _, _, _, by omega, by simp, rfl, rfl, hid (HB.out.ai.set HPq.out HDq.out HE.out.1 HE.out.2 o.us HMa.out.u.wu (by rw [HMa.out.u.hul]; exact HMa.out.u.hun) (.slice vo9 ln9 vc9) HMa.out.below HMa.out.P HMa.out.D)⟩
      by_cases k5 : o.kd = 5
      · have n3 : (o.kd == 3) = false := by simp [k5]
        have n4 : (o.kd == 4) = false := by simp [k5]
        have n5 : (o.kd == 5) = true := by simpa using k5
        clear k5 k4 k3
        obtain ⟨p, d, HPq, HDq, hpk, hps⟩ := HB.out.ai.at (q := q) (by rw [HNp.out]; exact hq)
        have HLd : Hid (Wds d.key ∧ Wds d.said ∧ d.key.length ≤ 1048576 ∧ d.said.length ≤ 1048576 * 1048576) := hid (by
          obtain ⟨b1, b2, b3, b4⟩ := HB.out.ai.bd d (List.mem_of_getElem? HDq)
          exact ⟨b1, b2, b3, Nat.le_trans b4 (by have := hn; exact Nat.mul_le_mul_right _ (by omega))⟩)
        have HM0 := hid HB.out.mid
        obtain ⟨ko, kc, hkv, hat, _⟩ := (HM0.out.D.each d (List.mem_of_getElem? HDq)).1.holds
        obtain ⟨so, sc, hsv, hat2, _⟩ := (HM0.out.D.each d (List.mem_of_getElem? HDq)).2.holds
        obtain ⟨c55, hc55⟩ := own_ty HM0.out.D.own (g := h4) rfl
        have HC5 : Hid (c55[q * 2]? = some (.slice ko d.key.length kc) ∧ c55[q * 2 + 1]? = some (.slice so d.said.length sc)) := hid (by
          have := dst_cell HM0.out.D HDq
          rw [hc55.cell, hc55.cell, hkv, hsv] at this
          exact this)
        have HAt : Hid (∀ w, Below w4.heap.size w4 w → At w .u32 ko d.key ∧ At w .u32 so d.said) := hid (fun w hb => ⟨hat.below hb, hat2.below hb⟩)
        obtain ⟨HH, hHH⟩ : ∃ H, hmac (bytesD d.key) (bytesD d.said) = H := ⟨_, rfl⟩
        have hHl : HH.length = 8 := by rw [← hHH]; exact hmac_length _ _
        have HTg : Hid (sumW (xorL 1549556828 (keyW (bytesD p.key)) ++ sumW (xorL 909522486 (keyW (bytesD p.key)) ++ p.said)) = HH) := hid (by
          rw [← hHH, ← hpk, ← hps]
          exact tag_math _ (bytesD p.key) p.said (bytesD_bts _) rfl (by rw [hps]; exact HLd.out.2.1))
        have HHH := hid hHH
        have HC55 := hid hc55
        replace HPq : Hid (Ps[q]? = some p) := HPq
        clear HDq hpk hps hkv hat hsv hat2 hc55 hHH
        obtain ⟨V8, hV8⟩ : ∃ V : List Int, V = List.replicate 8 0 := ⟨_, rfl⟩
        have hV8l : V8.length = 8 := by rw [hV8]; simp
        have hv8 : ∀ w, (zeroValue 26).run Tryd.prog w = .ok (.agg (V8.map (Value.int .u32)).toArray) w := fun w => by rw [Tryd.zeroValue26, hV8]; rfl
        clear hV8
        go_upto_region 22 with fail
        go_cut [9] (fun v w => ∃ g9, v = .pointer (some ⟨g9, 0, none⟩) ∧ Mid W w (.slice (some ⟨h3, 0, none⟩) np c3) (.slice (some ⟨h4, 0, none⟩) np c4) Ps Ds o g6 ∧ Blk w g9 .u32 26 HH)
        case first =>
          have HMd := hid (HM0.out.on (Below.refl _ _).drew)
          have HBd : Hid (Below w4.heap.size w4 w4.drew) := hid (Below.refl _ _).drew
          have HS0 := hid (HC55.out.on (Below.refl _ _).drew)
          refine wp_region_held_drew (S := fun w => Cel w h4 55 c55) (by kernel_rfl) HS0.out (fun hHeld => ?_)
          generalize w4.drew = x0 at *
          refine wpAnyH_take (i := 0) (oi := { dst := some 89, op := Op.move (Operand.tmp 4), type := 56, pos := "law.go:112", after := #[], guard := none }) (v := .slice (some ⟨h4, 0, none⟩) np c4) rfl (by kernel_rfl) (by kernel_rfl) (by kernel_rfl) (fun _ _ _ h => h) (Or.inl ⟨by rfl, by intro w hSw; go_simp⟩) (by assumption) ?_
          simp only [Act.put, List.setIfInBounds_toArray, List.set_cons_zero, List.set_cons_succ]
          refine wpAnyH_take (i := 1) (oi := { dst := some 90, op := Op.move (Operand.tmp 7), type := 3, pos := "law.go:112", after := #[], guard := none }) (v := .int .i64 (q : Int)) rfl (by kernel_rfl) (by kernel_rfl) (by kernel_rfl) (fun _ _ _ h => h) (Or.inl ⟨by rfl, by intro w hSw; go_simp⟩) (by assumption) ?_
          simp only [Act.put, List.setIfInBounds_toArray, List.set_cons_zero, List.set_cons_succ]
          refine wpAnyH_take (i := 2) (oi := { dst := some 91, op := Op.indexAddr 56 (Operand.tmp 89) (Operand.tmp 90), type := 0, pos := "law.go:112", after := #[{ on := 0, ground := Ground.data }, { on := 1, ground := Ground.data }], guard := none }) (v := .pointer (some ⟨h4, q * 2, none⟩)) rfl (by kernel_rfl) (by kernel_rfl) (by kernel_rfl) (fun _ _ _ h => h) (Or.inl ⟨by rfl, by intro w hSw; go_simp⟩) (by assumption) ?_
          simp only [Act.put, List.setIfInBounds_toArray, List.set_cons_zero, List.set_cons_succ]
          refine wpAnyH_take (i := 3) (oi := { dst := some 92, op := Op.fieldAddr 55 (Operand.tmp 91) 0, type := 0, pos := "law.go:112", after := #[{ on := 2, ground := Ground.data }], guard := none }) (v := .pointer (some ⟨h4, q * 2, none⟩)) rfl (by kernel_rfl) (by kernel_rfl) (by kernel_rfl) (fun _ _ _ h => h) (Or.inl ⟨by rfl, by intro w hSw; go_simp⟩) (by assumption) ?_
          simp only [Act.put, List.setIfInBounds_toArray, List.set_cons_zero, List.set_cons_succ]
          refine wpAnyH_take (i := 4) (oi := { dst := some 93, op := Op.load 35 (Operand.tmp 92), type := 35, pos := "law.go:112", after := #[{ on := 3, ground := Ground.data }], guard := none }) (v := .slice ko d.key.length kc) rfl (by kernel_rfl) (by kernel_rfl) (by kernel_rfl) (fun _ _ _ h => h) (Or.inl ⟨by rfl, by intro w hSw; have hc := (Cel.cell hSw (q * 2)).trans HC5.out.1; go_simp⟩) (by assumption) ?_
          simp only [Act.put, List.setIfInBounds_toArray, List.set_cons_zero, List.set_cons_succ]
          refine wpAnyH_take (i := 5) (oi := { dst := some 94, op := Op.move (Operand.tmp 4), type := 56, pos := "law.go:112", after := #[], guard := none }) (v := .slice (some ⟨h4, 0, none⟩) np c4) rfl (by kernel_rfl) (by kernel_rfl) (by kernel_rfl) (fun _ _ _ h => h) (Or.inl ⟨by rfl, by intro w hSw; go_simp⟩) (by assumption) ?_
          simp only [Act.put, List.setIfInBounds_toArray, List.set_cons_zero, List.set_cons_succ]
          refine wpAnyH_take (i := 6) (oi := { dst := some 95, op := Op.move (Operand.tmp 7), type := 3, pos := "law.go:112", after := #[], guard := none }) (v := .int .i64 (q : Int)) rfl (by kernel_rfl) (by kernel_rfl) (by kernel_rfl) (fun _ _ _ h => h) (Or.inl ⟨by rfl, by intro w hSw; go_simp⟩) (by assumption) ?_
          simp only [Act.put, List.setIfInBounds_toArray, List.set_cons_zero, List.set_cons_succ]
          refine wpAnyH_take (i := 7) (oi := { dst := some 96, op := Op.indexAddr 56 (Operand.tmp 94) (Operand.tmp 95), type := 0, pos := "law.go:112", after := #[{ on := 5, ground := Ground.data }, { on := 6, ground := Ground.data }], guard := none }) (v := .pointer (some ⟨h4, q * 2, none⟩)) rfl (by kernel_rfl) (by kernel_rfl) (by kernel_rfl) (fun _ _ _ h => h) (Or.inl ⟨by rfl, by intro w hSw; go_simp⟩) (by assumption) ?_
          simp only [Act.put, List.setIfInBounds_toArray, List.set_cons_zero, List.set_cons_succ]
          refine wpAnyH_take (i := 8) (oi := { dst := some 97, op := Op.fieldAddr 55 (Operand.tmp 96) 1, type := 0, pos := "law.go:112", after := #[{ on := 7, ground := Ground.data }], guard := none }) (v := .pointer (some ⟨h4, q * 2 + 1, none⟩)) rfl (by kernel_rfl) (by kernel_rfl) (by kernel_rfl) (fun _ _ _ h => h) (Or.inl ⟨by rfl, by intro w hSw; go_simp⟩) (by assumption) ?_
          simp only [Act.put, List.setIfInBounds_toArray, List.set_cons_zero, List.set_cons_succ]
          refine wpAnyH_take (i := 9) (oi := { dst := some 98, op := Op.load 35 (Operand.tmp 97), type := 35, pos := "law.go:112", after := #[{ on := 8, ground := Ground.data }], guard := none }) (v := .slice so d.said.length sc) rfl (by kernel_rfl) (by kernel_rfl) (by kernel_rfl) (fun _ _ _ h => h) (Or.inl ⟨by rfl, by intro w hSw; have hc := (Cel.cell hSw (q * 2 + 1)).trans HC5.out.2; go_simp⟩) (by assumption) ?_
          simp only [Act.put, List.setIfInBounds_toArray, List.set_cons_zero, List.set_cons_succ]
          refine wpAnyH_ready (rs := [10, 11]) (by kernel_rfl) (by simp) (AllReadyH.cons (o := { dst := some 99, op := Op.call { callee := Callee.value (Operand.func 24), args := #[Operand.tmp 93, Operand.tmp 98], argTypes := #[35, 35] }, type := 26, pos := "law.go:112", after := #[{ on := 4, ground := Ground.data }, { on := 9, ground := Ground.data }], guard := none }) rfl (fun KQ hK => ?_) (AllReadyH.cons (o := { dst := some 9, op := Op.alloc 26, type := 0, pos := "law.go:112", after := #[], guard := none }) rfl (fun KQ hK => ?_) AllReadyH.nil))
          · go_simp
            refine (rtag_any x0 (HR.out _ HMd.out.below) (HTT.out _ HMd.out.below).sz ko d.key.length kc d.key rfl HLd.out.1 (HAt.out _ HBd.out).1 (by have := HLd.out.2.2.1; omega) so d.said.length sc d.said rfl HLd.out.2.1 (HAt.out _ HBd.out).2 (by have := HLd.out.2.2.2; omega)).mono ?_
            rintro e w5 ⟨rfl, hb5⟩
            rw [HHH.out]
            have HM5 := hid (HMd.out.on hb5)
            have HB5 := hid (below_on HBd.out hb5)
            have HS5 := Cel.on HS0.out hb5
            clear hb5
            go_wp2_with fail
            refine hK.out _ _ HS5 (fun hHeld => ?_)
            clear hK KQ
            try simp only [Act.put, List.setIfInBounds_toArray, List.set_cons_zero, List.set_cons_succ]
            refine wpAnyH_ready (rs := [11]) (by kernel_rfl) (by simp) (AllReadyH.cons (o := { dst := some 9, op := Op.alloc 26, type := 0, pos := "law.go:112", after := #[], guard := none }) rfl (fun KQ hK => ?_) AllReadyH.nil)
            go_simp
            have HMl := hid (HM5.out.on (below_one w5 (Obj.cells (List.map (Value.int IntKind.u32) V8).toArray 26)))
            have HBl := hid (below_on HB5.out (below_one w5 (Obj.cells (List.map (Value.int IntKind.u32) V8).toArray 26)))
            have HAl := hid (Blk.new w5 .u32 26 V8)
            have HSl := Cel.on HS5 (below_one w5 (Obj.cells (List.map (Value.int IntKind.u32) V8).toArray 26))
            have HG := hid HM5.out.size
            refine hK.out _ _ HSl (fun hHeld => ?_)
            clear hK KQ
            try simp only [Act.put, List.setIfInBounds_toArray, List.set_cons_zero, List.set_cons_succ]
            generalize World.alloc w5 (Obj.cells (List.map (Value.int IntKind.u32) V8).toArray 26) = wal at *
            generalize w5.heap.size = g9 at *
            refine wpAnyH_ready (rs := [12]) (by kernel_rfl) (by simp) (AllReadyH.cons (o := { dst := none, op := Op.store 26 (Operand.tmp 9) (Operand.tmp 99), type := 0, pos := "law.go:112", after := #[{ on := 11, ground := Ground.data }, { on := 10, ground := Ground.data }, { on := 10, ground := Ground.chain }, { on := 0, ground := Ground.phase }, { on := 1, ground := Ground.phase }, { on := 2, ground := Ground.phase }, { on := 3, ground := Ground.phase }, { on := 4, ground := Ground.phase }, { on := 5, ground := Ground.phase }, { on := 6, ground := Ground.phase }, { on := 7, ground := Ground.phase }, { on := 8, ground := Ground.phase }, { on := 9, ground := Ground.phase }, { on := 10, ground := Ground.phase }, { on := 11, ground := Ground.phase }], guard := none }) rfl (fun KQ hK => ?_) AllReadyH.nil)
            rw [if_pos (by rfl)]
            refine wp_store_row8 26 _ _ rfl g9 HH rfl rfl HAl.out (by rw [hV8l]; exact size26) (by rw [hV8l, hHl]) ?_
            have HMs := hid (mid_row HMl.out HAl.out HG.out HH)
            have HSs := cel55_row HSl HAl.out HH
            have HFin := hid (HAl.out.setRow HH)
            refine hK.out _ _ HSs (fun hHeld => ?_)
            clear hK KQ
            try simp only [Act.put]
            refine wpAnyH_done (by kernel_rfl) ?_ _
            clear hHeld
            go_wp2_with fail
            go_meet
            exact ⟨g9, rfl, HMs.out, HFin.out⟩
          · go_simp
            have HMl := hid (HMd.out.on (below_one x0 (Obj.cells (List.map (Value.int IntKind.u32) V8).toArray 26)))
            have HBl := hid (below_on HBd.out (below_one x0 (Obj.cells (List.map (Value.int IntKind.u32) V8).toArray 26)))
            have HAl := hid (Blk.new x0 .u32 26 V8)
            have HSl := Cel.on HS0.out (below_one x0 (Obj.cells (List.map (Value.int IntKind.u32) V8).toArray 26))
            have HG := hid HMd.out.size
            refine hK.out _ _ HSl (fun hHeld => ?_)
            clear hK KQ
            try simp only [Act.put, List.setIfInBounds_toArray, List.set_cons_zero, List.set_cons_succ]
            generalize World.alloc x0 (Obj.cells (List.map (Value.int IntKind.u32) V8).toArray 26) = wal at *
            generalize x0.heap.size = g9 at *
            refine wpAnyH_ready (rs := [10]) (by kernel_rfl) (by simp) (AllReadyH.cons (o := { dst := some 99, op := Op.call { callee := Callee.value (Operand.func 24), args := #[Operand.tmp 93, Operand.tmp 98], argTypes := #[35, 35] }, type := 26, pos := "law.go:112", after := #[{ on := 4, ground := Ground.data }, { on := 9, ground := Ground.data }], guard := none }) rfl (fun KQ hK => ?_) AllReadyH.nil)
            go_simp
            refine (rtag_any wal (HR.out _ HMl.out.below) (HTT.out _ HMl.out.below).sz ko d.key.length kc d.key rfl HLd.out.1 (HAt.out _ HBl.out).1 (by have := HLd.out.2.2.1; omega) so d.said.length sc d.said rfl HLd.out.2.1 (HAt.out _ HBl.out).2 (by have := HLd.out.2.2.2; omega)).mono ?_
            rintro e w5 ⟨rfl, hb5⟩
            rw [HHH.out]
            have HM5 := hid (HMl.out.on hb5)
            have HB5 := hid (below_on HBl.out hb5)
            have HS5 := Cel.on HSl hb5
            have HAl5 := hid (HAl.out.on hb5)
            clear hb5
            go_wp2_with fail
            refine hK.out _ _ HS5 (fun hHeld => ?_)
            clear hK KQ
            try simp only [Act.put, List.setIfInBounds_toArray, List.set_cons_zero, List.set_cons_succ]
            refine wpAnyH_ready (rs := [12]) (by kernel_rfl) (by simp) (AllReadyH.cons (o := { dst := none, op := Op.store 26 (Operand.tmp 9) (Operand.tmp 99), type := 0, pos := "law.go:112", after := #[{ on := 11, ground := Ground.data }, { on := 10, ground := Ground.data }, { on := 10, ground := Ground.chain }, { on := 0, ground := Ground.phase }, { on := 1, ground := Ground.phase }, { on := 2, ground := Ground.phase }, { on := 3, ground := Ground.phase }, { on := 4, ground := Ground.phase }, { on := 5, ground := Ground.phase }, { on := 6, ground := Ground.phase }, { on := 7, ground := Ground.phase }, { on := 8, ground := Ground.phase }, { on := 9, ground := Ground.phase }, { on := 10, ground := Ground.phase }, { on := 11, ground := Ground.phase }], guard := none }) rfl (fun KQ hK => ?_) AllReadyH.nil)
            rw [if_pos (by rfl)]
            refine wp_store_row8 26 _ _ rfl g9 HH rfl rfl HAl5.out (by rw [hV8l]; exact size26) (by rw [hV8l, hHl]) ?_
            have HMs := hid (mid_row HM5.out HAl5.out HG.out HH)
            have HSs := cel55_row HS5 HAl5.out HH
            have HFin := hid (HAl5.out.setRow HH)
            refine hK.out _ _ HSs (fun hHeld => ?_)
            clear hK KQ
            try simp only [Act.put]
            refine wpAnyH_done (by kernel_rfl) ?_ _
            clear hHeld
            go_wp2_with fail
            go_meet
            exact ⟨g9, rfl, HMs.out, HFin.out⟩
        case rest =>
          obtain ⟨g9, rfl, hm9, hb9⟩ := hcut
          have HM9 := hid hm9
          have HB9 := hid hb9
          clear hm9 hb9 HC5 HAt HHH HC55 HM0
          have e26 := eq26 HH HH hHl hHl
          rw [decide_eq_true rfl] at e26
          go_upto_region 23 with fail
          have HMe := hid (HM9.out.on (Below.refl _ _).drew)
          have HS0 := hid (And.intro (pst_cell HMe.out.P HPq.out) (HB9.out.on (Below.refl _ _).drew).row.range)
          have HS : Hid (∀ w', Below (World.drew wc).heap.size (World.drew wc) w' → w'.cell? ⟨h3, q, none⟩ = some (.pointer (some ⟨p.gm, 0, none⟩)) ∧ w'.rangeAt g9 0 (HH.map (Value.int .u32))) := hid (fun w hb => ⟨pst_cell (HMe.out.on hb).P HPq.out, ((HB9.out.on (Below.refl _ _).drew).on hb).row.range⟩)
          refine wp_region_held_drew (S := fun w => w.cell? ⟨h3, q, none⟩ = some (.pointer (some ⟨p.gm, 0, none⟩)) ∧ w.rangeAt g9 0 (HH.map (Value.int .u32))) (by kernel_rfl) HS0.out (fun hHeld => ?_)
          refine wpAnyH_take (i := 0) (oi := { dst := some 100, op := Op.move (Operand.tmp 3), type := 53, pos := "law.go:113", after := #[], guard := none }) (v := .slice (some ⟨h3, 0, none⟩) np c3) rfl (by kernel_rfl) (by kernel_rfl) (by kernel_rfl) (fun _ _ _ h => h) (Or.inl ⟨by rfl, by intro w hSw; go_simp⟩) (by assumption) ?_
          simp only [Act.put, List.setIfInBounds_toArray, List.set_cons_zero, List.set_cons_succ]
          refine wpAnyH_take (i := 1) (oi := { dst := some 101, op := Op.move (Operand.tmp 7), type := 3, pos := "law.go:113", after := #[], guard := none }) (v := .int .i64 (q : Int)) rfl (by kernel_rfl) (by kernel_rfl) (by kernel_rfl) (fun _ _ _ h => h) (Or.inl ⟨by rfl, by intro w hSw; go_simp⟩) (by assumption) ?_
          simp only [Act.put, List.setIfInBounds_toArray, List.set_cons_zero, List.set_cons_succ]
          refine wpAnyH_take (i := 2) (oi := { dst := some 102, op := Op.indexAddr 53 (Operand.tmp 100) (Operand.tmp 101), type := 0, pos := "law.go:113", after := #[{ on := 0, ground := Ground.data }, { on := 1, ground := Ground.data }], guard := none }) (v := .pointer (some ⟨h3, q, none⟩)) rfl (by kernel_rfl) (by kernel_rfl) (by kernel_rfl) (fun _ _ _ h => h) (Or.inl ⟨by rfl, by intro w hSw; go_simp⟩) (by assumption) ?_
          simp only [Act.put, List.setIfInBounds_toArray, List.set_cons_zero, List.set_cons_succ]
          refine wpAnyH_take (i := 3) (oi := { dst := some 103, op := Op.load 42 (Operand.tmp 102), type := 42, pos := "law.go:113", after := #[{ on := 2, ground := Ground.data }], guard := none }) (v := .pointer (some ⟨p.gm, 0, none⟩)) rfl (by kernel_rfl) (by kernel_rfl) (by kernel_rfl) (fun _ _ _ h => h) (Or.inl ⟨by rfl, by intro w hSw; have hc := hSw.1; go_simp⟩) (by assumption) ?_
          simp only [Act.put, List.setIfInBounds_toArray, List.set_cons_zero, List.set_cons_succ]
          refine wpAnyH_take (i := 5) (oi := { dst := some 105, op := Op.load 26 (Operand.tmp 9), type := 26, pos := "law.go:113", after := #[], guard := none }) (v := .agg (HH.map (Value.int .u32)).toArray) rfl (by kernel_rfl) (by kernel_rfl) (by kernel_rfl) (fun _ _ _ h => h) (yieldsIf_load_mid (by rfl) _ _ rfl _ _ rfl _ _ (fun w hSw => hSw.2) Tryd.underlying26 rfl (by rw [List.length_map, hHl]; exact size26)) (by assumption) ?_
          simp only [Act.put, List.setIfInBounds_toArray, List.set_cons_zero, List.set_cons_succ]
          refine wpAnyH_ready (rs := [4]) (by kernel_rfl) (by simp) (AllReadyH.cons (o := { dst := some 104, op := Op.call { callee := Callee.value (Operand.func 19), args := #[Operand.tmp 103], argTypes := #[42] }, type := 26, pos := "law.go:113", after := #[{ on := 3, ground := Ground.data }], guard := none }) rfl (fun KQ hK => ?_) AllReadyH.nil)
          go_simp
          refine (tag_mac _ (HTT.out _ HMe.out.below) p.gm p.gi p.go _ p.said (HMe.out.P.each p (List.mem_of_getElem? HPq.out)).1).mono ?_
          rintro e w6 ⟨rfl, hb6⟩
          rw [HTg.out]
          have HM6 := hid (HMe.out.on hb6)
          have HS6 := HS.out _ hb6
          clear hb6
          go_wp2_with fail
          refine hK.out _ _ HS6 (fun hHeld => ?_)
          clear hK KQ
          try simp only [Act.put, List.setIfInBounds_toArray, List.set_cons_zero, List.set_cons_succ]
          refine wpAnyH_take (i := 6) (oi := { dst := some 106, op := Op.binOp BinOp.eql 26 (Operand.tmp 104) (Operand.tmp 105) 26, type := 4, pos := "law.go:113", after := #[{ on := 4, ground := Ground.data }, { on := 5, ground := Ground.data }], guard := none }) (v := .bool true) rfl (by kernel_rfl) (by kernel_rfl) (by kernel_rfl) (fun _ _ _ h => h) (Or.inl ⟨by rfl, by intro w hSw; have he := e26; simp only [Ag]; go_simp⟩) (by assumption) ?_
          simp only [Act.put, List.setIfInBounds_toArray, List.set_cons_zero, List.set_cons_succ]
          refine wpAnyH_ready (rs := [7]) (by kernel_rfl) (by simp) (AllReadyH.cons (o := { dst := some 8, op := Op.assign (Operand.tmp 106), type := 4, pos := "law.go:113", after := #[{ on := 6, ground := Ground.data }, { on := 4, ground := Ground.chain }, { on := 0, ground := Ground.phase }, { on := 1, ground := Ground.phase }, { on := 2, ground := Ground.phase }, { on := 3, ground := Ground.phase }, { on := 4, ground := Ground.phase }, { on := 5, ground := Ground.phase }, { on := 6, ground := Ground.phase }], guard := none }) rfl (fun KQ hK => ?_) AllReadyH.nil)
          go_simp
          refine hK.out _ _ HS6 (fun hHeld => ?_)
          clear hK KQ
          try simp only [Act.put, List.setIfInBounds_toArray, List.set_cons_zero, List.set_cons_succ]
          refine wpAnyH_done (by kernel_rfl) ?_ _
          clear hHeld HS HS0 HS6 HMe HM9 HB9
          go_wp2_with fail
          go_roundw
          case measure => simp [intOf] <;> omega
          case rel => exact ⟨k + 1, _, _, _, _, by omega, by simp, rfl, rfl, hid (ai_same HB.out.ai HM6.out)⟩
      · have n3 : (o.kd == 3) = false := by simpa using k3
        have n4 : (o.kd == 4) = false := by simpa using k4
        have n5 : (o.kd == 5) = false := by simpa using k5
        clear k5 k4 k3
        go_wp2_with (first | (refine wpList_load_mid rfl 58 _ rfl g6 0 rfl _ _ (cel_range HB.out.box) Tryd.underlying58 rfl (by rw [size58, Ov.len HB.out.inn]) ?_) | (go_at_call 25; refine (Ov.plain (HB.out.inn.on HB.out.ai.below) (HTT.out _ HB.out.ai.below) (HR.out _ HB.out.ai.below)).mono ?_; rintro e w5 ⟨rfl, hb5⟩; have HB5 := hid (HB.out.on hb5); clear hb5))
        go_roundw
        case measure => simp [intOf] <;> omega
        case rel => exact ⟨k + 1, _, _, _, _, by omega, by simp, rfl, rfl, hid HB5.out.ai.next⟩
    · have hkn : k = n := by omega
      subst hkn
      go_wp2_with fail
      go_ret
      exact ⟨rfl, HA.out.below⟩
end Go.Proofs.YtialckmoigcdeaaDoor
