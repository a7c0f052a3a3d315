import Derived.Test.YtbpdmkohihgnjaaGreatDoorP39
namespace Go.Proofs.YtbpdmkohihgnjaaGreatDoor
open Go.RowKit
set_option maxHeartbeats 4000000
set_option maxRecDepth 100000
attribute [-simp] Tryz.isAgg36 Tryz.zeroValue36 Tryz.isAgg60 Tryz.zeroValue60
def zruO : Obj := .cells #[.bool false, .string ⟨#[]⟩, .int .u32 0, .int .u32 0, .int .u32 0, .int .u32 0, .int .u32 0, .int .u32 0, .int .u32 0, .int .u32 0] 60
theorem parse5_long (W : World) (s : ByteArray) (hs : 65536 < s.size) : Calls Tryz.prog 5 #[.string s] W fun e W' => PrP 60 W W' e ⟨[], false, 0, 2⟩ := by
  have hz36 : ∀ w, (zeroValue 36).run Tryz.prog w = .ok (.agg #[.slice none 0 0, .bool false]) w := fun w => by rw [Tryz.zeroValue36]
  have hb36 : ∀ w, (Instr.build 36 #[]).run Tryz.prog w = .ok (.agg #[.slice none 0 0, .bool false]) w := fun w => run_build w 36 #[] _ built36d
  obtain ⟨X, hX⟩ : ∃ X, X = W.alloc (Obj.cells #[.slice none 0 0, .bool false] 36) := ⟨_, rfl⟩
  have HLi : Hid (Calls Tryz.prog 16 #[.string s] X fun e w => e = .returned (.tuple #[.slice none 0 0, .int .i64 2]) ∧ Below X.heap.size X w) := hid ((L.rlines_any X s).mono fun e w h => by
    unfold L.LnPost at h
    rwa [if_pos hs] at h)
  have HX : Hid (Below W.heap.size W X ∧ Cel X W.heap.size 36 [.slice none 0 0, .bool false]) := hid ⟨by rw [hX]; exact below_one _ _, by rw [hX]; exact heap_alloc_new _ _⟩
  clear hs
  go_enter Tryz.func5, Tryz.ntmps5
  go_upto_region 1 with fail
  rw [← hX]
  clear hX
  go_upto_region 3 with (first | (go_at_call 16; refine HLi.out.mono ?_; rintro e w1 ⟨rfl, hb⟩; have Y1 : Hid (Below W.heap.size W w1 ∧ Cel w1 W.heap.size 36 [.slice none 0 0, .bool false]) := hid ⟨below_on HX.out.1 hb, HX.out.2.on hb⟩; clear hb HX HLi))
  go_wp2_with (first | (refine wpList_store_st rfl 36 _ _ rfl W.heap.size [.slice none 0 0, .bool false] rfl rfl Y1.out.2 size36d rfl rfl ?_; intro wz hcz hbz hsz; have YZ : Hid (Cel wz W.heap.size 36 [.slice none 0 0, .bool false] ∧ Below W.heap.size W wz) := hid ⟨hcz, Y1.out.1.trans (hbz.below (Nat.le_refl _) Y1.out.1.size)⟩; clear hcz hbz hsz))
  refine ret_q3 rfl rfl W.heap.size [.slice none 0 0, .bool false] rfl YZ.out.1 Tryz.underlying36 rfl size36d ?_
  exact ⟨_, rfl, World.ownsRow_nil _ _ _ _, YZ.out.2⟩
theorem parse5_short (W : World) (s : ByteArray) (hs : s.size ≤ 65536) : Calls Tryz.prog 5 #[.string s] W fun e W' => PrP 60 W W' e (prE (endE (L.T.lines s.data.toList).length (foldP z0 (L.T.lines s.data.toList) 0))) := by
  have hz36 : ∀ w, (zeroValue 36).run Tryz.prog w = .ok (.agg #[.slice none 0 0, .bool false]) w := fun w => by rw [Tryz.zeroValue36]
  have hb36 : ∀ w, (Instr.build 36 #[]).run Tryz.prog w = .ok (.agg #[.slice none 0 0, .bool false]) w := fun w => run_build w 36 #[] _ built36d
  have hz60 : ∀ w, (zeroValue 60).run Tryz.prog w = .ok (.agg #[.bool false, .string ⟨#[]⟩, .int .u32 0, .int .u32 0, .int .u32 0, .int .u32 0, .int .u32 0, .int .u32 0, .int .u32 0, .int .u32 0]) w := fun w => by rw [Tryz.zeroValue60]
  obtain ⟨X, hX⟩ : ∃ X, X = W.alloc (Obj.cells #[.slice none 0 0, .bool false] 36) := ⟨_, rfl⟩
  have HLi : Hid (Calls Tryz.prog 16 #[.string s] X fun e w => ∃ v, e = .returned (.tuple #[v, .int .i64 0]) ∧ L.HV X w 9 v (L.strsV (L.T.lines s.data.toList))) := hid ((L.rlines_any X s).mono fun e w h => by
    unfold L.LnPost at h
    rwa [if_neg (by omega)] at h)
  have HX : Hid (Below W.heap.size W X ∧ Cel X W.heap.size 36 [.slice none 0 0, .bool false] ∧ W.heap.size < X.heap.size) := hid ⟨by rw [hX]; exact below_one _ _, by rw [hX]; exact heap_alloc_new _ _, by rw [hX]; simp⟩
  have hle : ∀ y ∈ L.T.lines s.data.toList, y.length ≤ 1000000000 := fun y hy => by
    have := lines_each _ y hy
    rw [lenD] at this
    omega
  have hcn := lines_count s.data.toList
  rw [lenD] at hcn
  have hmaxn : (L.T.lines s.data.toList).length ≤ 65537 := by omega
  clear hs hcn
  generalize L.T.lines s.data.toList = ls at *
  have HLe := hid hle
  clear hle
  obtain ⟨R, hR⟩ : ∃ R, R = foldP z0 ls 0 := ⟨_, rfl⟩
  rw [← hR]
  obtain ⟨P, hP⟩ : ∃ P, P = prE (endE ls.length R) := ⟨_, rfl⟩
  rw [← hP]
  have HP0' := hid hP
  have HR0 := hid hR
  clear hR hP
  generalize hn : ls.length = n at *
  have HP0 := HP0'
  clear HP0'
  go_enter Tryz.func5, Tryz.ntmps5
  go_upto_region 1 with fail
  rw [← hX]
  clear hX
  go_upto_region 4 with (first | (go_at_call 16; refine HLi.out.mono ?_; rintro e w1 ⟨v, rfl, hv⟩; obtain ⟨la, lc, ev, hst⟩ := hv_strs hv; rw [hn] at ev; subst ev; have HP : Hid (PWd W w1 la ls) := hid ⟨below_on HX.out.1 hv.below, Nat.lt_of_lt_of_le HX.out.2.2 hv.below.size, HX.out.2.1.on hv.below, hst⟩; clear hv hst HX HLi))
  go_upto_region 5 with fail
  have Y0 : Hid (RdD w1 (w1.alloc (.cells #[.slice none 0 0, .bool false] 36)) w1.heap.size z0 (.slice none 0 0)) := hid (RdD.start w1)
  generalize World.alloc _ _ = w2 at *
  generalize w1.heap.size = g at *
  go_upto_region 7 with fail
  go_loopw [8, 9] (fun en i wr => ∃ (k : Nat) (st : Rdr) (v : Value), k ≤ n ∧ en = .bool st.ended ∧ i = .int .i64 (k : Int) ∧ RdD w1 wr g st v ∧ R = foldP st (ls.drop k) k) (fun _ i _ => n - (intOf i).toNat)
  case atStart => exact ⟨0, z0, _, Nat.zero_le _, rfl, rfl, Y0.out, HR0.out⟩
  case round =>
    clear Y0 HR0
    obtain ⟨k, st, v, hk, rfl, rfl, hs, hf⟩ := hrel
    have Y1 := hid hs
    have HF := hid hf
    clear hs hf
    by_cases hlt : k < n
    · have hkl : k < ls.length := by omega
      have hdr : ls.drop k = ls[k] :: ls.drop (k + 1) := List.drop_eq_getElem_cons hkl
      obtain ⟨gl, ol, rfl, hgl, hcl⟩ := strs_cell HP.out.ls (by omega)
      have cl : wr.cell? ⟨gl, ol + k, none⟩ = some (.string ⟨(ls[k]).toArray⟩) := (Y1.out.bl.cell (p := ⟨gl, ol + k, none⟩) hgl).trans (hcl k hkl)
      have hx : (⟨(ls[k]).toArray⟩ : ByteArray).size ≤ 1000000000 := by rw [sizeL]; exact HLe.out _ (List.getElem_mem _)
      generalize ls[k] = x at *
      have HPl := hid (fun w => plain17_any w ⟨x.toArray⟩ hx)
      have hxl : x.length ≤ 1000000000 := by rw [sizeL] at hx; exact hx
      rw [hdr] at HF
      have HN := hid (show k + 1 ≤ n by omega)
      have i3 : (k : Int) < (n : Int) := by omega
      have i4 : (k : Int) ≤ 65537 := by omega
      have HSt := hid (step_doc st x)
      clear hx hdr hkl hgl hcl
      have hdl : (⟨x.toArray⟩ : ByteArray).data.toList = x := rfl
      rw [hdl] at HPl
      clear hdl
      cases hpl : plD x with
      | none =>
        rw [hpl] at HPl HSt
        have HR : Hid (R = .inr (k + 1)) := hid (by rw [HF.out]; simp only [foldP, HSt.out])
        have HPl2 : Hid (∀ w, Calls Tryz.prog 17 #[.string ⟨x.toArray⟩] w fun e w' => e = .returned (.tuple #[.slice none 0 0, .bool false]) ∧ Below w.heap.size w w') := hid HPl.out
        clear HPl HSt HF hpl
        go_upto_region 10 with (first | (go_at_call 17; refine (HPl2.out _).mono ?_; rintro e w3 ⟨rfl, hb⟩; have B3 := hid (below_on Y1.out.bl hb); clear hb))
        clear Y1 cl HPl2
        go_wp2_with (first | (refine wpList_store_st rfl 36 _ _ rfl W.heap.size [.slice none 0 0, .bool false] rfl rfl (HP.out.box B3.out) size36d rfl rfl ?_; intro wz hcz hbz hsz; have YZ : Hid (Cel wz W.heap.size 36 [.slice none 0 0, .bool false] ∧ Below W.heap.size W wz) := hid ⟨hcz, (HP.out.all B3.out).trans (hbz.below (Nat.le_refl _) (HP.out.all B3.out).size)⟩; clear hcz hbz hsz))
        refine ret_q3 rfl rfl W.heap.size [.slice none 0 0, .bool false] rfl YZ.out.1 Tryz.underlying36 rfl size36d ?_
        rw [HP0.out, HR.out]
        exact PrP.bad (k := k + 1) YZ.out.2
      | some tt =>
        rw [hpl] at HPl HSt
        have HEa := hid (plD_each hpl)
        have HPl2 : Hid (∀ w, Calls Tryz.prog 17 #[.string ⟨x.toArray⟩] w fun e w' => ∃ v, e = .returned (.tuple #[v, .bool true]) ∧ L.HV w w' 9 v (L.strsV tt)) := hid HPl.out
        have HSt2 : Hid (stepP st x = stD st tt) := hid HSt.out
        clear HPl HSt hpl
        obtain ⟨en, hen⟩ : ∃ en, st.ended = en := ⟨_, rfl⟩
        rw [hen]
        go_upto_region 10 with (first | (go_at_call 17; refine (HPl2.out _).mono ?_; rintro e w3 ⟨vt, rfl, hv⟩; obtain ⟨ta, tc, ev, hst⟩ := hv_strs hv; subst ev; have Y2 := hid (Y1.out.on hv.below); have T2 := hid hst; clear hv hst))
        clear Y1 cl HPl2
        by_cases h0 : tt.length = 0
        · obtain rfl : tt = [] := List.eq_nil_of_length_eq_zero h0
          have HF2 : Hid (R = foldP st (ls.drop (k + 1)) (k + 1)) := hid (by rw [HF.out]; simp only [foldP, HSt2.out]; rfl)
          clear HF HSt2 h0
          go_wp2_with fail
          go_roundw
          case rel => exact ⟨k + 1, st, v, HN.out, by rw [hen], by go_num, Y2.out, HF2.out⟩
          case measure => have := HN.out; simp [intOf]; omega
        · have j0 : ((tt.length : Int) == 0) = false := by rw [beq_eq_false_iff_ne]; omega
          cases en
          rotate_left
          · have HR : Hid (R = .inr (k + 1)) := hid (by rw [HF.out]; simp only [foldP, HSt2.out, stD_ended hen h0])
            clear HF HSt2 h0
            go_wp2_with (first | (refine wpList_store_st rfl 36 _ _ rfl W.heap.size [.slice none 0 0, .bool false] rfl rfl (HP.out.box Y2.out.bl) size36d rfl rfl ?_; intro wz hcz hbz hsz; have YZ : Hid (Cel wz W.heap.size 36 [.slice none 0 0, .bool false] ∧ Below W.heap.size W wz) := hid ⟨hcz, (HP.out.all Y2.out.bl).trans (hbz.below (Nat.le_refl _) (HP.out.all Y2.out.bl).size)⟩; clear hcz hbz hsz))
            refine ret_q3 rfl rfl W.heap.size [.slice none 0 0, .bool false] rfl YZ.out.1 Tryz.underlying36 rfl size36d ?_
            rw [HP0.out, HR.out]
            exact PrP.bad (k := k + 1) YZ.out.2
          · go_upto_region 15 with fail
            have HTL : Hid (∀ y ∈ tt, y.length ≤ 1000000000) := hid (fun y hy => by have := HEa.out y hy; omega)
            have HRu := hid (fun (w : World) (h : L.StrsAt w ta tt) => ruled_any w ta tt.length tc tt rfl h HTL.out)
            clear HEa HTL hxl
            by_cases h2 : tt.length = 2
            · obtain ⟨a, b, rfl⟩ := len_two h2
              obtain ⟨tg, tq, rfl, htg, htc⟩ := strs_cell T2.out (by simp)
              have t0 : w3.cell? ⟨tg, tq, none⟩ = some (.string ⟨a.toArray⟩) := htc 0 (by simp)
              have t1 : w3.cell? ⟨tg, tq + 1, none⟩ = some (.string ⟨b.toArray⟩) := htc 1 (by simp)
              clear htc htg
              by_cases ha : a = oL
              · subst ha
                have HSa := hid (fun w => said_any w ⟨b.toArray⟩)
                unfold oL at t0
                cases hok : okA ⟨b.toArray⟩
                · have HR : Hid (R = .inr (k + 1)) := hid (by rw [HF.out]; simp only [foldP, HSt2.out]; rw [show stD st [oL, b] = none from by unfold stD; rw [if_neg (by simp), if_neg (by rw [hen]; decide), if_pos ⟨rfl, rfl⟩, if_neg (by rw [show [oL, b].getD 1 [] = b from rfl, hok]; decide)]])
                  rw [hok] at HSa
                  clear HF HSt2 hok HRu
                  generalize isA ⟨b.toArray⟩ = al at *
                  go_wp2_with (first | (go_at_call 18; refine (HSa.out _).mono ?_; rintro e w' ⟨rfl, hw⟩; subst w') | (refine wpList_store_st rfl 36 _ _ rfl W.heap.size [.slice none 0 0, .bool false] rfl rfl (HP.out.box Y2.out.bl) size36d rfl rfl ?_; intro wz hcz hbz hsz; have YZ : Hid (Cel wz W.heap.size 36 [.slice none 0 0, .bool false] ∧ Below W.heap.size W wz) := hid ⟨hcz, (HP.out.all Y2.out.bl).trans (hbz.below (Nat.le_refl _) (HP.out.all Y2.out.bl).size)⟩; clear hcz hbz hsz))
                  refine ret_q3 rfl rfl W.heap.size [.slice none 0 0, .bool false] rfl YZ.out.1 Tryz.underlying36 rfl size36d ?_
                  rw [HP0.out, HR.out]
                  exact PrP.bad (k := k + 1) YZ.out.2
                · have HF2 : Hid (R = foldP ⟨st.rules, isA ⟨b.toArray⟩, true⟩ (ls.drop (k + 1)) (k + 1)) := hid (by rw [HF.out]; simp only [foldP, HSt2.out]; rw [show stD st [oL, b] = some ⟨st.rules, isA ⟨b.toArray⟩, true⟩ from by unfold stD; rw [if_neg (by simp), if_neg (by rw [hen]; decide), if_pos ⟨rfl, rfl⟩, if_pos (by rw [show [oL, b].getD 1 [] = b from rfl, hok])]; rfl])
                  rw [hok] at HSa
                  clear HF HSt2 hok HRu
                  generalize isA ⟨b.toArray⟩ = al at *
                  have y1 : w3.cell? ⟨g, 1, none⟩ = some (.bool st.other) := Y2.out.cel.cell 1
                  have y2 := Y2.out.cel.free 1
                  go_wp2_with (first | (go_at_call 18; refine (HSa.out _).mono ?_; rintro e w' ⟨rfl, hw⟩; subst w'))
                  go_roundw
                  case rel => exact ⟨k + 1, ⟨st.rules, al, true⟩, v, HN.out, rfl, by go_num, Y2.out.said al, HF2.out⟩
                  case measure => have := HN.out; simp [intOf]; omega
              · have HR : Hid (R = .inr (k + 1)) := hid (by rw [HF.out]; simp only [foldP, HSt2.out]; rw [show stD st [a, b] = none from by unfold stD; rw [if_neg (by simp), if_neg (by rw [hen]; decide), if_neg (fun h => ha h.2)]; rfl])
                have n1 := toList_lit (t := ⟨a.toArray⟩) (l := [111, 116, 104, 101, 114]) (fun h => ha (by have := congrArg (fun s : ByteArray => s.data.toList) h; exact this))
                have hrl : rl3 [a, b] = none := rfl
                rw [hrl] at HRu
                clear HF HSt2 hrl ha
                generalize (⟨a.toArray⟩ : ByteArray) = A at t0 n1
                go_upto_region 22 with (first | (go_at_call 19; refine (HRu.out _ T2.out).mono ?_; rintro e w4 ⟨cs, bb, rfl, hl, h1, hb, hbb, hx3⟩; have Y3 := hid (Y2.out.on hb); have HL4 := hid hl; have HO4 := hid h1; obtain rfl : bb = false := hbb; clear hb hl h1 hx3 Y2) | (refine wpList_store_st rfl 60 _ _ rfl w4.heap.size cs rfl rfl (heap_alloc_new w4 zruO) (by rw [HL4.out]; exact size60) HL4.out.symm HO4.out ?_; intro w5 hc5 hb5 hs5; have Y4 : Hid (RdD w1 w5 g st v ∧ Cel w5 w4.heap.size 60 cs) := hid ⟨Y3.out.on (but_box hb5), hc5⟩; clear hc5 hb5 hs5 Y3; generalize w4.heap.size = g14 at *))
                clear T2 HRu t0 t1
                go_wp2_with (first | (refine wpList_store_st rfl 36 _ _ rfl W.heap.size [.slice none 0 0, .bool false] rfl rfl (HP.out.box Y4.out.1.bl) size36d rfl rfl ?_; intro wz hcz hbz hsz; have YZ : Hid (Cel wz W.heap.size 36 [.slice none 0 0, .bool false] ∧ Below W.heap.size W wz) := hid ⟨hcz, (HP.out.all Y4.out.1.bl).trans (hbz.below (Nat.le_refl _) (HP.out.all Y4.out.1.bl).size)⟩; clear hcz hbz hsz))
                refine ret_q3 rfl rfl W.heap.size [.slice none 0 0, .bool false] rfl YZ.out.1 Tryz.underlying36 rfl size36d ?_
                rw [HP0.out, HR.out]
                exact PrP.bad (k := k + 1) YZ.out.2
            · have j2 : ((tt.length : Int) == 2) = false := by rw [beq_eq_false_iff_ne]; omega
              cases hrl : rl3 tt with
              | none =>
                have HR : Hid (R = .inr (k + 1)) := hid (by rw [HF.out]; simp only [foldP, HSt2.out]; rw [show stD st tt = none from by unfold stD; rw [if_neg h0, if_neg (by rw [hen]; decide), if_neg (fun h => h2 h.1), hrl]])
                rw [hrl] at HRu
                clear HF HSt2 hrl h0 h2
                go_upto_region 22 with (first | (go_at_call 19; refine (HRu.out _ T2.out).mono ?_; rintro e w4 ⟨cs, bb, rfl, hl, h1, hb, hbb, hx3⟩; have Y3 := hid (Y2.out.on hb); have HL4 := hid hl; have HO4 := hid h1; obtain rfl : bb = false := hbb; clear hb hl h1 hx3 Y2) | (refine wpList_store_st rfl 60 _ _ rfl w4.heap.size cs rfl rfl (heap_alloc_new w4 zruO) (by rw [HL4.out]; exact size60) HL4.out.symm HO4.out ?_; intro w5 hc5 hb5 hs5; have Y4 : Hid (RdD w1 w5 g st v ∧ Cel w5 w4.heap.size 60 cs) := hid ⟨Y3.out.on (but_box hb5), hc5⟩; clear hc5 hb5 hs5 Y3; generalize w4.heap.size = g14 at *))
                clear T2 HRu
                go_wp2_with (first | (refine wpList_store_st rfl 36 _ _ rfl W.heap.size [.slice none 0 0, .bool false] rfl rfl (HP.out.box Y4.out.1.bl) size36d rfl rfl ?_; intro wz hcz hbz hsz; have YZ : Hid (Cel wz W.heap.size 36 [.slice none 0 0, .bool false] ∧ Below W.heap.size W wz) := hid ⟨hcz, (HP.out.all Y4.out.1.bl).trans (hbz.below (Nat.le_refl _) (HP.out.all Y4.out.1.bl).size)⟩; clear hcz hbz hsz))
                refine ret_q3 rfl rfl W.heap.size [.slice none 0 0, .bool false] rfl YZ.out.1 Tryz.underlying36 rfl size36d ?_
                rw [HP0.out, HR.out]
                exact PrP.bad (k := k + 1) YZ.out.2
              | some r =>
                rw [hrl] at HRu
                have hml := rl3_ml hrl
                by_cases h256 : st.rules.length = 256
                · have HR : Hid (R = .inr (k + 1)) := hid (by rw [HF.out]; simp only [foldP, HSt2.out]; rw [show stD st tt = none from by unfold stD; rw [if_neg h0, if_neg (by rw [hen]; decide), if_neg (fun h => h2 h.1), hrl]; exact if_pos h256])
                  have j3 : ((st.rules.length : Int) == 256) = true := by simp; omega
                  clear HF HSt2 hrl h0 h2 hml h256
                  go_upto_region 22 with (first | (go_at_call 19; refine (HRu.out _ T2.out).mono ?_; rintro e w4 ⟨cs, bb, rfl, hl, h1, hb, hbb, hx3⟩; have Y3 := hid (Y2.out.on hb); have HL4 := hid hl; have HO4 := hid h1; have HX3 := hid hx3; obtain rfl : bb = true := hbb; clear hb hl h1 hx3 Y2) | (refine wpList_store_st rfl 60 _ _ rfl w4.heap.size cs rfl rfl (heap_alloc_new w4 zruO) (by rw [HL4.out]; exact size60) HL4.out.symm HO4.out ?_; intro w5 hc5 hb5 hs5; have Y4 : Hid (RdD w1 w5 g st v ∧ Cel w5 w4.heap.size 60 cs) := hid ⟨Y3.out.on (but_box hb5), hc5⟩; clear hc5 hb5 hs5 Y3; generalize w4.heap.size = g14 at *))
                  clear T2 HRu
                  obtain ⟨av, cv, rfl⟩ := Y4.out.1.form
                  have y0 : w5.cell? ⟨g, 0, none⟩ = some (.slice av st.rules.length cv) := Y4.out.1.cel.cell 0
                  go_wp2_with (first | (refine wpList_store_st rfl 36 _ _ rfl W.heap.size [.slice none 0 0, .bool false] rfl rfl (HP.out.box Y4.out.1.bl) size36d rfl rfl ?_; intro wz hcz hbz hsz; have YZ : Hid (Cel wz W.heap.size 36 [.slice none 0 0, .bool false] ∧ Below W.heap.size W wz) := hid ⟨hcz, (HP.out.all Y4.out.1.bl).trans (hbz.below (Nat.le_refl _) (HP.out.all Y4.out.1.bl).size)⟩; clear hcz hbz hsz))
                  refine ret_q3 rfl rfl W.heap.size [.slice none 0 0, .bool false] rfl YZ.out.1 Tryz.underlying36 rfl size36d ?_
                  rw [HP0.out, HR.out]
                  exact PrP.bad (k := k + 1) YZ.out.2
                · have HF2 : Hid (R = foldP ⟨st.rules ++ [r], st.other, st.ended⟩ (ls.drop (k + 1)) (k + 1)) := hid (by rw [HF.out]; simp only [foldP, HSt2.out]; rw [show stD st tt = some ⟨st.rules ++ [r], st.other, st.ended⟩ from by unfold stD; rw [if_neg h0, if_neg (by rw [hen]; decide), if_neg (fun h => h2 h.1), hrl]; exact if_neg h256])
                  have j3 : ((st.rules.length : Int) == 256) = false := by rw [beq_eq_false_iff_ne]; omega
                  have HL6 := hid (show st.rules.length < 256 by have := Y2.out.le; omega)
                  clear HF HSt2 hrl h0 h2 h256
                  go_upto_region 22 with (first | (go_at_call 19; refine (HRu.out _ T2.out).mono ?_; rintro e w4 ⟨cs, bb, rfl, hl, h1, hb, hbb, hx3⟩; have Y3 := hid (Y2.out.on hb); have HL4 := hid hl; have HO4 := hid h1; have HX3 := hid hx3; obtain rfl : bb = true := hbb; clear hb hl h1 hx3 Y2) | (refine wpList_store_st rfl 60 _ _ rfl w4.heap.size cs rfl rfl (heap_alloc_new w4 zruO) (by rw [HL4.out]; exact size60) HL4.out.symm HO4.out ?_; intro w5 hc5 hb5 hs5; have Y4 : Hid (RdD w1 w5 g st v ∧ Cel w5 w4.heap.size 60 cs) := hid ⟨Y3.out.on (but_box hb5), hc5⟩; clear hc5 hb5 hs5 Y3; generalize w4.heap.size = g14 at *))
                  clear T2 HRu
                  obtain ⟨av, cv, rfl⟩ := Y4.out.1.form
                  have y0 : w5.cell? ⟨g, 0, none⟩ = some (.slice av st.rules.length cv) := Y4.out.1.cel.cell 0
                  have HCS := HX3.out r rfl
                  clear HX3
                  subst HCS
                  obtain ⟨al, nm, ms⟩ := r
                  match ms, hml with
                  | [a0, a1, a2, a3, a4, a5, a6, a7], _ =>
                  go_wp2_with (first | (refine wpList_load_mid rfl 60 _ rfl g14 0 rfl [.bool al, .string nm, .int .u32 a0, .int .u32 a1, .int .u32 a2, .int .u32 a3, .int .u32 a4, .int .u32 a5, .int .u32 a6, .int .u32 a7] _ (cel_range Y4.out.2) Tryz.underlying60 rfl size60 ?_) | (at_builtin; refine Y.wpList_append_s rfl _ _ 34 60 rfl Tryz.underlying34 Tryz.info60 rfl (by decide) (by decide) rfl (L.own_below Y4.out.1.own (below_one _ _)) (by have := Y4.out.1.bl.size; simp; omega) rfl rfl (Cel.lie (g := w5.heap.size) (e := 60) (cs := Rl.cs ⟨al, nm, [a0, a1, a2, a3, a4, a5, a6, a7]⟩) (heap_alloc_new w5 _)) (List.all_eq_true.1 (Rl.one ⟨al, nm, [a0, a1, a2, a3, a4, a5, a6, a7]⟩)) (by have := HL6.out; omega) ?_; intro v6 w6 hal; obtain ⟨aq, cq, rfl⟩ := Y.two_frm hal (by decide); have Y6 := hid (RdD.app (r := ⟨al, nm, [a0, a1, a2, a3, a4, a5, a6, a7]⟩) (Y4.out.1.on (below_one w5 _)) hal); have HML := hid Y4.out.1.ml; clear hal y0 Y4; have z0' : w6.cell? ⟨g, 0, none⟩ = some (.slice av st.rules.length cv) := Y6.out.cel.cell 0; have z1 := Y6.out.cel.free 0))
                  go_roundw
                  case rel => exact ⟨k + 1, ⟨st.rules ++ [⟨al, nm, [a0, a1, a2, a3, a4, a5, a6, a7]⟩], st.other, st.ended⟩, _, HN.out, by rw [hen], by go_num, Y6.out.put HML.out rfl HL6.out, HF2.out⟩
                  case measure => have := HN.out; simp [intOf]; omega
    · obtain rfl : k = n := by omega
      have HR : Hid (R = .inl st) := hid (by rw [HF.out, List.drop_of_length_le (by omega)]; rfl)
      have i5 : (k : Int) ≤ 65537 := by omega
      obtain ⟨ao, cp, rfl⟩ := Y1.out.form
      cases hen : st.ended
      · have HEN := hid (endE_no (n := k) hen)
        clear HF hen hlt hk
        go_wp2_with (first | (refine wpList_store_st rfl 36 _ _ rfl W.heap.size [.slice none 0 0, .bool false] rfl rfl (HP.out.box Y1.out.bl) size36d rfl rfl ?_; intro wz hcz hbz hsz; have YZ : Hid (Cel wz W.heap.size 36 [.slice none 0 0, .bool false] ∧ Below W.heap.size W wz) := hid ⟨hcz, (HP.out.all Y1.out.bl).trans (hbz.below (Nat.le_refl _) (HP.out.all Y1.out.bl).size)⟩; clear hcz hbz hsz))
        refine ret_q3 rfl rfl W.heap.size [.slice none 0 0, .bool false] rfl YZ.out.1 Tryz.underlying36 rfl size36d ?_
        rw [HP0.out, HR.out, HEN.out]
        exact PrP.bad (k := k + 1) YZ.out.2
      · have HEN := hid (endE_yes (n := k) hen)
        have HAp := hid (fun (w : World) (hc : Cel w W.heap.size 36 [.slice none 0 0, .bool false]) (ho : w.ownsRow w1.heap.size 60 10 (.slice ao st.rules.length cp) st.rules.length (rcs st.rules)) => own_ap ho hc (by decide))
        clear HF hen hlt hk
        go_wp2_with (first | (refine wpList_load_mid rfl 36 _ rfl g 0 rfl [.slice ao st.rules.length cp, .bool st.other] _ (cel_range Y1.out.cel) Tryz.underlying36 rfl size36d ?_) | (refine wpList_store_st rfl 36 _ _ rfl W.heap.size [.slice ao st.rules.length cp, .bool st.other] rfl rfl (HP.out.box Y1.out.bl) size36d rfl rfl ?_; intro w4 hc4 hb4 hs4; have Y4 : Hid (Cel w4 W.heap.size 36 [.slice ao st.rules.length cp, .bool st.other] ∧ Below W.heap.size W w4 ∧ w4.ownsRow W.heap.size 60 10 (.slice ao st.rules.length cp) st.rules.length (rcs st.rules)) := hid ⟨hc4, (HP.out.all Y1.out.bl).trans (hb4.below (Nat.le_refl _) (HP.out.all Y1.out.bl).size), L.own_mono (own_but Y1.out.own hb4 (HAp.out _ (HP.out.box Y1.out.bl) Y1.out.own)) (Nat.le_of_lt HP.out.lt)⟩; clear hc4 hb4 hs4))
        refine ret_q3 rfl rfl W.heap.size [.slice ao st.rules.length cp, .bool st.other] rfl Y4.out.1 Tryz.underlying36 rfl size36d ?_
        rw [HP0.out, HR.out, HEN.out]
        exact ⟨_, rfl, Y4.out.2.2, Y4.out.2.1⟩
theorem parse5_any (W : World) (s : ByteArray) : Calls Tryz.prog 5 #[.string s] W fun e W' => PrP 60 W W' e (prs s) := by
  unfold prs
  by_cases hs : s.size ≤ 65536
  · rw [if_pos hs]; exact parse5_short W s hs
  · rw [if_neg hs]; exact parse5_long W s (by omega)
end Go.Proofs.YtbpdmkohihgnjaaGreatDoor
