/- TextWords (3): its walk. -/
import Derived.Test.YtbjinmlelchmgaaDoorWdsT
import Derived.Deep.DeepCutAuto
namespace Go.Proofs.YtbjinmlelchmgaaDoor
open Go.RowKit

theorem cells_at (W : World) (e : TypeId) (C : Array Value) (m : List UInt8) (hC : C = (Lib.byteCells m).toArray) (g : Nat) (hg : g = W.heap.size) : ∀ j u, (Lib.byteCells m)[j]? = some u → (W.alloc (.cells C e)).cell? ((⟨g, 0, none⟩ : Addr).add j) = some u := by
  subst hg
  exact cells_new W e C m hC
theorem gapN_lt (g : Int) (t : Nat) : t < T.gapN g ↔ (t < 4 ∧ ((t : Int) < g ∨ t = 0)) := by
  unfold T.gapN
  split
  · omega
  · split <;> omega
set_option maxRecDepth 40000 in
set_option maxHeartbeats 4000000 in
theorem words_law (W : World) (htab : PowTab W) (ap : Option Addr) (bp off : Nat) (n cp : Nat) (hao : 0 < n → ap = some ⟨bp, off, none⟩) (ps : List T.Pc) (hn : ps.length = n) (A : Nat → Option Addr) (Cc : Nat → Nat) (hps : ∀ i (h : i < ps.length), PcAt W bp (off + i * 4) ps[i] (A i) (Cc i)) (hn0 : n ≤ 1048576) (htot : T.total ps ≤ 8388608) (cm : ByteArray) (hcm : cm.size ≤ 1048576) :
    Calls Tryd.prog 3 #[.slice ap n cp, .string cm] W fun e W' => e = .returned (.bool true) ∧ Below W.heap.size W W' := by
  obtain ⟨i5, hi5, hz50, hz51, hz52⟩ := info_parts Tryd.info5
  obtain ⟨i30, hi30, hz300, hz301, hz302⟩ := info_parts Tryd.info30
  have HP : Hid (PowTab W) := htab
  have HPS : Hid (∀ i (h : i < ps.length), PcAt W bp (off + i * 4) ps[i] (A i) (Cc i)) := hps
  have b1 : (n : Int) ≤ 1048576 := by omega
  have HAO : Hid (0 < n → ap = some ⟨bp, off, none⟩) := hao
  clear htab hps hao
  go_enter Tryd.func3, Tryd.ntmps3
  go_wp2_with fail
  refine (head_any W HP.out).mono ?_
  rintro e w1 ⟨rfl, B1⟩
  go_wp2_with fail
  go_loopw [5, 6, 7, 8, 9] (fun v u i _ _ wr => ∃ k : Nat, k ≤ n ∧ i = .int .i64 k ∧ HB W wr v (T.ren (ps.take k) 0).1 ∧ HW W wr u (T.ren (ps.take k) 0).2) (fun _ _ i _ _ _ => n - (intOf i).toNat)
  case atStart => exact ⟨0, Nat.zero_le _, rfl, HB.nil B1, HW.nil B1⟩
  case round =>
    clear B1
    obtain ⟨k, hk, rfl, F, G⟩ := hrel
    have hlen := T.ren_length (ps.take k) 0
    have htt := T.total_take ps k
    by_cases hlt : k < n
    · have c1 : (k : Int) < (n : Int) := by omega
      obtain rfl := HAO.out (by omega)
      clear HAO
      have hkl : k < ps.length := by omega
      have hpc := HPS.out k hkl
      have q0 := hpc.q
      have q1 := hpc.s
      have q2 := hpc.g
      have q3 := hpc.t
      rw [← F.below.cell (p := ⟨bp, off + k * 4, none⟩) hpc.lt] at q0
      rw [← F.below.cell (p := ⟨bp, off + k * 4 + 1, none⟩) hpc.lt] at q1
      rw [← F.below.cell (p := ⟨bp, off + k * 4 + 2, none⟩) hpc.lt] at q2
      rw [← F.below.cell (p := ⟨bp, off + k * 4 + 3, none⟩) hpc.lt] at q3
      have hpos : ps[k].b.length ≤ 8388608 := by
        have h1 := T.total_take ps (k + 1)
        have h2 := T.total_snoc ps k hkl
        omega
      have RT := T.ren_take ps k hkl
      have RS := T.ren_skip ps k hkl
      have hll : (T.ren (ps.take k) 0).1.length ≤ 8388608 := by omega
      have hwl : (T.ren (ps.take k) 0).2.length ≤ 1048576 := by
        have := List.length_take_le k ps
        omega
      have HC : Hid (∀ w, Below W.heap.size W w → (convert 24 9 (.slice (A k) ps[k].b.length (Cc k))).run Tryd.prog w = .ok (.string ⟨ps[k].b.toArray⟩) w) := fun w h => hpc.at'.conv rfl hpc.nil w h
      have HAT : Hid (AtB W (A k) ps[k].b) := hpc.at'
      clear hpc hlen htt
      generalize A k = ao at *
      generalize Cc k = cc at *
      generalize ps[k] = pc at *
      obtain ⟨pq, pb, pg, pt⟩ := pc
      simp only at q0 q1 q2 q3 hpos RT RS HC HAT
      have HRT : Hid (T.okP ⟨pq, pb, pg, pt⟩ = true → (T.ren (ps.take (k + 1)) 0).1 = (T.ren (ps.take k) 0).1 ++ T.padOf ⟨pq, pb, pg, pt⟩ ++ T.wordOf ⟨pq, pb, pg, pt⟩ ∧ (T.ren (ps.take (k + 1)) 0).2 = (T.ren (ps.take k) 0).2 ++ [⟨pb, pq, (T.ren (ps.take k) 0).1.length + (T.padOf ⟨pq, pb, pg, pt⟩).length + 1⟩]) := RT
      have HRS : Hid (T.okP ⟨pq, pb, pg, pt⟩ = false → T.ren (ps.take (k + 1)) 0 = T.ren (ps.take k) 0) := RS
      clear RT RS
      generalize hgL : (T.ren (ps.take k) 0).1 = L at *
      generalize hgW : (T.ren (ps.take k) 0).2 = ws at *
      have HL : Hid ((T.ren (ps.take k) 0).1 = L) := hgL
      have HWs : Hid ((T.ren (ps.take k) 0).2 = ws) := hgW
      clear hgL hgW
      cases pq with
      | true =>
        have S0 : St W (wr.alloc (.cells #[.bool true, .slice ao pb.length cc, .int .i64 pg, .bool pt] 27)) u5 u6 L ws wr.heap.size #[.bool true, .slice ao pb.length cc, .int .i64 pg, .bool pt] := ⟨F.alloc _, G.alloc _, heap_alloc_new wr _⟩
        clear F G
        go_upto_if 39 with fail
        go_cut [5] (fun v w => St W w v u6 (L ++ (if pt then [9] else [])) ws wr.heap.size #[.bool true, .slice ao pb.length cc, .int .i64 pg, .bool pt])
        case first =>
          cases pt
          · go_wp2_with fail
            go_meet
            simpa using S0
          · go_wp2_with (first | (at_builtin; refine wpList_append_st rfl _ _ _ rfl i5 Tryd.underlying24 hi5 hz50 hz51 hz52 _ _ _ _ _ _ rfl (S0.alloc _) _ _ _ [9] rfl rfl (cells_at _ _ _ _ rfl _ (by simp)) (by omega) ?_))
            intro v2 w2 S2
            go_wp2_with fail
            go_meet
            exact S2
        case rest =>
          clear S0 q0 q1 q2 q3
          have hL1 : (L ++ (if pt then [9] else [])).length ≤ 8388609 := by split <;> simp <;> omega
          have hLL : T.padOf ⟨true, pb, pg, pt⟩ = (if pt then [9] else []) ++ List.replicate (T.gapN pg) 32 := rfl
          have HLL : Hid (L ++ T.padOf ⟨true, pb, pg, pt⟩ = (L ++ (if pt then [9] else [])) ++ List.replicate (T.gapN pg) 32) := hid (by rw [hLL, List.append_assoc])
          clear hLL
          generalize L ++ (if pt then [9] else []) = L1 at *
          generalize wr.heap.size = P0 at *
          go_wp2_with fail
          go_loopw [5, 9] (fun v j w => ∃ t : Nat, t ≤ T.gapN pg ∧ j = .int .i64 t ∧ St W w v u6 (L1 ++ List.replicate t 32) ws P0 #[.bool true, .slice ao pb.length cc, .int .i64 pg, .bool pt]) (fun _ j _ => 4 - (intOf j).toNat)
          case atStart => exact ⟨0, Nat.zero_le _, rfl, by simpa using hcut⟩
          case round =>
            clear hcut
            obtain ⟨t, ht, rfl, S1⟩ := hrel
            have r0 := S1.cell 0
            have r1 := S1.cell 1
            have r2 := S1.cell 2
            have r3 := S1.cell 3
            simp only [List.getElem?_toArray, List.getElem?_cons_zero, List.getElem?_cons_succ] at r0 r1 r2 r3
            have hg := gapN_lt pg t
            have hg4 := gapN_lt pg 4
            by_cases hlt2 : t < T.gapN pg
            · have hh := hg.1 hlt2
              have d1 : (t : Int) < 4 := by omega
              have AP : Hid (∀ X v2 w2, X = L1 ++ List.replicate t 32 ++ [32] → St W w2 v2 u6 X ws P0 #[.bool true, .slice ao pb.length cc, .int .i64 pg, .bool pt] → St W w2 v2 u6 (L1 ++ List.replicate (t + 1) 32) ws P0 #[.bool true, .slice ao pb.length cc, .int .i64 pg, .bool pt]) := hid (fun X v2 w2 hX h => by
                subst hX
                rw [List.append_assoc, ← List.replicate_succ'] at h
                exact h)
              by_cases hpg : (t : Int) < pg
              · clear hg hg4 hh
                go_wp2_with (first | (at_builtin; refine wpList_append_st rfl _ _ _ rfl i5 Tryd.underlying24 hi5 hz50 hz51 hz52 _ _ _ _ _ _ rfl (S1.alloc _) _ _ _ [32] rfl rfl (cells_new _ _ _ _ rfl) (by simp; omega) ?_))
                intro v2 w2 S2
                go_wp2_with fail
                exact ⟨⟨t + 1, by omega, by go_num, AP.out _ _ _ (by simp) S2⟩, by simp [intOf]; omega⟩
              · have d2 : ((t : Int) == 0) = true := by simp; omega
                have d3 : pg ≤ (t : Int) := by omega
                clear hg hg4 hh hpg
                go_wp2_with (first | (at_builtin; refine wpList_append_st rfl _ _ _ rfl i5 Tryd.underlying24 hi5 hz50 hz51 hz52 _ _ _ _ _ _ rfl (S1.alloc _) _ _ _ [32] rfl rfl (cells_new _ _ _ _ rfl) (by simp; omega) ?_))
                intro v2 w2 S2
                go_wp2_with fail
                exact ⟨⟨t + 1, by omega, by go_num, AP.out _ _ _ (by simp) S2⟩, by simp [intOf]; omega⟩
            · obtain rfl : t = T.gapN pg := by omega
              have hgt : T.gapN pg ≤ 4 := by omega
              have hge : 1 ≤ T.gapN pg := by
                have := gapN_lt pg 0
                omega
              rw [← HLL.out] at S1
              have hLn : (L ++ T.padOf ⟨true, pb, pg, pt⟩).length ≤ 8388613 := by rw [HLL.out]; simp; omega
              have HQ1 : Hid (T.okP ⟨true, pb, pg, pt⟩ = true) := hid rfl
              obtain ⟨RT1, RT2⟩ := HRT.out HQ1.out
              have HR1 : Hid ((T.ren (ps.take (k + 1)) 0).1 = L ++ T.padOf ⟨true, pb, pg, pt⟩ ++ T.quote pb) := RT1
              have HR2 : Hid ((T.ren (ps.take (k + 1)) 0).2 = ws ++ [⟨pb, true, (L ++ T.padOf ⟨true, pb, pg, pt⟩).length + 1⟩]) := hid (by rw [RT2, List.length_append])
              clear RT1 RT2 HRT HRS HLL HQ1
              generalize L ++ T.padOf ⟨true, pb, pg, pt⟩ = L2 at *
              have CV := HC.out _ S1.b.below
              have HQT : Hid (∀ w, Below W.heap.size W w → Calls Tryd.prog 8 #[.slice ao pb.length cc] w fun e w' => e = .returned (.string ⟨(T.quote pb).toArray⟩) ∧ Below w.heap.size w w') := hid (fun w h => quote_any w ao pb.length cc pb rfl (by omega) (HAT.out.on h))
              have hql := (T.quote_length pb).2
              have FIN : Hid (∀ v2 u2 w2 L3 ws3, St W w2 v2 u2 L3 ws3 P0 #[.bool true, .slice ao pb.length cc, .int .i64 pg, .bool pt] → L3 = L2 ++ T.quote pb → ws3 = ws ++ [⟨pb, true, L2.length + 1⟩] → HB W w2 v2 (T.ren (ps.take (k + 1)) 0).1 ∧ HW W w2 u2 (T.ren (ps.take (k + 1)) 0).2) := hid (fun v2 u2 w2 L3 ws3 h h1 h2 => by
                rw [HR1.out, HR2.out, ← h1, ← h2]
                exact ⟨h.b, h.w⟩)
              clear HR1 HR2 HC HAT hL1 hll
              generalize T.quote pb = QB at *
              have hlenv : ∃ ao5 c5, u5 = .slice ao5 L2.length c5 := own_form S1.b.own
              obtain ⟨ao5, c5, rfl⟩ := hlenv
              have hcase : ((4 : Int) ≤ (T.gapN pg : Int)) ∨ ((T.gapN pg : Int) < 4 ∧ pg ≤ (T.gapN pg : Int) ∧ ((T.gapN pg : Int) == 0) = false) := by
                by_cases h4 : T.gapN pg = 4
                · left; omega
                · right
                  refine ⟨by omega, ?_, by simp; omega⟩
                  omega
              clear hg hg4 hlt2 ht
              generalize T.gapN pg = tg at *
              have AC : Hid (∀ X : World, ∀ j u, (wdC ⟨pb, true, L2.length + 1⟩)[j]? = some u → (X.alloc (.cells #[.string ⟨pb.toArray⟩, .bool true, .int .i64 ((L2.length : Int) + 1)] 30)).cell? ((⟨X.heap.size, 0, none⟩ : Addr).add j) = some u) := fun X => cells_new3 X 30 _ _ rfl
              rcases hcase with d1 | ⟨d1, d2, d3⟩
              all_goals
                go_wp2_with (first | (at_builtin; refine wpList_append_stw rfl _ _ _ rfl i30 Tryd.underlying25 hi30 hz300 hz301 hz302 _ _ _ _ _ _ rfl (S1.alloc _) _ _ ⟨pb, true, L2.length + 1⟩ rfl (AC.out _) (by omega) ?_))
                intro u2 w2 S2
                clear S1 r0 r1 r2 r3 CV
                have r0 := S2.cell 0
                have r1 := S2.cell 1
                simp only [List.getElem?_toArray, List.getElem?_cons_zero, List.getElem?_cons_succ] at r0 r1
                go_wp2_with fail
                refine (HQT.out _ S2.b.below).mono ?_
                rintro e w3 ⟨rfl, hb3⟩
                have S3 := S2.on hb3
                clear S2 hb3 r0 r1
                go_wp2_with (first | (at_builtin; refine wpList_append_st_str rfl _ _ _ _ rfl i5 Tryd.underlying24 Tryd.underlying9 hi5 hz50 hz51 hz52 _ _ _ _ _ _ rfl S3 QB rfl (by omega) ?_))
                intro v4 w4 S4
                obtain ⟨F5, G5⟩ := FIN.out _ _ _ _ _ S4 rfl rfl
                go_wp2_with fail
                exact ⟨⟨k + 1, by omega, by go_num, F5, G5⟩, by simp [intOf]; omega⟩
      | false =>
        have hoff : T.okP ⟨false, pb, pg, pt⟩ = T.plainW pb := rfl
        have HOK : Hid (T.okP ⟨false, pb, pg, pt⟩ = T.plainW pb) := hoff
        clear hoff
        have HPL : Hid (∀ w, Below W.heap.size W w → Calls Tryd.prog 7 #[.slice ao pb.length cc] w fun e w' => e = .returned (.bool (T.plainW pb)) ∧ w = w') := hid (fun w h => plain_any w ao pb.length cc pb rfl (by omega) (HAT.out.on h))
        have S0 : St W (wr.alloc (.cells #[.bool false, .slice ao pb.length cc, .int .i64 pg, .bool pt] 27)) u5 u6 L ws wr.heap.size #[.bool false, .slice ao pb.length cc, .int .i64 pg, .bool pt] := ⟨F.alloc _, G.alloc _, heap_alloc_new wr _⟩
        clear F G
        go_wp2_with fail
        refine (HPL.out _ S0.b.below).mono ?_
        rintro e w' ⟨rfl, rfl⟩
        cases hpl : T.plainW pb
        · rw [hpl] at HOK
          have HS := HRS.out HOK.out
          have F1 := S0.b
          have G1 := S0.w
          clear S0 HPL
          go_wp2_with fail
          exact ⟨⟨k + 1, by omega, by go_num, by rw [HS, HL.out]; exact F1, by rw [HS, HWs.out]; exact G1⟩, by simp [intOf]; omega⟩
        rw [hpl] at HOK
        obtain ⟨ad, rfl⟩ : ∃ ad, ao = some ad := by
          rcases HAT.out with h | ⟨bb, oo, h, _⟩
          · rw [h] at hpl; cases hpl
          · exact ⟨_, h⟩
        clear HPL hpl
        go_upto_if 39 with fail
        go_cut [5] (fun v w => St W w v u6 (L ++ (if pt then [9] else [])) ws wr.heap.size #[.bool false, .slice (some ad) pb.length cc, .int .i64 pg, .bool pt])
        case first =>
          cases pt
          · go_wp2_with fail
            go_meet
            simpa using S0
          · go_wp2_with (first | (at_builtin; refine wpList_append_st rfl _ _ _ rfl i5 Tryd.underlying24 hi5 hz50 hz51 hz52 _ _ _ _ _ _ rfl (S0.alloc _) _ _ _ [9] rfl rfl (cells_at _ _ _ _ rfl _ (by simp)) (by omega) ?_))
            intro v2 w2 S2
            go_wp2_with fail
            go_meet
            exact S2
        case rest =>
          clear S0 q0 q1 q2 q3
          have hL1 : (L ++ (if pt then [9] else [])).length ≤ 8388609 := by split <;> simp <;> omega
          have hLL : T.padOf ⟨false, pb, pg, pt⟩ = (if pt then [9] else []) ++ List.replicate (T.gapN pg) 32 := rfl
          have HLL : Hid (L ++ T.padOf ⟨false, pb, pg, pt⟩ = (L ++ (if pt then [9] else [])) ++ List.replicate (T.gapN pg) 32) := hid (by rw [hLL, List.append_assoc])
          clear hLL
          generalize L ++ (if pt then [9] else []) = L1 at *
          generalize wr.heap.size = P0 at *
          go_wp2_with fail
          go_loopw [5, 9] (fun v j w => ∃ t : Nat, t ≤ T.gapN pg ∧ j = .int .i64 t ∧ St W w v u6 (L1 ++ List.replicate t 32) ws P0 #[.bool false, .slice (some ad) pb.length cc, .int .i64 pg, .bool pt]) (fun _ j _ => 4 - (intOf j).toNat)
          case atStart => exact ⟨0, Nat.zero_le _, rfl, by simpa using hcut⟩
          case round =>
            clear hcut
            obtain ⟨t, ht, rfl, S1⟩ := hrel
            have r0 := S1.cell 0
            have r1 := S1.cell 1
            have r2 := S1.cell 2
            have r3 := S1.cell 3
            simp only [List.getElem?_toArray, List.getElem?_cons_zero, List.getElem?_cons_succ] at r0 r1 r2 r3
            have hg := gapN_lt pg t
            have hg4 := gapN_lt pg 4
            by_cases hlt2 : t < T.gapN pg
            · have hh := hg.1 hlt2
              have d1 : (t : Int) < 4 := by omega
              have AP : Hid (∀ X v2 w2, X = L1 ++ List.replicate t 32 ++ [32] → St W w2 v2 u6 X ws P0 #[.bool false, .slice (some ad) pb.length cc, .int .i64 pg, .bool pt] → St W w2 v2 u6 (L1 ++ List.replicate (t + 1) 32) ws P0 #[.bool false, .slice (some ad) pb.length cc, .int .i64 pg, .bool pt]) := hid (fun X v2 w2 hX h => by
                subst hX
                rw [List.append_assoc, ← List.replicate_succ'] at h
                exact h)
              by_cases hpg : (t : Int) < pg
              · clear hg hg4 hh
                go_wp2_with (first | (at_builtin; refine wpList_append_st rfl _ _ _ rfl i5 Tryd.underlying24 hi5 hz50 hz51 hz52 _ _ _ _ _ _ rfl (S1.alloc _) _ _ _ [32] rfl rfl (cells_new _ _ _ _ rfl) (by simp; omega) ?_))
                intro v2 w2 S2
                go_wp2_with fail
                exact ⟨⟨t + 1, by omega, by go_num, AP.out _ _ _ (by simp) S2⟩, by simp [intOf]; omega⟩
              · have d2 : ((t : Int) == 0) = true := by simp; omega
                have d3 : pg ≤ (t : Int) := by omega
                clear hg hg4 hh hpg
                go_wp2_with (first | (at_builtin; refine wpList_append_st rfl _ _ _ rfl i5 Tryd.underlying24 hi5 hz50 hz51 hz52 _ _ _ _ _ _ rfl (S1.alloc _) _ _ _ [32] rfl rfl (cells_new _ _ _ _ rfl) (by simp; omega) ?_))
                intro v2 w2 S2
                go_wp2_with fail
                exact ⟨⟨t + 1, by omega, by go_num, AP.out _ _ _ (by simp) S2⟩, by simp [intOf]; omega⟩
            · obtain rfl : t = T.gapN pg := by omega
              have hgt : T.gapN pg ≤ 4 := by omega
              have hge : 1 ≤ T.gapN pg := by
                have := gapN_lt pg 0
                omega
              rw [← HLL.out] at S1
              have hLn : (L ++ T.padOf ⟨false, pb, pg, pt⟩).length ≤ 8388613 := by rw [HLL.out]; simp; omega
              have HQ1 : Hid (T.okP ⟨false, pb, pg, pt⟩ = true) := HOK
              obtain ⟨RT1, RT2⟩ := HRT.out HQ1.out
              have HR1 : Hid ((T.ren (ps.take (k + 1)) 0).1 = L ++ T.padOf ⟨false, pb, pg, pt⟩ ++ pb) := RT1
              have HR2 : Hid ((T.ren (ps.take (k + 1)) 0).2 = ws ++ [⟨pb, false, (L ++ T.padOf ⟨false, pb, pg, pt⟩).length + 1⟩]) := hid (by rw [RT2, List.length_append])
              clear RT1 RT2 HRT HRS HLL HQ1
              generalize L ++ T.padOf ⟨false, pb, pg, pt⟩ = L2 at *
              have CV := HC.out _ S1.b.below
              have HQT : Hid (∀ w, Below W.heap.size W w → ∀ j u, (Lib.byteCells pb)[j]? = some u → w.cell? (ad.add j) = some u) := hid (fun w h => HAT.out.cells h)
              have FIN : Hid (∀ v2 u2 w2 L3 ws3, St W w2 v2 u2 L3 ws3 P0 #[.bool false, .slice (some ad) pb.length cc, .int .i64 pg, .bool pt] → L3 = L2 ++ pb → ws3 = ws ++ [⟨pb, false, L2.length + 1⟩] → HB W w2 v2 (T.ren (ps.take (k + 1)) 0).1 ∧ HW W w2 u2 (T.ren (ps.take (k + 1)) 0).2) := hid (fun v2 u2 w2 L3 ws3 h h1 h2 => by
                rw [HR1.out, HR2.out, ← h1, ← h2]
                exact ⟨h.b, h.w⟩)
              clear HR1 HR2 HC HAT hL1 hll
              have hlenv : ∃ ao5 c5, u5 = .slice ao5 L2.length c5 := own_form S1.b.own
              obtain ⟨ao5, c5, rfl⟩ := hlenv
              have hcase : ((4 : Int) ≤ (T.gapN pg : Int)) ∨ ((T.gapN pg : Int) < 4 ∧ pg ≤ (T.gapN pg : Int) ∧ ((T.gapN pg : Int) == 0) = false) := by
                by_cases h4 : T.gapN pg = 4
                · left; omega
                · right
                  refine ⟨by omega, ?_, by simp; omega⟩
                  omega
              clear hg hg4 hlt2 ht
              generalize T.gapN pg = tg at *
              have AC : Hid (∀ X : World, ∀ j u, (wdC ⟨pb, false, L2.length + 1⟩)[j]? = some u → (X.alloc (.cells #[.string ⟨pb.toArray⟩, .bool false, .int .i64 ((L2.length : Int) + 1)] 30)).cell? ((⟨X.heap.size, 0, none⟩ : Addr).add j) = some u) := fun X => cells_new3 X 30 _ _ rfl
              rcases hcase with d1 | ⟨d1, d2, d3⟩
              all_goals
                go_wp2_with (first | (at_builtin; refine wpList_append_stw rfl _ _ _ rfl i30 Tryd.underlying25 hi30 hz300 hz301 hz302 _ _ _ _ _ _ rfl (S1.alloc _) _ _ ⟨pb, false, L2.length + 1⟩ rfl (AC.out _) (by omega) ?_))
                intro u2 w2 S2
                clear S1 r0 r1 r2 r3 CV
                have r0 := S2.cell 0
                have r1 := S2.cell 1
                simp only [List.getElem?_toArray, List.getElem?_cons_zero, List.getElem?_cons_succ] at r0 r1
                go_wp2_with (first | (at_builtin; refine wpList_append_st rfl _ _ _ rfl i5 Tryd.underlying24 hi5 hz50 hz51 hz52 _ _ _ _ _ _ rfl S2 _ _ _ pb rfl rfl (HQT.out _ S2.b.below) (by omega) ?_))
                intro v4 w4 S4
                obtain ⟨F5, G5⟩ := FIN.out _ _ _ _ _ S4 rfl rfl
                go_wp2_with fail
                exact ⟨⟨k + 1, by omega, by go_num, F5, G5⟩, by simp [intOf]; omega⟩
    · obtain rfl : k = n := by omega
      rw [List.take_of_length_le (by omega)] at F G hlen
      have hbad := T.bad_ren ps cm.data.toList
      have hgood := T.words_ren ps cm.data.toList
      have hL : (T.ren ps 0).1.length ≤ 8388608 := by omega
      have hws : (T.ren ps 0).2.length ≤ 1048576 := by omega
      clear htt hlen HPS hk hlt
      generalize (T.ren ps 0).1 = L at *
      generalize (T.ren ps 0).2 = ws at *
      obtain ⟨a5, c5, rfl⟩ := own_form F.own
      obtain ⟨a6, c6, rfl⟩ := own_form G.own
      obtain ⟨SL, hSL⟩ : ∃ SL : ByteArray, SL = ⟨L.toArray⟩ := ⟨_, rfl⟩
      have sL : SL.size = L.length := by rw [hSL, size_of]
      have hcv : (convert 24 9 (.slice a5 L.length c5)).run Tryd.prog wr = .ok (.string SL) wr := by rw [hSL]; exact F.conv2
      have HWD : Hid (∀ w, Calls Tryd.prog 9 #[.string (SL ++ (⟨#[32, 9, 35]⟩ : ByteArray) ++ cm)] w fun e w' => ∃ v, e = .returned (.tuple #[v, .int .i64 0, .int .i64 0]) ∧ HW w w' v ws) := hid (fun w => by
        have hd : (SL ++ (⟨#[32, 9, 35]⟩ : ByteArray) ++ cm).data.toList = L ++ ([32, 9, 35] ++ cm.data.toList) := by
          rw [data_app, data_app, hSL]
          simp
        have hsz : (SL ++ (⟨#[32, 9, 35]⟩ : ByteArray) ++ cm).size ≤ 1000000000 := by
          have : (SL ++ (⟨#[32, 9, 35]⟩ : ByteArray) ++ cm).size = (SL ++ (⟨#[32, 9, 35]⟩ : ByteArray) ++ cm).data.toList.length := rfl
          rw [this, hd]
          simp
          have : cm.data.size = cm.size := rfl
          omega
        have := words_any w (SL ++ (⟨#[32, 9, 35]⟩ : ByteArray) ++ cm) hsz
        rw [hd, hgood] at this
        exact this)
      have HBAD : Hid (T.rd (L ++ ([32] ++ (T.quote cm.data.toList ++ [120]))) 0 = .inl (L.length + 1 + (T.quote cm.data.toList).length)) := hbad
      have e10 : L.length + 3 ≤ 9223372036854775807 := by omega
      have e11 : L.length + 3 + cm.size ≤ 9223372036854775807 := by omega
      clear hbad hgood hSL
      go_upto_region 20 with fail
      go_cut [10, 11, 12] (fun p q r w => ∃ a7 c7, p = .slice a7 ws.length c7 ∧ q = .int .i64 0 ∧ r = .int .i64 0 ∧ HB W w (.slice a5 L.length c5) L ∧ HW W w (.slice a6 ws.length c6) ws ∧ HW W w (.slice a7 ws.length c7) ws)
      case first =>
        go_wp2_with fail
        refine (HWD.out _).mono ?_
        rintro e w2 ⟨v, rfl, h⟩
        obtain ⟨a7, c7, rfl⟩ := own_form h.own
        have F2 := F.on h.below
        have G2 := G.on h.below
        have h2 := h.old F.below
        clear h F G hcv
        go_wp2_with fail
        go_meet
        exact ⟨a7, c7, rfl, rfl, rfl, F2, G2, h2⟩
      case rest =>
        obtain ⟨a7, c7, rfl, rfl, rfl, F2, G2, h2⟩ := hcut
        exact (‹∀ (a : Act) (w : World), Code.wp Tryd.prog _ _ a w → _› _ _ (wordsT W _ L ws a5 a6 a7 c5 c6 c7 F2 G2 h2 cm hcm hL hws HBAD.out))
end Go.Proofs.YtbjinmlelchmgaaDoor
