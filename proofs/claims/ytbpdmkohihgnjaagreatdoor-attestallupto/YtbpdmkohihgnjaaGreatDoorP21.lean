import Derived.Test.YtbpdmkohihgnjaaGreatDoorP20
import Derived.Test.YtbpdmkohihgnjaaGreatDoorP01
import Derived.Test.YtbpdmkohihgnjaaGreatDoorP15
import Derived.Test.YtbpdmkohihgnjaaGreatDoorP19
import Derived.Test.YtbpdmkohihgnjaaGreatDoorP04
namespace Go.Proofs.YtbpdmkohihgnjaaGreatDoor
open Go.RowKit
set_option maxHeartbeats 4000000
set_option maxRecDepth 100000
theorem rdRule_eq (st : Rdr) (a b c : ByteArray) : rdRule st a.data.toList b.data.toList c.data.toList = if okA a = true ∧ L.T.name b.data.toList = true ∧ ok8 c ∧ st.rules.length ≠ 256 then some ⟨st.rules ++ [⟨isA a, b, w8 c⟩], st.other, st.ended⟩ else none := by
  unfold rdRule okA isA
  have e1 : (⟨c.data.toList.toArray⟩ : ByteArray) = c := rfl
  have e2 : (⟨b.data.toList.toArray⟩ : ByteArray) = b := rfl
  cases alw a.data.toList with
  | none => simp
  | some v => simp [e1, e2]
theorem name_yes (W : World) (s : ByteArray) (hs : s.size ≤ 140737488355328) (h : L.T.name s.data.toList = true) : Calls Tryz.prog 75 #[.string s] W fun e W' => e = .returned (.int .i64 0) ∧ W' = W :=
  (L.name_any W s hs).mono (by rintro e w ⟨rfl, rfl⟩; exact ⟨by rw [if_pos h], rfl⟩)
theorem name_not (W : World) (s : ByteArray) (hs : s.size ≤ 140737488355328) (h : L.T.name s.data.toList = false) : Calls Tryz.prog 75 #[.string s] W fun e W' => e = .returned (.int .i64 42) ∧ W' = W :=
  (L.name_any W s hs).mono (by rintro e w ⟨rfl, rfl⟩; exact ⟨by rw [h]; rfl, rfl⟩)
theorem built42 (al : Bool) (b : ByteArray) (a0 a1 a2 a3 a4 a5 a6 a7 : Int) : Tryz.prog.built 63 [(0, .bool al), (1, .string b), (2, .agg #[.int .u32 a0, .int .u32 a1, .int .u32 a2, .int .u32 a3, .int .u32 a4, .int .u32 a5, .int .u32 a6, .int .u32 a7])] = some #[.bool al, .string b, .int .u32 a0, .int .u32 a1, .int .u32 a2, .int .u32 a3, .int .u32 a4, .int .u32 a5, .int .u32 a6, .int .u32 a7] := by kernel_rfl
structure Y97 (W : World) (g g11 : Nat) (E : Nat → Addr) (st : Rdr) (v : Value) (M : List Int) (w : World) : Prop where
  s : RdS W w g st v
  es : ErrS w E
  m : Cel w g11 26 (M.map (Value.int .u32))
theorem Y97.on {W : World} {g g11 : Nat} {E : Nat → Addr} {st : Rdr} {v : Value} {M : List Int} {w w' : World} (h : Y97 W g g11 E st v M w) (hb : Below w.heap.size w w') : Y97 W g g11 E st v M w' := ⟨h.s.on hb, h.es.on hb, h.m.on hb⟩
attribute [-simp] Tryz.isAgg26 Tryz.zeroValue26
theorem readRule_any (W w : World) (E : Nat → Addr) (g : Nat) (st : Rdr) (v : Value) (hE : ErrS w E) (H : RdS W w g st v) (a b c : ByteArray) (hb : b.size ≤ 140737488355328) (hc : c.size ≤ 140737488355328) :
    Calls Tryz.prog 46 #[.pointer (some ⟨g, 0, none⟩), .string a, .string b, .string c] w fun e w' => RdP W w' g E e (rdRule st a.data.toList b.data.toList c.data.toList) := by
  rw [rdRule_eq]
  obtain ⟨ao, cp, rfl⟩ := H.form
  obtain ⟨Z, hZ⟩ : ∃ Z : List Int, Z = List.replicate 8 0 := ⟨_, rfl⟩
  have hZl : Z.length = 8 := by rw [hZ]; simp
  have hz : ∀ w, (zeroValue 26).run Tryz.prog w = .ok (.agg (Z.map (Value.int .u32)).toArray) w := fun w => by rw [Tryz.zeroValue26, hZ]; rfl
  clear hZ
  have HA := hid (fun w => allows_any w a)
  have H8 := hid (fun w => eightOf_any w c hc)
  have HY := hid (fun (h : L.T.name b.data.toList = true) w => name_yes w b hb h)
  have HNo := hid (fun (h : L.T.name b.data.toList = false) w => name_not w b hb h)
  have la := w8_length c
  have HS := hid H
  have HE := hid hE
  obtain ⟨R, hR⟩ : ∃ R, R = if okA a = true ∧ L.T.name b.data.toList = true ∧ ok8 c ∧ st.rules.length ≠ 256 then some (⟨st.rules ++ [⟨isA a, b, w8 c⟩], st.other, st.ended⟩ : Rdr) else none := ⟨_, rfl⟩
  rw [← hR]
  have HC : Hid ((okA a = true → L.T.name b.data.toList = true → ok8 c → st.rules.length ≠ 256 → False) → R = none) := hid fun h => hR.trans (if_neg fun hh => h hh.1 hh.2.1 hh.2.2.1 hh.2.2.2)
  have HT : Hid (okA a = true → L.T.name b.data.toList = true → ok8 c → st.rules.length ≠ 256 → R = some ⟨st.rules ++ [⟨isA a, b, w8 c⟩], st.other, st.ended⟩) := hid fun h1 h2 h3 h4 => hR.trans (if_pos ⟨h1, h2, h3, h4⟩)
  clear hR
  have HD : Hid (decide (ok8 c) = true ↔ ok8 c) := hid (by simp)
  clear H hE hb hc
  generalize decide (ok8 c) = o8 at *
  generalize w8 c = M at *
  generalize hoa : okA a = oa at *
  generalize hal : isA a = al at *
  clear hoa hal
  unfold Ag at H8
  go_enter Tryz.func46, Tryz.ntmps46
  go_upto_region 2 with (first | (go_at_call 73; refine (HA.out _).mono ?_; rintro e w1 ⟨rfl, hw1⟩; subst w1))
  go_wp2_with fail
  refine (H8.out _).mono ?_
  rintro e w1 ⟨rfl, hb1⟩
  have Y1 : Hid (RdS W w1 g st (.slice ao st.rules.length cp) ∧ ErrS w1 E) := hid ⟨HS.out.on hb1, HE.out.on hb1⟩
  clear hb1 HS HE H8 HA
  go_upto_region 3 with (first | (refine wpList_store_but rfl 26 _ _ rfl w1.heap.size M rfl rfl (Blk.new w1 .u32 26 Z) (by rw [la]; exact size26) (by rw [hZl, la]) ?_; intro w2 bA hbt hsz; have Y2 : Hid (Y97 W g w1.heap.size E st (.slice ao st.rules.length cp) M w2) := hid ⟨Y1.out.1.on (but_box hbt), Y1.out.2.on (but_box hbt), blk_cel bA⟩; clear bA hbt hsz))
  generalize w1.heap.size = g11 at *
  clear Y1 hZl hz
  have c6 : w2.cell? ⟨1, 0, none⟩ = some (.iface 245 (.pointer (some (E 6)))) := Y2.out.es.k6
  have c0 : w2.cell? ⟨g, 0, none⟩ = some (.slice ao st.rules.length cp) := Y2.out.s.cel.cell 0
  cases oa
  · have HR := hid (HC.out (fun h => by cases h))
    clear HC HT HY HNo c0
    go_wp2_with fail
    go_ret
    rw [HR.out]
    exact RdP.err Y2.out.s.bl
  · cases hn : L.T.name b.data.toList
    · have HN := hid (HNo.out hn)
      have HR := hid (HC.out (fun _ h => by rw [hn] at h; cases h))
      clear HC HT HY HNo c0 hn
      go_wp2_with (first | (go_at_call 75; refine (HN.out _).mono ?_; rintro e w3 ⟨rfl, hw⟩; subst w3))
      go_ret
      rw [HR.out]
      exact RdP.err Y2.out.s.bl
    · have HN := hid (HY.out hn)
      cases o8
      · have HR := hid (HC.out (fun _ _ h => by have := HD.out.2 h; cases this))
        clear HC HT HY HNo c0 hn
        go_wp2_with (first | (go_at_call 75; refine (HN.out _).mono ?_; rintro e w3 ⟨rfl, hw⟩; subst w3))
        go_ret
        rw [HR.out]
        exact RdP.err Y2.out.s.bl
      · by_cases hl : st.rules.length = 256
        · have HR := hid (HC.out (fun _ _ _ h => h hl))
          have i1 : ((st.rules.length : Int) == 256) = true := by simp; omega
          clear HC HT HY HNo hn hl
          go_wp2_with (first | (go_at_call 75; refine (HN.out _).mono ?_; rintro e w3 ⟨rfl, hw⟩; subst w3))
          go_ret
          rw [HR.out]
          exact RdP.err Y2.out.s.bl
        · have HR := hid (HT.out rfl hn (HD.out.1 rfl) hl)
          have i1 : ((st.rules.length : Int) == 256) = false := by simp; omega
          have HL := hid (show st.rules.length < 256 by have := Y2.out.s.le; omega)
          clear HC HT HY HNo hn hl HD
          match M, la with
          | [a0, a1, a2, a3, a4, a5, a6, a7], _ =>
          go_upto_region 5 with (first | (go_at_call 75; refine (HN.out _).mono ?_; rintro e w3 ⟨rfl, hw⟩; subst w3))
          clear HN i1 c6 c0
          have Y3 := hid (Y2.out.on (Below.refl _ _).drew)
          clear Y2
          refine wp_region_held_drew (S := fun w => Cel w g11 26 [.int .u32 a0, .int .u32 a1, .int .u32 a2, .int .u32 a3, .int .u32 a4, .int .u32 a5, .int .u32 a6, .int .u32 a7]) (by kernel_rfl) Y3.out.m (fun hHeld => ?_)
          generalize World.drew _ = w3 at *
          refine tk 0 ⟨some 44, .move (.tmp 0), 100, "read.go:84", #[], none⟩ (.pointer (some ⟨g, 0, none⟩)) ?_
          simp only [Act.put, List.setIfInBounds_toArray, List.set_cons_zero, List.set_cons_succ]
          refine tk 1 ⟨some 45, .move (.tmp 0), 100, "read.go:84", #[], none⟩ (.pointer (some ⟨g, 0, none⟩)) ?_
          simp only [Act.put, List.setIfInBounds_toArray, List.set_cons_zero, List.set_cons_succ]
          refine tk 2 ⟨some 46, .nilCheck (.tmp 45), 0, "read.go:84", #[⟨1, .data⟩], none⟩ (.pointer (some ⟨g, 0, none⟩)) ?_
          simp only [Act.put, List.setIfInBounds_toArray, List.set_cons_zero, List.set_cons_succ]
          refine tk 3 ⟨some 47, .fieldAddr 68 (.tmp 46) 0, 0, "read.go:84", #[⟨2, .data⟩], none⟩ (.pointer (some ⟨g, 0, none⟩)) ?_
          simp only [Act.put, List.setIfInBounds_toArray, List.set_cons_zero, List.set_cons_succ]
          refine tk 4 ⟨some 48, .fieldAddr 24 (.tmp 47) 0, 0, "read.go:84", #[⟨3, .data⟩], none⟩ (.pointer (some ⟨g, 0, none⟩)) ?_
          simp only [Act.put, List.setIfInBounds_toArray, List.set_cons_zero, List.set_cons_succ]
          refine tk 6 ⟨some 50, .move (.tmp 9), 4, "read.go:84", #[], none⟩ (.bool al) ?_
          simp only [Act.put, List.setIfInBounds_toArray, List.set_cons_zero, List.set_cons_succ]
          refine tk 7 ⟨some 51, .move (.tmp 2), 9, "read.go:84", #[], none⟩ (.string b) ?_
          simp only [Act.put, List.setIfInBounds_toArray, List.set_cons_zero, List.set_cons_succ]
          refine tk 8 ⟨some 52, .load 26 (.tmp 11), 26, "read.go:84", #[], none⟩ (.agg #[.int .u32 a0, .int .u32 a1, .int .u32 a2, .int .u32 a3, .int .u32 a4, .int .u32 a5, .int .u32 a6, .int .u32 a7]) ?_ (hy := yieldsIf_load_mid (by rfl) _ _ rfl _ _ rfl _ _ (fun w hSw => cel_range hSw) Tryz.underlying26 rfl size26)
          simp only [Act.put, List.setIfInBounds_toArray, List.set_cons_zero, List.set_cons_succ]
          refine tk 9 ⟨some 53, .build 63 #[(0, .tmp 50), (1, .tmp 51), (2, .tmp 52)], 63, "read.go:84", #[⟨6, .data⟩, ⟨7, .data⟩, ⟨8, .data⟩], none⟩ (.agg #[.bool al, .string b, .int .u32 a0, .int .u32 a1, .int .u32 a2, .int .u32 a3, .int .u32 a4, .int .u32 a5, .int .u32 a6, .int .u32 a7]) ?_ (hy := Or.inl ⟨by rfl, by intro w hSw; have hbu := run_build (P := Tryz.prog) w 63 _ _ (built42 al b a0 a1 a2 a3 a4 a5 a6 a7); go_simp⟩)
          simp only [Act.put, List.setIfInBounds_toArray, List.set_cons_zero, List.set_cons_succ]
          refine wpAnyH_ready (rs := [5, 10]) (by kernel_rfl) (by simp) (AllReadyH.cons (o := ⟨some 49, .load 22 (.tmp 48), 22, "read.go:84", #[⟨4, .data⟩], none⟩) rfl (fun KQ hK => ?_) (AllReadyH.cons (o := ⟨some 54, .buildSlice 22 1 #[(0, .tmp 53)], 22, "read.go:84", #[⟨9, .data⟩], none⟩) rfl (fun KQ hK => ?_) AllReadyH.nil))
          · have y0 : (_ : World).cell? ⟨g, 0, none⟩ = some (.slice ao st.rules.length cp) := Y3.out.s.cel.cell 0
            go_simp
            clear y0
            refine hK.out _ _ Y3.out.m (fun hHeld => ?_)
            clear hK KQ
            try simp only [Act.put, List.setIfInBounds_toArray, List.set_cons_zero, List.set_cons_succ]
            refine wpAnyH_ready (rs := [10]) (by kernel_rfl) (by simp) (AllReadyH.cons (o := ⟨some 54, .buildSlice 22 1 #[(0, .tmp 53)], 22, "read.go:84", #[⟨9, .data⟩], none⟩) rfl (fun KQ hK => ?_) AllReadyH.nil)
            go_simp
            have Y4 : Hid (Y97 W g g11 E st (.slice ao st.rules.length cp) [a0, a1, a2, a3, a4, a5, a6, a7] (w3.alloc (.cells #[.bool al, .string b, .int .u32 a0, .int .u32 a1, .int .u32 a2, .int .u32 a3, .int .u32 a4, .int .u32 a5, .int .u32 a6, .int .u32 a7] 63))) := hid (Y3.out.on (below_one w3 _))
            have HSrc : Hid (Cel (w3.alloc (.cells #[.bool al, .string b, .int .u32 a0, .int .u32 a1, .int .u32 a2, .int .u32 a3, .int .u32 a4, .int .u32 a5, .int .u32 a6, .int .u32 a7] 63)) w3.heap.size 63 (Rl.cs ⟨al, b, [a0, a1, a2, a3, a4, a5, a6, a7]⟩)) := hid (heap_alloc_new _ _)
            clear Y3
            generalize World.alloc _ _ = w4 at *
            generalize w3.heap.size = gb at *
            refine hK.out _ _ Y4.out.m (fun hHeld => ?_)
            clear hK KQ
            try simp only [Act.put, List.setIfInBounds_toArray, List.set_cons_zero, List.set_cons_succ]
            refine wpAnyH_ready (rs := [11]) (by kernel_rfl) (by simp) (AllReadyH.cons (o := ⟨some 55, .call { callee := .builtin .append, args := #[.tmp 49, .tmp 54], argTypes := #[22, 22] }, 22, "read.go:84", #[⟨5, .data⟩, ⟨10, .data⟩], none⟩) rfl (fun KQ hK => ?_) AllReadyH.nil)
            rw [if_pos (by rfl)]
            refine wp_append_r (B := W.heap.size) 22 Tryz.underlying22 _ _ rfl (.slice ao st.rules.length cp) st.rules rfl Y4.out.s.own Y4.out.s.bl.size gb 1 ⟨al, b, [a0, a1, a2, a3, a4, a5, a6, a7]⟩ rfl HSrc.out rfl Y4.out.s.le ?_
            intro v5 w5 h5 hgr
            obtain ⟨ao5, cp5, e5⟩ := L.own_form h5
            obtain rfl : v5 = .slice ao5 (st.rules.length + 1) cp5 := by rw [e5]; simp
            clear e5
            have Y5 := hid (Y4.out.s.app h5 hgr)
            have HC5 := hid (grown_cel Y4.out.s.own hgr Y4.out.m (by decide))
            have HML := hid Y4.out.s.ml
            have HGK : Hid (g11 ≠ g) := hid (cel_ne Y4.out.m Y4.out.s.cel (by decide))
            have y1 : w5.cell? ⟨g, 0, none⟩ = some (.slice ao st.rules.length cp) := Y5.out.cel.cell 0
            have y2 := Y5.out.cel.free 0
            clear hgr h5 Y4 HSrc
            refine hK.out _ _ HC5.out (fun hHeld => ?_)
            clear hK KQ
            try simp only [Act.put, List.setIfInBounds_toArray, List.set_cons_zero, List.set_cons_succ]
            refine tk 12 ⟨some 56, .nilCheck (.tmp 44), 0, "read.go:84", #[⟨0, .data⟩, ⟨0, .phase⟩, ⟨1, .phase⟩, ⟨2, .phase⟩, ⟨3, .phase⟩, ⟨4, .phase⟩, ⟨5, .phase⟩, ⟨6, .phase⟩, ⟨7, .phase⟩, ⟨8, .phase⟩, ⟨9, .phase⟩, ⟨10, .phase⟩, ⟨11, .phase⟩], none⟩ (.pointer (some ⟨g, 0, none⟩)) ?_
            simp only [Act.put, List.setIfInBounds_toArray, List.set_cons_zero, List.set_cons_succ]
            refine tk 13 ⟨some 57, .fieldAddr 68 (.tmp 56) 0, 0, "read.go:84", #[⟨12, .data⟩, ⟨0, .phase⟩, ⟨1, .phase⟩, ⟨2, .phase⟩, ⟨3, .phase⟩, ⟨4, .phase⟩, ⟨5, .phase⟩, ⟨6, .phase⟩, ⟨7, .phase⟩, ⟨8, .phase⟩, ⟨9, .phase⟩, ⟨10, .phase⟩, ⟨11, .phase⟩], none⟩ (.pointer (some ⟨g, 0, none⟩)) ?_
            simp only [Act.put, List.setIfInBounds_toArray, List.set_cons_zero, List.set_cons_succ]
            refine tk 14 ⟨some 58, .fieldAddr 24 (.tmp 57) 0, 0, "read.go:84", #[⟨13, .data⟩, ⟨0, .phase⟩, ⟨1, .phase⟩, ⟨2, .phase⟩, ⟨3, .phase⟩, ⟨4, .phase⟩, ⟨5, .phase⟩, ⟨6, .phase⟩, ⟨7, .phase⟩, ⟨8, .phase⟩, ⟨9, .phase⟩, ⟨10, .phase⟩, ⟨11, .phase⟩], none⟩ (.pointer (some ⟨g, 0, none⟩)) ?_
            simp only [Act.put, List.setIfInBounds_toArray, List.set_cons_zero, List.set_cons_succ]
            refine wpAnyH_ready (rs := [15]) (by kernel_rfl) (by simp) (AllReadyH.cons (o := ⟨none, .store 22 (.tmp 58) (.tmp 55), 0, "read.go:84", #[⟨14, .data⟩, ⟨11, .data⟩, ⟨11, .chain⟩, ⟨0, .phase⟩, ⟨1, .phase⟩, ⟨2, .phase⟩, ⟨3, .phase⟩, ⟨4, .phase⟩, ⟨5, .phase⟩, ⟨6, .phase⟩, ⟨7, .phase⟩, ⟨8, .phase⟩, ⟨9, .phase⟩, ⟨10, .phase⟩, ⟨11, .phase⟩], none⟩) rfl (fun KQ hK => ?_) AllReadyH.nil)
            go_simp
            clear y1 y2
            refine hK.out _ _ (HC5.out.setO HGK.out 0 _) (fun hHeld => ?_)
            clear hK KQ
            try simp only [Act.put]
            refine wpAnyH_done (by kernel_rfl) ?_ _
            go_wp2_with fail
            go_ret
            rw [HR.out]
            exact RdP.ok (Y5.out.put HML.out rfl HL.out)
          · go_simp
            have Y4 : Hid (Y97 W g g11 E st (.slice ao st.rules.length cp) [a0, a1, a2, a3, a4, a5, a6, a7] (w3.alloc (.cells #[.bool al, .string b, .int .u32 a0, .int .u32 a1, .int .u32 a2, .int .u32 a3, .int .u32 a4, .int .u32 a5, .int .u32 a6, .int .u32 a7] 63))) := hid (Y3.out.on (below_one w3 _))
            have HSrc : Hid (Cel (w3.alloc (.cells #[.bool al, .string b, .int .u32 a0, .int .u32 a1, .int .u32 a2, .int .u32 a3, .int .u32 a4, .int .u32 a5, .int .u32 a6, .int .u32 a7] 63)) w3.heap.size 63 (Rl.cs ⟨al, b, [a0, a1, a2, a3, a4, a5, a6, a7]⟩)) := hid (heap_alloc_new _ _)
            clear Y3
            generalize World.alloc _ _ = w4 at *
            generalize w3.heap.size = gb at *
            refine hK.out _ _ Y4.out.m (fun hHeld => ?_)
            clear hK KQ
            try simp only [Act.put, List.setIfInBounds_toArray, List.set_cons_zero, List.set_cons_succ]
            refine wpAnyH_ready (rs := [5]) (by kernel_rfl) (by simp) (AllReadyH.cons (o := ⟨some 49, .load 22 (.tmp 48), 22, "read.go:84", #[⟨4, .data⟩], none⟩) rfl (fun KQ hK => ?_) AllReadyH.nil)
            have y0 : (_ : World).cell? ⟨g, 0, none⟩ = some (.slice ao st.rules.length cp) := Y4.out.s.cel.cell 0
            go_simp
            clear y0
            refine hK.out _ _ Y4.out.m (fun hHeld => ?_)
            clear hK KQ
            try simp only [Act.put, List.setIfInBounds_toArray, List.set_cons_zero, List.set_cons_succ]
            refine wpAnyH_ready (rs := [11]) (by kernel_rfl) (by simp) (AllReadyH.cons (o := ⟨some 55, .call { callee := .builtin .append, args := #[.tmp 49, .tmp 54], argTypes := #[22, 22] }, 22, "read.go:84", #[⟨5, .data⟩, ⟨10, .data⟩], none⟩) rfl (fun KQ hK => ?_) AllReadyH.nil)
            rw [if_pos (by rfl)]
            refine wp_append_r (B := W.heap.size) 22 Tryz.underlying22 _ _ rfl (.slice ao st.rules.length cp) st.rules rfl Y4.out.s.own Y4.out.s.bl.size gb 1 ⟨al, b, [a0, a1, a2, a3, a4, a5, a6, a7]⟩ rfl HSrc.out rfl Y4.out.s.le ?_
            intro v5 w5 h5 hgr
            obtain ⟨ao5, cp5, e5⟩ := L.own_form h5
            obtain rfl : v5 = .slice ao5 (st.rules.length + 1) cp5 := by rw [e5]; simp
            clear e5
            have Y5 := hid (Y4.out.s.app h5 hgr)
            have HC5 := hid (grown_cel Y4.out.s.own hgr Y4.out.m (by decide))
            have HML := hid Y4.out.s.ml
            have HGK : Hid (g11 ≠ g) := hid (cel_ne Y4.out.m Y4.out.s.cel (by decide))
            have y1 : w5.cell? ⟨g, 0, none⟩ = some (.slice ao st.rules.length cp) := Y5.out.cel.cell 0
            have y2 := Y5.out.cel.free 0
            clear hgr h5 Y4 HSrc
            refine hK.out _ _ HC5.out (fun hHeld => ?_)
            clear hK KQ
            try simp only [Act.put, List.setIfInBounds_toArray, List.set_cons_zero, List.set_cons_succ]
            refine tk 12 ⟨some 56, .nilCheck (.tmp 44), 0, "read.go:84", #[⟨0, .data⟩, ⟨0, .phase⟩, ⟨1, .phase⟩, ⟨2, .phase⟩, ⟨3, .phase⟩, ⟨4, .phase⟩, ⟨5, .phase⟩, ⟨6, .phase⟩, ⟨7, .phase⟩, ⟨8, .phase⟩, ⟨9, .phase⟩, ⟨10, .phase⟩, ⟨11, .phase⟩], none⟩ (.pointer (some ⟨g, 0, none⟩)) ?_
            simp only [Act.put, List.setIfInBounds_toArray, List.set_cons_zero, List.set_cons_succ]
            refine tk 13 ⟨some 57, .fieldAddr 68 (.tmp 56) 0, 0, "read.go:84", #[⟨12, .data⟩, ⟨0, .phase⟩, ⟨1, .phase⟩, ⟨2, .phase⟩, ⟨3, .phase⟩, ⟨4, .phase⟩, ⟨5, .phase⟩, ⟨6, .phase⟩, ⟨7, .phase⟩, ⟨8, .phase⟩, ⟨9, .phase⟩, ⟨10, .phase⟩, ⟨11, .phase⟩], none⟩ (.pointer (some ⟨g, 0, none⟩)) ?_
            simp only [Act.put, List.setIfInBounds_toArray, List.set_cons_zero, List.set_cons_succ]
            refine tk 14 ⟨some 58, .fieldAddr 24 (.tmp 57) 0, 0, "read.go:84", #[⟨13, .data⟩, ⟨0, .phase⟩, ⟨1, .phase⟩, ⟨2, .phase⟩, ⟨3, .phase⟩, ⟨4, .phase⟩, ⟨5, .phase⟩, ⟨6, .phase⟩, ⟨7, .phase⟩, ⟨8, .phase⟩, ⟨9, .phase⟩, ⟨10, .phase⟩, ⟨11, .phase⟩], none⟩ (.pointer (some ⟨g, 0, none⟩)) ?_
            simp only [Act.put, List.setIfInBounds_toArray, List.set_cons_zero, List.set_cons_succ]
            refine wpAnyH_ready (rs := [15]) (by kernel_rfl) (by simp) (AllReadyH.cons (o := ⟨none, .store 22 (.tmp 58) (.tmp 55), 0, "read.go:84", #[⟨14, .data⟩, ⟨11, .data⟩, ⟨11, .chain⟩, ⟨0, .phase⟩, ⟨1, .phase⟩, ⟨2, .phase⟩, ⟨3, .phase⟩, ⟨4, .phase⟩, ⟨5, .phase⟩, ⟨6, .phase⟩, ⟨7, .phase⟩, ⟨8, .phase⟩, ⟨9, .phase⟩, ⟨10, .phase⟩, ⟨11, .phase⟩], none⟩) rfl (fun KQ hK => ?_) AllReadyH.nil)
            go_simp
            clear y1 y2
            refine hK.out _ _ (HC5.out.setO HGK.out 0 _) (fun hHeld => ?_)
            clear hK KQ
            try simp only [Act.put]
            refine wpAnyH_done (by kernel_rfl) ?_ _
            go_wp2_with fail
            go_ret
            rw [HR.out]
            exact RdP.ok (Y5.out.put HML.out rfl HL.out)
end Go.Proofs.YtbpdmkohihgnjaaGreatDoor
