/- The document's Parse 27. -/
import Derived.Test.YtbpdmkohihgnjaaDoorTc
namespace Go.Proofs.YtbpdmkohihgnjaaDoor
open Go.RowKit
set_option maxHeartbeats 8000000
set_option maxRecDepth 100000
theorem size61 : (Tryd.prog.info? 61).map (·.size) = some 24 := by kernel_rfl
theorem ag61x (a0 a1 a2 a3 a4 a5 a6 a7 b0 b1 b2 b3 b4 b5 b6 b7 c0 c1 c2 c3 c4 c5 c6 c7 : Int) : Tryd.prog.built 61 [(0, Ag [a0, a1, a2, a3, a4, a5, a6, a7]), (1, Ag [b0, b1, b2, b3, b4, b5, b6, b7]), (2, Ag [c0, c1, c2, c3, c4, c5, c6, c7])] = some ((quoL [a0, a1, a2, a3, a4, a5, a6, a7] [b0, b1, b2, b3, b4, b5, b6, b7] [c0, c1, c2, c3, c4, c5, c6, c7]).map (Value.int .u32)).toArray := by kernel_rfl
theorem ag61 (a b c : List Int) (ha : a.length = 8) (hb : b.length = 8) (hc : c.length = 8) : Tryd.prog.built 61 [(0, Ag a), (1, Ag b), (2, Ag c)] = some ((quoL a b c).map (Value.int .u32)).toArray :=
  match a, ha with
  | [a0, a1, a2, a3, a4, a5, a6, a7], _ =>
    match b, hb with
    | [b0, b1, b2, b3, b4, b5, b6, b7], _ =>
      match c, hc with
      | [c0, c1, c2, c3, c4, c5, c6, c7], _ => ag61x a0 a1 a2 a3 a4 a5 a6 a7 b0 b1 b2 b3 b4 b5 b6 b7 c0 c1 c2 c3 c4 c5 c6 c7
theorem built61 : Tryd.prog.built 61 [] = some (zer24.map (Value.int .u32)).toArray := by kernel_rfl
theorem wpList_build_r {ops : Array Oper} {rest : List Oper} {o : Oper} {a : Act} {w : World} {Q : Exit → Act → World → Prop} (hgd : o.guard = none) (x0 x1 x2 : Operand) (ho : o.op = .build 61 #[(0, x0), (1, x1), (2, x2)])
    (m d t : List Int) (hm : m.length = 8) (hd : d.length = 8) (ht : t.length = 8) (h0 : a.eval x0 = Ag m) (h1 : a.eval x1 = Ag d) (h2 : a.eval x2 = Ag t)
    (h : wpList Tryd.prog ops Q rest (a.put o.dst (.agg ((quoL m d t).map (Value.int .u32)).toArray)) w) : wpList Tryd.prog ops Q (o :: rest) a w :=
  wpList_build_f hgd 61 _ ho #[(0, Ag m), (1, Ag d), (2, Ag t)] (by simp only [List.map_toArray, List.map_cons, List.map_nil, h0, h1, h2]) _ (ag61 m d t hm hd ht) h
theorem qok_cut (s : ByteArray) : qok s ↔ decide (ok8 (cutB s 20)) = true ∧ decide (ok8 (cutB s 90)) = true ∧ decide (ok8 (cutB s 159)) = true ∧ fmtQ (w8 (cutB s 20)) (w8 (cutB s 90)) (w8 (cutB s 159)) = s := by
  simp only [decide_eq_true_eq]
  have hc : ∀ a, s.size = 224 → a ≤ 160 → cutB s a = at8 s a := fun a h h2 => if_neg (by omega)
  constructor
  · intro h
    have h0 := h.1
    rw [hc 20 h0 (by decide), hc 90 h0 (by decide), hc 159 h0 (by decide)]
    exact h.2
  · intro h
    have h0 : s.size = 224 := by rw [← h.2.2.2]; exact fmtQ_size (w8_length _) (w8_length _) (w8_length _)
    rw [hc 20 h0 (by decide), hc 90 h0 (by decide), hc 159 h0 (by decide)] at h
    exact ⟨h0, h⟩
theorem pq_cut {s : ByteArray} (h : qok s) : pq s = quoL (w8 (cutB s 20)) (w8 (cutB s 90)) (w8 (cutB s 159)) := by
  have hc : ∀ a, a ≤ 160 → cutB s a = at8 s a := fun a h2 => if_neg (by have := h.1; omega)
  unfold pq
  rw [if_pos h, hc 20 (by decide), hc 90 (by decide), hc 159 (by decide)]
structure R0 (W : World) (Z : List Int) (w : World) : Prop where
  bl : Below W.heap.size W w
  b2 : Blk w W.heap.size .u32 61 Z
theorem R0.on {W : World} {Z : List Int} {w w' : World} (h : R0 W Z w) (hb : Below w.heap.size w w') : R0 W Z w' := ⟨below_on h.bl hb, h.b2.on hb⟩
attribute [-simp] Tryd.isAgg23 Tryd.zeroValue23 Tryd.isAgg61 Tryd.zeroValue61
theorem rparse_any (W : World) (s : ByteArray) (hs : s.size ≤ 140737488355328) :
    Calls Tryd.prog 27 #[.string s] W fun e W' => e = .returned (.tuple #[Ag (pq s), .int .i64 (pN s)]) ∧ Below W.heap.size W W' := by
  obtain ⟨Z, hZ⟩ : ∃ Z : List Int, Z = List.replicate 8 0 := ⟨_, rfl⟩
  have hZl : Z.length = 8 := by rw [hZ]; simp
  have hz : ∀ w, (zeroValue 23).run Tryd.prog w = .ok (.agg (Z.map (Value.int .u32)).toArray) w := fun w => by rw [Tryd.zeroValue23, hZ]; rfl
  clear hZ
  have hy : ∀ w, (zeroValue 61).run Tryd.prog w = .ok (.agg (zer24.map (Value.int .u32)).toArray) w := fun w => by rw [Tryd.zeroValue61]; rfl
  have hYl : zer24.length = 24 := rfl
  have built61 := built61
  obtain ⟨X, hX⟩ : ∃ X, X = W.alloc (Obj.cells (List.map (Value.int IntKind.u32) zer24).toArray 61) := ⟨_, rfl⟩
  have Y0 : Hid (R0 W zer24 X) := hid (by
    have HB : Below W.heap.size W X := by rw [hX]; exact below_one W _
    refine ⟨HB, ?_⟩
    rw [hX]; exact Blk.new W .u32 61 zer24)
  have HC1 := hid (fun w => cut20_any w s hs)
  have HC2 := hid (fun w => cut90_any w s hs)
  have HC3 := hid (fun w => cut159_any w s hs)
  have HA := hid (fun w => eight_any w (cutB s 20) (by have := cutB_size s 20; omega))
  have HB9 := hid (fun w => eight_any w (cutB s 90) (by have := cutB_size s 90; omega))
  have HC := hid (fun w => eight_any w (cutB s 159) (by have := cutB_size s 159; omega))
  have la := w8_length (cutB s 20)
  have lb := w8_length (cutB s 90)
  have lc := w8_length (cutB s 159)
  have HFm : Hid (∀ w, Calls Tryd.prog 28 #[Ag (quoL (w8 (cutB s 20)) (w8 (cutB s 90)) (w8 (cutB s 159)))] w fun e W' => e = .returned (.string (fmtQ (w8 (cutB s 20)) (w8 (cutB s 90)) (w8 (cutB s 159)))) ∧ Below w.heap.size w W') := hid fun w => rformat_any w _ _ _ la lb lc (w8_wds _) (w8_wds _) (w8_wds _)
  have HQ := hid (qok_cut s)
  have HP := hid (show qok s → Ag (pq s) = Ag (quoL (w8 (cutB s 20)) (w8 (cutB s 90)) (w8 (cutB s 159))) from fun h => by rw [pq_cut h])
  have HN := hid (show ¬ qok s → Ag (pq s) = Ag zer24 from fun h => by unfold pq; rw [if_neg h])
  have HPE := hid (show qok s → pN s = 0 from fun h => if_pos h)
  have HNE := hid (show ¬ qok s → pN s = 160 from fun h => if_neg h)
  have hfs := fmtQ_size la lb lc
  generalize fmtQ (w8 (cutB s 20)) (w8 (cutB s 90)) (w8 (cutB s 159)) = F at *
  generalize decide (ok8 (cutB s 20)) = oa at *
  generalize decide (ok8 (cutB s 90)) = ob at *
  generalize decide (ok8 (cutB s 159)) = oc at *
  generalize w8 (cutB s 20) = A at *
  generalize w8 (cutB s 90) = B at *
  generalize w8 (cutB s 159) = C at *
  generalize cutB s 20 = sa at *
  generalize cutB s 90 = sb at *
  generalize cutB s 159 = sc at *
  have hQl := quoL_length la lb lc
  generalize zer24 = Z24 at *
  clear hs
  unfold Ag at HA HB9 HC HFm
  go_enter Tryd.func27, Tryd.ntmps27
  go_upto_region 1 with fail
  rw [← hX]
  clear hX
  go_upto_region 2 with (first | (go_at_call 57; refine (HC1.out _).mono ?_; rintro e w0 ⟨rfl, rfl⟩) | (go_at_call 56; refine (HA.out _).mono ?_; rintro e w1 ⟨rfl, hb⟩; have Y1 := hid (Y0.out.on hb); clear hb Y0) | (revert Y1; intro Y1; refine wpList_store_but rfl 23 _ _ rfl w1.heap.size A rfl rfl (Blk.new w1 .u32 23 Z) (by rw [la]; exact size26) (by rw [hZl, la]) ?_; intro w2 bA hbt hsz; have Y2 : Hid (R0 W Z24 w2 ∧ Blk w2 w1.heap.size .u32 23 A) := hid ⟨Y1.out.on (but_box hbt), bA⟩; clear bA hbt hsz Y1))
  generalize w1.heap.size = g4 at *
  clear HA HC1
  go_upto_region 3 with (first | (go_at_call 57; refine (HC2.out _).mono ?_; rintro e w0 ⟨rfl, rfl⟩) | (go_at_call 56; refine (HB9.out _).mono ?_; rintro e w3 ⟨rfl, hb⟩; have Y3 : Hid (R0 W Z24 w3 ∧ Blk w3 g4 .u32 23 A) := hid ⟨Y2.out.1.on hb, Y2.out.2.on hb⟩; clear hb Y2) | (revert Y3; intro Y3; refine wpList_store_but rfl 23 _ _ rfl w3.heap.size B rfl rfl (Blk.new w3 .u32 23 Z) (by rw [lb]; exact size26) (by rw [hZl, lb]) ?_; intro w4 bB hbt hsz; have Y4 : Hid (R0 W Z24 w4 ∧ Blk w4 g4 .u32 23 A ∧ Blk w4 w3.heap.size .u32 23 B) := hid ⟨Y3.out.1.on (but_box hbt), Y3.out.2.on (but_box hbt), bB⟩; clear bB hbt hsz Y3))
  generalize w3.heap.size = g6 at *
  clear HB9 HC2
  go_upto_region 4 with (first | (go_at_call 57; refine (HC3.out _).mono ?_; rintro e w0 ⟨rfl, rfl⟩) | (go_at_call 56; refine (HC.out _).mono ?_; rintro e w5 ⟨rfl, hb⟩; have Y5 : Hid (R0 W Z24 w5 ∧ Blk w5 g4 .u32 23 A ∧ Blk w5 g6 .u32 23 B) := hid ⟨Y4.out.1.on hb, Y4.out.2.1.on hb, Y4.out.2.2.on hb⟩; clear hb Y4) | (revert Y5; intro Y5; refine wpList_store_but rfl 23 _ _ rfl w5.heap.size C rfl rfl (Blk.new w5 .u32 23 Z) (by rw [lc]; exact size26) (by rw [hZl, lc]) ?_; intro w6 bC hbt hsz; have Y6 : Hid (R0 W Z24 w6 ∧ Blk w6 g4 .u32 23 A ∧ Blk w6 g6 .u32 23 B ∧ Blk w6 w5.heap.size .u32 23 C) := hid ⟨Y5.out.1.on (but_box hbt), Y5.out.2.1.on (but_box hbt), Y5.out.2.2.on (but_box hbt), bC⟩; clear bC hbt hsz Y5))
  generalize w5.heap.size = g8 at *
  clear HC HC3
  go_upto_region 5 with (first | (revert Y6; intro Y6; refine wpList_load_blk rfl 23 _ rfl g4 A rfl Y6.out.2.1 Tryd.underlying23 (by rw [la]; exact size26) ?_) | (revert Y6; intro Y6; refine wpList_load_blk rfl 23 _ rfl g6 B rfl Y6.out.2.2.1 Tryd.underlying23 (by rw [lb]; exact size26) ?_) | (revert Y6; intro Y6; refine wpList_load_blk rfl 23 _ rfl g8 C rfl Y6.out.2.2.2 Tryd.underlying23 (by rw [lc]; exact size26) ?_) | (refine wpList_build_r rfl _ _ _ rfl A B C la lb lc rfl rfl rfl ?_) | (refine wpList_store_but rfl 61 _ _ rfl w6.heap.size (quoL A B C) rfl rfl (Blk.new w6 .u32 61 Z24) (by rw [hQl]; exact size61) (by rw [hYl, hQl]) ?_; intro w7 bQ hbt hsz; have Y7 : Hid (R0 W Z24 w7 ∧ Blk w7 w6.heap.size .u32 61 (quoL A B C)) := hid ⟨Y6.out.1.on (but_box hbt), bQ⟩; clear bQ hbt hsz Y6))
  generalize w6.heap.size = g10 at *
  cases oa
  · have HNq := hid (show ¬ qok s from fun h => by have := (HQ.out.1 h).1; cases this)
    have Y8 := hid Y7.out.1
    clear HQ HP HPE HFm Y7
    have HR := hid (HN.out HNq.out)
    have HE := hid (HNE.out HNq.out)
    go_wp2_with (first | (refine wpList_build_f rfl 61 _ rfl #[] (by simp) _ built61 ?_) | (refine wpList_store_blk rfl 61 _ _ rfl W.heap.size Z24 rfl rfl Y8.out.b2 (by rw [hYl]; exact size61) rfl ?_))
    refine ret_q2 rfl rfl W.heap.size (Z24.map (Value.int .u32)) rfl (blk_cel (Y8.out.b2.setRow _)) Tryd.underlying61 rfl (by rw [List.length_map, hYl]; exact size61) ⟨by rw [HR.out, HE.out]; rfl, below_setRow Y8.out.bl (Nat.le_refl _) _⟩
  cases ob
  · have HNq := hid (show ¬ qok s from fun h => by have := (HQ.out.1 h).2.1; cases this)
    have Y8 := hid Y7.out.1
    clear HQ HP HPE HFm Y7
    have HR := hid (HN.out HNq.out)
    have HE := hid (HNE.out HNq.out)
    go_wp2_with (first | (refine wpList_build_f rfl 61 _ rfl #[] (by simp) _ built61 ?_) | (refine wpList_store_blk rfl 61 _ _ rfl W.heap.size Z24 rfl rfl Y8.out.b2 (by rw [hYl]; exact size61) rfl ?_))
    refine ret_q2 rfl rfl W.heap.size (Z24.map (Value.int .u32)) rfl (blk_cel (Y8.out.b2.setRow _)) Tryd.underlying61 rfl (by rw [List.length_map, hYl]; exact size61) ⟨by rw [HR.out, HE.out]; rfl, below_setRow Y8.out.bl (Nat.le_refl _) _⟩
  cases oc
  · have HNq := hid (show ¬ qok s from fun h => by have := (HQ.out.1 h).2.2.1; cases this)
    have Y8 := hid Y7.out.1
    clear HQ HP HPE HFm Y7
    have HR := hid (HN.out HNq.out)
    have HE := hid (HNE.out HNq.out)
    go_wp2_with (first | (refine wpList_build_f rfl 61 _ rfl #[] (by simp) _ built61 ?_) | (refine wpList_store_blk rfl 61 _ _ rfl W.heap.size Z24 rfl rfl Y8.out.b2 (by rw [hYl]; exact size61) rfl ?_))
    refine ret_q2 rfl rfl W.heap.size (Z24.map (Value.int .u32)) rfl (blk_cel (Y8.out.b2.setRow _)) Tryd.underlying61 rfl (by rw [List.length_map, hYl]; exact size61) ⟨by rw [HR.out, HE.out]; rfl, below_setRow Y8.out.bl (Nat.le_refl _) _⟩
  by_cases hF : F = s
  · have HY := hid (HQ.out.2 ⟨rfl, rfl, rfl, hF⟩)
    subst hF
    have b2 : (F.toList != F.toList) = false := by simp
    go_upto_region 7 with (first | (revert Y7; intro Y7; refine wpList_load_mg (by rfl) 61 _ rfl g10 0 rfl _ _ (cel_range (blk_cel Y7.out.2)) Tryd.underlying61 rfl (by rw [List.length_map, hQl]; exact size61) ?_) | (go_at_call 28; refine (HFm.out _).mono ?_; rintro e w8 ⟨rfl, hb⟩; have Y8 : Hid (R0 W Z24 w8 ∧ Blk w8 g10 .u32 61 (quoL A B C)) := hid ⟨Y7.out.1.on hb, Y7.out.2.on hb⟩; clear hb Y7))
    go_wp2_with (first | (refine wpList_load_mid rfl 61 _ rfl g10 0 rfl _ _ (cel_range (blk_cel Y8.out.2)) Tryd.underlying61 rfl (by rw [List.length_map, hQl]; exact size61) ?_) | (refine wpList_store_blk rfl 61 _ _ rfl W.heap.size (quoL A B C) rfl rfl Y8.out.1.b2 (by rw [hQl]; exact size61) (by rw [hYl, hQl]) ?_))
    refine ret_q2 rfl rfl W.heap.size ((quoL A B C).map (Value.int .u32)) rfl (blk_cel (Y8.out.1.b2.setRow _)) Tryd.underlying61 rfl (by rw [List.length_map, hQl]; exact size61) ⟨by rw [HP.out HY.out, HPE.out HY.out]; rfl, below_setRow Y8.out.1.bl (Nat.le_refl _) _⟩
  · have HNq := hid (show ¬ qok s from fun h => hF (HQ.out.1 h).2.2.2)
    have b2 : (F.toList == s.toList) = false := by
      exact toList_ne hF
    clear hF
    go_upto_region 6 with (first | (revert Y7; intro Y7; refine wpList_load_mg (by rfl) 61 _ rfl g10 0 rfl _ _ (cel_range (blk_cel Y7.out.2)) Tryd.underlying61 rfl (by rw [List.length_map, hQl]; exact size61) ?_) | (go_at_call 28; refine (HFm.out _).mono ?_; rintro e w8 ⟨rfl, hb⟩; have Y8 : Hid (R0 W Z24 w8) := hid (Y7.out.1.on hb); clear hb Y7))
    have HR := hid (HN.out HNq.out)
    have HE := hid (HNE.out HNq.out)
    go_wp2_with (first | (refine wpList_build_f rfl 61 _ rfl #[] (by simp) _ built61 ?_) | (refine wpList_store_blk rfl 61 _ _ rfl W.heap.size Z24 rfl rfl Y8.out.b2 (by rw [hYl]; exact size61) rfl ?_))
    refine ret_q2 rfl rfl W.heap.size (Z24.map (Value.int .u32)) rfl (blk_cel (Y8.out.b2.setRow _)) Tryd.underlying61 rfl (by rw [List.length_map, hYl]; exact size61) ⟨by rw [HR.out, HE.out]; rfl, below_setRow Y8.out.bl (Nat.le_refl _) _⟩
end Go.Proofs.YtbpdmkohihgnjaaDoor
