import Derived.Test.YtlfnpllojinjdaaDoorKeeps1
import Derived.Deep.RegionWith
namespace Go.Proofs.YtlfnpllojinjdaaDoor
open Go.RowKit

/-- A block that holds just these numbers. -/
def Blk (W : World) (g : Nat) (k : IntKind) (e : TypeId) (L : List Int) : Prop := W.heap[g]? = some (.cells (L.map (Value.int k)).toArray e (0, 0))
theorem Owned.blk {W wr : World} {k : IntKind} {e : TypeId} {N : Nat} {L : List Int} (h : Owned W wr k e N L) : Blk wr W.heap.size k e L := by
  rcases h.own.2 with ⟨h', _⟩ | ⟨g, cap, cur, hv, _, hh, _, _, hs, ht⟩
  · simp at h'
  · simp only [Value.slice.injEq, Option.some.injEq, Addr.mk.injEq, and_true, true_and] at hv
    obtain ⟨rfl, rfl⟩ := hv
    have hl : cur.toList.length = N := by rw [Array.length_toList, hs]; omega
    rw [Nat.mul_one, List.take_of_length_le (by omega)] at ht
    unfold Blk
    rw [hh, ← ht]
theorem Blk.below {W w : World} {B g : Nat} {k : IntKind} {e : TypeId} {L : List Int} (h : Blk W g k e L) (hb : Below B W w) (hg : g < B) : Blk w g k e L := (hb.block g hg).trans h
theorem Blk.lt {W : World} {g : Nat} {k : IntKind} {e : TypeId} {L : List Int} (h : Blk W g k e L) : g < W.heap.size := by
  rcases Nat.lt_or_ge g W.heap.size with h' | h'
  · exact h'
  · unfold Blk at h; rw [Array.getElem?_eq_none h'] at h; cases h
theorem Blk.row {W : World} {g : Nat} {k : IntKind} {e : TypeId} {L : List Int} (h : Blk W g k e L) : Row W k g 0 L := by
  intro i hi
  rw [Nat.zero_add, cell_of_row W g i _ e (0, 0) h]
  simp [List.getD_eq_getElem?_getD, hi]
theorem Blk.at {W : World} {g : Nat} {k : IntKind} {e : TypeId} {L : List Int} (h : Blk W g k e L) : At W k (some ⟨g, 0, none⟩) L := .inr ⟨g, 0, rfl, h.lt, h.row⟩
theorem Holds.form {W wr : World} {k : IntKind} {e : TypeId} {v : Value} {L : List Int} (h : Holds W wr k e v L) (hn : 0 < L.length) : ∃ g cap, v = .slice (some ⟨g, 0, none⟩) L.length cap ∧ L.length ≤ cap ∧ W.heap.size ≤ g ∧ g < wr.heap.size ∧ Row wr k g 0 L := by
  rcases h.own.2 with ⟨_, h0⟩ | ⟨g, cap, cur, rfl, hg, hh, hc, hm, hs, ht⟩
  · omega
  · refine ⟨g, cap, rfl, hc, hg, (h.own.lt g rfl).2, ?_⟩
    intro i hi
    rw [Nat.zero_add, h.own.cellAt i (by omega)]
    simp [List.getD_eq_getElem?_getD, hi]
theorem Holds.at' {W wr : World} {k : IntKind} {e : TypeId} {v : Value} {L : List Int} (h : Holds W wr k e v L) : ∃ ao cap, v = .slice ao L.length cap ∧ At wr k ao L ∧ (ao = none → cap = 0 ∧ L.length = 0) := by
  rcases h.own.2 with ⟨rfl, h0⟩ | ⟨g, cap, cur, rfl, hg, hh, hn, hm, hs, ht⟩
  · exact ⟨none, 0, by rw [h0], .inl (List.eq_nil_of_length_eq_zero h0), fun _ => ⟨rfl, h0⟩⟩
  · refine ⟨some ⟨g, 0, none⟩, cap, rfl, .inr ⟨g, 0, rfl, (h.own.lt g rfl).2, ?_⟩, fun h => by cases h⟩
    intro i hi
    rw [Nat.zero_add, h.own.cellAt i (by omega)]
    simp [List.getD_eq_getElem?_getD, hi]
theorem Row.head {W : World} {k : IntKind} {b off : Nat} {xs ys : List Int} (h : Row W k b off (xs ++ ys)) : Row W k b off xs := by
  intro i hi
  have := h i (by simp; omega)
  rw [this]
  simp [List.getD_eq_getElem?_getD, List.getElem?_append_left hi]

set_option maxRecDepth 100000 in
set_option maxHeartbeats 4000000 in
theorem told_any (W : World) (hT : Tab W) (h0 : 0 < W.heap.size) (ao : Option Addr) (n cap : Nat) (xs : List Int) (hx : xs.length = n) (wx : Wds xs) (h1 : At W .u32 ao xs) (hnil : ao = none → cap = 0 ∧ n = 0) (hn : n ≤ 262144) :
    Calls Tryd.prog 28 #[.slice ao n cap] W fun e W' => ∃ g1 g2 g3 g4 gh : Nat, W.heap.size ≤ g1 ∧ g1 < g2 ∧ g2 < g3 ∧ g3 < g4 ∧ g4 < gh ∧ e = .returned (.tuple #[.slice (some ⟨gh, 0, none⟩) 2 2, .bool true]) ∧
      W'.heap[gh]? = some (.cells #[.slice (some ⟨g2, 0, none⟩) n n, .slice none 0 0, .slice (some ⟨g1, 0, none⟩) (4 * n) (4 * n), .slice none 0 0, .int .i64 0, .slice (some ⟨g3, 0, none⟩) n n, .slice none 0 0, .slice (some ⟨g4, 0, none⟩) (4 * n) (4 * n), .slice none 0 0, .int .i64 0] 61 (0, 0)) ∧
      Blk W' g1 .u8 5 (bytesD xs) ∧ Blk W' g2 .u32 22 xs ∧ Blk W' g3 .u32 22 xs ∧ Blk W' g4 .u8 5 (bytesD xs) ∧ Below W.heap.size W W' := by
  have hbl : (bytesD xs).length = 4 * n := by rw [bytesD_length, hx]
  go_enter Tryd.func28, Tryd.ntmps28
  go_wp2_with fail
  refine (lent_any _ ao n cap xs hx h1 hnil (by omega)).mono ?_
  rintro e w1 ⟨v, rfl, F1⟩
  have hb1 := F1.below
  obtain ⟨gw, cw, hv, hcw, hgw, hgw1, rw1⟩ := F1.form (by simp [mk_length])
  have hwl : (xs ++ mk 300).length = n + 300 := by simp [mk_length, hx]
  rw [hwl] at hv hcw
  subst hv
  clear F1
  go_wp2_with fail
  refine (rbytes_at _ ao n cap xs hx wx (h1.below hb1) (by omega)).mono ?_
  rintro e w2 ⟨v, rfl, F2⟩
  have hb2 := hb1.trans (F2.below.mono hb1.size)
  have rw2 := rw1.below F2.below hgw1
  have gw2 : gw < w2.heap.size := by have := F2.below.size; omega
  obtain ⟨ro, rc, hv, at2, hrn⟩ := F2.at'
  rw [hbl] at hv hrn
  subst hv
  clear F2 rw1
  go_wp2_with fail
  refine (bytes_any _ (hT.below hb2 h0) gw 0 n cw xs hx wx rw2.head (by omega) gw2 (by omega)).mono ?_
  rintro e w3 ⟨rfl, F3⟩
  have ow3 := F3.owned
  have b1 := ow3.blk
  have hb3 := hb2.trans (ow3.below.mono hb2.size)
  have rw3 := rw2.below ow3.below gw2
  have at3 := at2.below ow3.below
  have lt3 := ow3.lt
  have hd23 := ow3.below
  clear F3 ow3 rw2 at2
  go_wp2_with fail
  refine (raw_any _ ro (4 * n) rc (bytesD xs) hbl at3 hrn (by omega)).mono ?_
  rintro e w4 ⟨v, rfl, F4⟩
  have hb4 := hb3.trans (F4.below.mono hb3.size)
  have hd34 := F4.below
  obtain ⟨gb, cb, hv, hcb, hgb, hgb4, rb4⟩ := F4.form (by simp [mb_length])
  have hwb : (bytesD xs ++ mb 300).length = 4 * n + 300 := by simp [mb_length, hbl]
  rw [hwb] at hv hcb
  subst hv
  have b1' := b1.below hd34 lt3
  have rw4 := rw3.below hd34 (by omega)
  have at4 := at3.below hd34
  have sz34 := hd34.size
  clear F4 b1 rw3 at3
  go_wp2_with fail
  refine (words_any _ gb 0 n cb (bytesD xs) hbl (bytesD_bts xs) rb4.head (by omega) hgb4).mono ?_
  rintro e w5 ⟨rfl, ow5⟩
  rw [show wordsD (bytesD xs) n = xs by rw [← hx]; exact words_bytes xs wx] at ow5
  have hd45 := ow5.below
  have hb5 := hb4.trans (hd45.mono hb4.size)
  have b2 := ow5.blk
  have lt5 := ow5.lt
  have b1'' := b1'.below hd45 (by omega)
  have rw5 := rw4.below hd45 (by omega)
  have rb5 := rb4.below hd45 hgb4
  have at5 := at4.below hd45
  clear ow5 b1' rw4 rb4 at4
  go_wp2_with fail
  refine (hexAll_any _ (hT.below hb5 h0) gw 0 n cw xs hx wx rw5.head (by omega) (by omega) (by omega)).mono ?_
  rintro e w6 ⟨rfl, hd56⟩
  have hb6 := hb5.trans (hd56.mono hb5.size)
  have sz56 := hd56.size
  have hsz : (strOfNums (hexD xs)).size = 8 * n := by rw [strOfNums_size, hexD_length, hx]
  have hsl : strL (strOfNums (hexD xs)) = hexD xs := strL_strOfNums _ (hexD_bts xs)
  have HPA : Hid (∀ w, _) := fun w => parseAll_any w (strOfNums (hexD xs)) n hsz (by omega)
  have hww : hexWs (strL (strOfNums (hexD xs))) n = xs := by rw [hsl, ← hx]; exact hexWs_hexD xs wx
  have HNN : Hid (∀ i, i < n → pv (strL (strOfNums (hexD xs))) (8 * i) 8 ≠ none) := fun i hi => by
    rw [hsl, pv_hexD xs wx i (by omega)]; exact fun h => by cases h
  have b1a := b1''.below hd56 (by omega)
  have b2a := b2.below hd56 lt5
  have rw6 := rw5.below hd56 (by omega)
  have rb6 := rb5.below hd56 (by omega)
  have at6 := at5.below hd56
  clear b1'' b2 rw5 rb5 at5
  go_wp2_with fail
  refine (HPA.out _).mono ?_
  rintro e w7 (⟨_, rfl, ow7⟩ | ⟨⟨i, hi, hno⟩, _, _⟩)
  · rw [hww] at ow7
    have hd67 := ow7.below
    have hb7 := hb6.trans (hd67.mono hb6.size)
    have b3 := ow7.blk
    have lt7 := ow7.lt
    have b1b := b1a.below hd67 (by omega)
    have b2b := b2a.below hd67 (by omega)
    have rw7 := rw6.below hd67 (by omega)
    have rb7 := rb6.below hd67 (by omega)
    have at7 := at6.below hd67
    have hT7 := hT.below hb7 h0
    have ha7 := h1.below hb7
    clear ow7 b1a b2a rw6 rb6 at6 HPA HNN hww hsl hsz
    go_wp2_with fail
    refine (same_like _ gw 0 w4.heap.size 0 n cw n xs xs hx hx wx wx rw7.head b2b.row (by omega)).mono ?_
    rintro e w8 ⟨rfl, q8, rfl⟩
    rw [decide_eq_true (rfl : xs = xs)]
    have drs : ∀ d, Below w7.heap.size w7 (w7.drewN d) := fun d => below_drewN (Below.refl _ _) d
    have cvb : ∀ d, (convert 36 9 (.slice (some ⟨w2.heap.size, 0, none⟩) (4 * n) (4 * n))).run Tryd.prog (w7.drewN d) = .ok (.string (strOfNums (bytesD xs))) (w7.drewN d) := fun d => conv_at (b1b.at.below (drs d)) _ _ hbl
    have cvw : ∀ d, (convert 36 9 (.slice ro (4 * n) rc)).run Tryd.prog (w7.drewN d) = .ok (.string (strOfNums (bytesD xs))) (w7.drewN d) := fun d => conv_at (at7.below (drs d)) _ _ hbl
    go_wp2_with fail
    refine (lawSame_yes _ _ _ n _ _ xs hx (b2b.at.below (drs _)) (ha7.below (drs _)) (by omega)).mono ?_
    rintro e w8 ⟨rfl, q9, rfl⟩
    go_wp2_with fail
    refine (lawSame_yes _ _ _ n _ _ xs hx (b3.at.below (drs _)) (ha7.below (drs _)) (by omega)).mono ?_
    rintro e w8 ⟨rfl, q10, rfl⟩
    go_wp2_with fail
    have atb : At w7 .u8 (some ⟨gb, 0, none⟩) (bytesD xs ++ mb 300) := .inr ⟨gb, 0, rfl, by omega, rb7⟩
    have atw : At w7 .u32 (some ⟨gw, 0, none⟩) (xs ++ mk 300) := .inr ⟨gw, 0, rfl, by omega, rw7⟩
    have LENT : Hid (∀ w, Below w7.heap.size w7 w → Calls Tryd.prog 38 #[.slice ao n cap] w fun e w' => ∃ g c', e = .returned (.slice (some ⟨g, 0, none⟩) (n + 300) c') ∧ Below w7.heap.size w7 w' ∧ At w' .u32 (some ⟨g, 0, none⟩) (xs ++ mk 300)) := fun w hw => by
      refine (lent_any w ao n cap xs hx (ha7.below hw) hnil (by omega)).mono ?_
      rintro e w' ⟨v, rfl, F⟩
      obtain ⟨g, c', hv, _, _, hg', hr⟩ := F.form (by simp [mk_length])
      rw [hwl] at hv
      subst hv
      exact ⟨g, c', rfl, hw.trans (F.below.mono hw.size), .inr ⟨g, 0, rfl, hg', hr⟩⟩
    have SAME : Hid (∀ w g c', Below w7.heap.size w7 w → At w .u32 (some ⟨g, 0, none⟩) (xs ++ mk 300) → Calls Tryd.prog 18 #[.slice (some ⟨gw, 0, none⟩) (n + 300) cw, .slice (some ⟨g, 0, none⟩) (n + 300) c'] w fun e w' => e = .returned (.bool true) ∧ Below w7.heap.size w7 w' ∧ (convert 36 9 (.slice (some ⟨gb, 0, none⟩) (4 * n + 300) cb)).run Tryd.prog w' = .ok (.string (strOfNums (bytesD xs ++ mb 300))) w') := fun w g c' hw hg => by
      refine (lawSame_yes w _ _ (n + 300) _ _ (xs ++ mk 300) hwl (atw.below hw) hg (by omega)).mono ?_
      rintro e w' ⟨rfl, q, rfl⟩
      exact ⟨rfl, below_drewN hw q, conv_at (atb.below (below_drewN hw q)) _ _ hwb⟩
    have RAW : Hid (∀ w, Below w7.heap.size w7 w → Calls Tryd.prog 39 #[.slice ro (4 * n) rc] w fun e w' => ∃ g c', e = .returned (.slice (some ⟨g, 0, none⟩) (4 * n + 300) c') ∧ Below w7.heap.size w7 w' ∧ (convert 36 9 (.slice (some ⟨gb, 0, none⟩) (4 * n + 300) cb)).run Tryd.prog w' = .ok (.string (strOfNums (bytesD xs ++ mb 300))) w' ∧ (convert 36 9 (.slice (some ⟨g, 0, none⟩) (4 * n + 300) c')).run Tryd.prog w' = .ok (.string (strOfNums (bytesD xs ++ mb 300))) w') := fun w hw => by
      refine (raw_any w ro (4 * n) rc (bytesD xs) hbl (at7.below hw) hrn (by omega)).mono ?_
      rintro e w' ⟨v, rfl, F⟩
      obtain ⟨g, c', hv, _, _, hg', hr⟩ := F.form (by simp [mb_length])
      rw [hwb] at hv
      subst hv
      have hw' := hw.trans (F.below.mono hw.size)
      exact ⟨g, c', rfl, hw', conv_at (atb.below hw') _ _ hwb, conv_at (.inr ⟨g, 0, rfl, hg', hr⟩) _ _ hwb⟩
    have BYTES : Hid (∀ w, Below w7.heap.size w7 w → Calls Tryd.prog 14 #[.slice (some ⟨gw, 0, none⟩) n cw] w fun e w' => e = .returned (.slice (some ⟨w.heap.size, 0, none⟩) (4 * n) (4 * n)) ∧ Blk w' w.heap.size .u8 5 (bytesD xs) ∧ Below w.heap.size w w' ∧ w.heap.size < w'.heap.size) := fun w hw => by
      have hsz := hw.size
      refine (bytes_any w (hT7.below hw (by omega)) gw 0 n cw xs hx wx (rw7.below hw (by omega)).head (by omega) (by omega) (by omega)).mono ?_
      rintro e w' ⟨rfl, F⟩
      exact ⟨rfl, F.owned.blk, F.below, F.lt⟩
    have DR : Hid (∀ d, Below w7.heap.size w7 (w7.drewN d).drew) := fun d => (drs d).drew
    clear cvb cvw drs atb atw rb7 at7 ha7
    go_region_with (first | (go_at_call 38; refine (LENT.out _ (DR.out _)).mono ?_; rintro e wa ⟨ga, ca, rfl, hba, hata⟩) | (go_at_call 18; refine (SAME.out _ _ _ hba hata).mono ?_; rintro e wb ⟨rfl, hbb, cvx⟩) | (go_at_call 39; refine (RAW.out _ hbb).mono ?_; rintro e wc ⟨gc, cc, rfl, hbc, cvy, cvz⟩))
    all_goals
      go_wp2_with fail
      refine (BYTES.out wc hbc).mono ?_
      rintro e wd ⟨rfl, b4, hbd, ltd⟩
      have FIN : Hid (∀ x, W.heap.size ≤ w2.heap.size ∧ w2.heap.size < w4.heap.size ∧ w4.heap.size < w6.heap.size ∧ w6.heap.size < wc.heap.size ∧ wc.heap.size < wd.heap.size ∧ Blk (wd.alloc x) w2.heap.size .u8 5 (bytesD xs) ∧ Blk (wd.alloc x) w4.heap.size .u32 22 xs ∧ Blk (wd.alloc x) w6.heap.size .u32 22 xs ∧ Blk (wd.alloc x) wc.heap.size .u8 5 (bytesD xs) ∧ Below W.heap.size W (wd.alloc x)) := fun x => by
        have hbx : Below wd.heap.size wd (wd.alloc x) := below_one wd x
        have h7d : Below w7.heap.size w7 wd := hbc.trans (hbd.mono hbc.size)
        have s7 := h7d.size
        have sc := hbc.size
        have sw := hb2.size
        have h7x := h7d.trans (hbx.mono s7)
        exact ⟨sw, by omega, by omega, by omega, ltd, b1b.below h7x (by omega), b2b.below h7x (by omega), b3.below h7x (by omega), b4.below hbx ltd, hb7.trans (h7x.mono hb7.size)⟩
      clear hbc cvy cvz hba hata hbb cvx b4 hbd LENT SAME RAW BYTES b1b b2b b3 hT7 hb7 rw7
      go_wp2
      go_ret2
      obtain ⟨f1, f2, f3, f4, f5, f6, f7, f8, f9, f10⟩ := FIN.out _
      exact ⟨_, _, _, _, _, f1, f2, f3, f4, f5, rfl, heap_alloc_new _ _, f6, f7, f8, f9, f10⟩
  · exact absurd hno (HNN.out i hi)
end Go.Proofs.YtlfnpllojinjdaaDoor
