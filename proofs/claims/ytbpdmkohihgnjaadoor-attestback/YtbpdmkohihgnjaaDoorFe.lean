/- The law AttestBack 5: its end. -/
import Derived.Test.YtbpdmkohihgnjaaDoorFd
import Derived.Test.YtbpdmkohihgnjaaDoorJl
namespace Go.Proofs.YtbpdmkohihgnjaaDoor
open Go.RowKit
set_option maxHeartbeats 8000000
set_option maxRecDepth 100000
attribute [-simp] Tryd.isAgg23 Tryd.zeroValue23 Tryd.isAgg38 Tryd.zeroValue38
theorem back_10 (W w : World) (hT : TabW W) (E : Nat → Addr) (hE : ErrS W E) (hb : Below W.heap.size W w) (s : ByteArray) (hs : s.size ≤ 140737488355328) (K' : Act → World → Prop)
    (hK : ∀ a w, Code.wp Tryd.prog (sfx 11 (Tryd.f5.body.getD .skip)) (bodyPost Tryd.prog Tryd.f5 fun x w' => x = .returned (.bool true) ∧ Below W.heap.size W w') a w → K' a w) (z0 z2 z3 z4 z5 z6 z7 z9 z10 z11 z12 z13 z14 z15 z16 z18 z20 z21 z22 z23 z24 z25 z26 z27 z28 z29 z30 z31 z32 z33 z34 z35 z36 z37 z38 z39 z40 z41 z42 z43 z44 z45 z46 z47 z48 z49 z50 z51 z52 z53 z54 z55 z56 z57 z58 z59 z60 z61 z62 z63 z64 z65 z66 z67 z68 z69 z70 z71 z72 z73 z74 z75 z76 z77 z78 z79 z80 z81 z82 z83 z84 z85 z86 z87 z88 z89 z90 z91 z92 z93 z94 z95 z96 z97 z98 z99 z100 z101 z102 z103 z104 z105 z106 z107 z108 z109 z110 z111 z112 z113 z114 z115 z116 z117 z118 z119 z120 z121 z122 z123 z124 z125 z126 z127 z128 z129 z130 z131 z132 z133 z134 z135 z136 z137 z138 z139 z140 z141 : Value) :
    Code.wp Tryd.prog (hdx 10 (Tryd.f5.body.getD .skip)) (Exit.then K' (bodyPost Tryd.prog Tryd.f5 fun x w' => x = .returned (.bool true) ∧ Below W.heap.size W w')) { tmps := #[z0, .string s, z2, z3, z4, z5, z6, z7, .bool false, z9, z10, z11, z12, z13, z14, z15, z16, .int .i64 160, z18, .int .i64 160, z20, z21, z22, z23, z24, z25, z26, z27, z28, z29, z30, z31, z32, z33, z34, z35, z36, z37, z38, z39, z40, z41, z42, z43, z44, z45, z46, z47, z48, z49, z50, z51, z52, z53, z54, z55, z56, z57, z58, z59, z60, z61, z62, z63, z64, z65, z66, z67, z68, z69, z70, z71, z72, z73, z74, z75, z76, z77, z78, z79, z80, z81, z82, z83, z84, z85, z86, z87, z88, z89, z90, z91, z92, z93, z94, z95, z96, z97, z98, z99, z100, z101, z102, z103, z104, z105, z106, z107, z108, z109, z110, z111, z112, z113, z114, z115, z116, z117, z118, z119, z120, z121, z122, z123, z124, z125, z126, z127, z128, z129, z130, z131, z132, z133, z134, z135, z136, z137, z138, z139, z140, z141], defers := [] } w := by
  have hy : ∀ w, (zeroValue 38).run Tryd.prog w = .ok (.agg (zer24.map (Value.int .u32)).toArray) w := fun w => by rw [Tryd.zeroValue38]; rfl
  have hYl : zer24.length = 24 := rfl
  have h13 := hE.sz
  have HBu : ∀ w, (Instr.build 38 #[]).run Tryd.prog w = .ok (.agg (zer24.map (Value.int .u32)).toArray) w := fun w => run_build w 38 #[] _ built0
  have hEz : ∀ w, (Op.equalIn 10000 38 (.agg (zer24.map (Value.int .u32)).toArray) (.agg (zer24.map (Value.int .u32)).toArray)).run Tryd.prog w = .ok true w := fun w => eq38 w (List.replicate 8 0) (List.replicate 8 0) (List.replicate 8 0) (List.replicate 8 0) (List.replicate 8 0) (List.replicate 8 0) rfl rfl rfl rfl rfl rfl
  have HP : Hid (Calls Tryd.prog 18 #[.string s] w fun e W' => e = .returned (.tuple #[.agg ((pq s).map (Value.int .u32)).toArray, .int .i64 (pN s)]) ∧ Below w.heap.size w W') := hid (parse_any w (hT.below hb (by omega)) E (hE.on hb) s hs)
  have HTW := hid hT
  have HB := hid hb
  have HNu := hid (fun w x => num_any w x)
  have hMl := pq_length s
  have H13 := hid h13
  clear hT hE hb h13
  refine hd_walk 10 rfl (by simp only [hdx, sfx]; rfl) (by simp only [sfx]; rfl) hK ?_
  clear hK
  intro hK
  by_cases hq : qok s
  · obtain ⟨a, b, c, la, lb, lc, wa, wb, wc, hpq, hf⟩ := pq_parts hq
    have hpn : pN s = 0 := if_pos hq
    rw [hpq, hpn] at HP
    rw [hpq] at hMl
    have HFm : Hid (∀ w, TabW w → 0 < w.heap.size → Calls Tryd.prog 17 #[.agg ((quoL a b c).map (Value.int .u32)).toArray] w fun e W' => e = .returned (.string s) ∧ Below w.heap.size w W') := hid fun w h1 h2 => by have := format_any w h1 h2 a b c la lb lc wa wb wc; rw [hf] at this; exact this
    generalize quoL a b c = M at *
    generalize zer24 = Z24 at *
    clear hq hpq hpn hf wa wb wc la lb lc HBu hEz
    go_wp2_with fail
    refine HP.out.mono ?_
    rintro e w1 ⟨rfl, hb⟩
    have Y1 := hid (below_on HB.out hb)
    clear hb HP
    go_upto_region 13 with (first | (refine wpList_store_but rfl 38 _ _ rfl w1.heap.size M rfl rfl (Blk.new w1 .u32 38 Z24) (by rw [hMl]; exact size38) (by rw [hYl, hMl]) ?_; intro w2 bM hbt hsz; have Y2 : Hid (Below W.heap.size W w2 ∧ Blk w2 w1.heap.size .u32 38 M) := hid ⟨below_on Y1.out (but_box hbt), bM⟩; clear bM hbt hsz))
    generalize w1.heap.size = g20 at *
    clear Y1
    have b3 : (s.toList == s.toList) = true := by simp
    go_upto_region 14 with (first | (go_at_call 16; refine (HNu.out _ _).mono ?_; rintro e w5 ⟨rfl, rfl⟩))
    go_wp2_with (first | (revert Y2; intro Y2; refine wpList_load_mid rfl 38 _ rfl g20 0 rfl _ _ (cel_range (blk_cel Y2.out.2)) Tryd.underlying38 rfl (by rw [List.length_map, hMl]; exact size38) ?_) | (go_at_call 17; refine (HFm.out _ (HTW.out.below Y2.out.1 (by have := H13.out; omega)) (by have := Y2.out.2.lt; omega)).mono ?_; rintro e w3 ⟨rfl, hb⟩; have Y3 := hid (below_on Y2.out.1 hb); clear hb Y2) | (go_at_call 16; refine (HNu.out _ _).mono ?_; rintro e w5 ⟨rfl, rfl⟩))
    go_ret
    exact ⟨rfl, Y3.out⟩
  · have hpq : pq s = zer24 := if_neg hq
    have hpn : pN s = 160 := if_neg hq
    rw [hpq, hpn] at HP
    generalize zer24 = Z24 at *
    clear hq hpq hpn hMl
    go_wp2_with fail
    refine HP.out.mono ?_
    rintro e w1 ⟨rfl, hb⟩
    have Y1 := hid (below_on HB.out hb)
    clear hb HP
    go_upto_region 13 with (first | (refine wpList_store_but rfl 38 _ _ rfl w1.heap.size Z24 rfl rfl (Blk.new w1 .u32 38 Z24) (by rw [hYl]; exact size38) rfl ?_; intro w2 bM hbt hsz; have Y2 : Hid (Below W.heap.size W w2 ∧ Blk w2 w1.heap.size .u32 38 Z24) := hid ⟨below_on Y1.out (but_box hbt), bM⟩; clear bM hbt hsz))
    generalize w1.heap.size = g20 at *
    clear Y1
    go_upto_region 15 with (first | (go_at_call 16; refine (HNu.out _ _).mono ?_; rintro e w5 ⟨rfl, rfl⟩))
    go_wp2_with (first | (refine wpList_load_mg (by rfl) 38 _ rfl g20 0 rfl _ _ (cel_range (blk_cel Y2.out.2)) Tryd.underlying38 rfl (by rw [List.length_map, hYl]; exact size38) ?_) | (go_at_call 16; refine (HNu.out _ _).mono ?_; rintro e w5 ⟨rfl, rfl⟩))
    go_ret
    exact ⟨rfl, Y2.out.1⟩
end Go.Proofs.YtbpdmkohihgnjaaDoor
