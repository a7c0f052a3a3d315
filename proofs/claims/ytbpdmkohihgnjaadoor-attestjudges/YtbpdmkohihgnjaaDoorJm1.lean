/- The law AttestJudges 4: its end, case 1. -/
import Derived.Test.YtbpdmkohihgnjaaDoorJl
namespace Go.Proofs.YtbpdmkohihgnjaaDoor
open Go.RowKit
set_option maxHeartbeats 8000000
set_option maxRecDepth 100000
attribute [-simp] Tryd.isAgg23 Tryd.zeroValue23 Tryd.isAgg38 Tryd.zeroValue38 Tryd.isAgg36 Tryd.zeroValue36 Tryd.isAgg40 Tryd.zeroValue40
theorem judges_10_1 (W w : World) (E : Nat → Addr) (g4 g7 g8 g9 : Nat) (ao : Option Addr) (n c : Nat) (ot : Bool) (R : List Rl) (s o q : List Int) (ri sa : Bool) (k m d t T : List Int) (da : Bool) (dn : ByteArray) (hF : JF W ao n R s o q k m d t) (hJ : JL W E g4 g7 g8 ao n c ot R s o q ri sa k m d t w) (h9 : Blk w g9 .u32 23 T) (hT : tagOf k m d = T) (hda : (dec R ot m).1 = da) (hdn : (dec R ot m).2 = dn) (e1 : ¬ t = T) (K' : Act → World → Prop)
    (hK : ∀ a w, Code.wp Tryd.prog (sfx 11 (Tryd.f4.body.getD .skip)) (bodyPost Tryd.prog Tryd.f4 fun x w' => x = .returned (.bool true) ∧ Below W.heap.size W w') a w → K' a w) (z0 z1 z2 z5 z12 z13 z14 z15 z16 z17 z18 z19 z20 z21 z22 z23 z24 z25 z26 z27 z28 z29 z30 z31 z32 z33 z34 z35 z36 z37 z38 z39 z40 z41 z42 z43 z44 z45 z46 z47 z48 z49 z50 z51 z52 z53 z54 z55 z56 z57 z58 z59 z60 z61 z62 z63 z64 z65 z66 z67 z68 z69 z70 z71 z72 z73 z74 z75 z76 z77 z78 z79 z80 z81 z82 z83 z84 z85 z86 z87 z88 z89 z90 z91 z92 z93 z94 z95 z96 z97 z98 z99 z100 z101 z102 z103 z104 z105 z106 z107 z108 z109 z110 z111 z112 z113 z114 z115 z116 z117 z118 z119 z120 z121 z122 z123 z124 z125 z126 z127 z128 z129 z130 z131 z132 z133 z134 z135 z136 z137 z138 z139 z140 z141 z142 z143 z144 z145 z146 z147 z148 z149 z150 z151 z152 z153 : Value) :
    Code.wp Tryd.prog (hdx 10 (Tryd.f4.body.getD .skip)) (Exit.then K' (bodyPost Tryd.prog Tryd.f4 fun x w' => x = .returned (.bool true) ∧ Below W.heap.size W w')) { tmps := #[z0, z1, z2, .pointer (some ⟨W.heap.size, 0, none⟩), .pointer (some ⟨g4, 0, none⟩), z5, .bool false, .pointer (some ⟨g7, 0, none⟩), .pointer (some ⟨g8, 0, none⟩), .pointer (some ⟨g9, 0, none⟩), .bool da, .string dn, z12, z13, z14, z15, z16, z17, z18, z19, z20, z21, z22, z23, z24, z25, z26, z27, z28, z29, z30, z31, z32, z33, z34, z35, z36, z37, z38, z39, z40, z41, z42, z43, z44, z45, z46, z47, z48, z49, z50, z51, z52, z53, z54, z55, z56, z57, z58, z59, z60, z61, z62, z63, z64, z65, z66, z67, z68, z69, z70, z71, z72, z73, z74, z75, z76, z77, z78, z79, z80, z81, z82, z83, z84, z85, z86, z87, z88, z89, z90, z91, z92, z93, z94, z95, z96, z97, z98, z99, z100, z101, z102, z103, z104, z105, z106, z107, z108, z109, z110, z111, z112, z113, z114, z115, z116, z117, z118, z119, z120, z121, z122, z123, z124, z125, z126, z127, z128, z129, z130, z131, z132, z133, z134, z135, z136, z137, z138, z139, z140, z141, z142, z143, z144, z145, z146, z147, z148, z149, z150, z151, z152, z153], defers := [] } w := by
  have hTl : T.length = 8 := by rw [← hT]; exact tagOf_length k m d
  have Y2 : Hid (JL W E g4 g7 g8 ao n c ot R s o q ri sa k m d t w ∧ Blk w g9 .u32 23 T) := hid ⟨hJ, h9⟩
  have HF := hid hF
  have HD : Hid (∀ w, RulesAt w ao R → Calls Tryd.prog 14 #[.agg #[.slice ao n c, .bool ot], .agg (m.map (Value.int .u32)).toArray] w fun e W' => e = .returned (.tuple #[.bool da, .string dn]) ∧ Below w.heap.size w W') := hid (by rw [← hda, ← hdn]; exact fun w hw => decide_any w ao n c ot m R hF.hm hF.hn hw hF.ok hF.hmax)
  have hj : jcode T t d o da = 1 := by rw [jcode, if_neg (fun h => e1 h.symm)]
  have HG : Hid (∀ w, Tabs w → ErrS w E → RulesAt w ao R → Calls Tryd.prog 15 #[.agg (k.map (Value.int .u32)).toArray, .agg #[.slice ao n c, .bool ot], .agg ((quoL m d t).map (Value.int .u32)).toArray, .agg (o.map (Value.int .u32)).toArray] w fun e W' => e = .returned (.tuple #[.string ⟨#[]⟩, .int .i64 162]) ∧ Below w.heap.size w W') := hid (by
    intro w h1 h2 h3
    have := judge_any w h1 E h2 k ao n c ot m d t o R hF.hk hF.hm hF.hd hF.ht hF.ho hF.wk hF.wm hF.wd hF.wt hF.hn h3 hF.ok hF.hmax
    rw [hT, hda, hdn, hj] at this
    exact this)
  have HNu := hid (fun w => num_any w 162)
  have hm := hF.hm
  have hE8 := hF.hk
  have hd := hF.hd
  have ht := hF.ht
  have ho := hF.ho
  have hQl := quoL_length hm hd ht
  have hEt := eq26 t T ht hTl
  rw [decide_eq_false e1] at hEt
  have HX := hid (And.intro hF.hs (And.intro hF.hm hF.hd))
  clear hF hJ h9 hda hdn hj hT e1
  refine hd_walk 10 rfl (by simp only [hdx, sfx]; rfl) (by simp only [sfx]; rfl) hK ?_
  clear hK
  intro hK
  clear HF
  go_upto_region 19 with (first | (refine wpList_load_mid rfl 36 _ rfl W.heap.size 0 rfl _ _ (cel_range Y2.out.1.p3) Tryd.underlying36 rfl size36 ?_) | (refine wpList_load_mid rfl 23 _ rfl g8 0 rfl _ _ (quo0 (cel_range (blk_cel Y2.out.1.b8))) Tryd.underlying23 rfl (by rw [List.length_map, hm]; exact size26) ?_) | (go_at_call 14; refine (HD.out _ Y2.out.1.ru).mono ?_; rintro e w3 ⟨rfl, hb⟩; have Y3 : Hid (JL W E g4 g7 g8 ao n c ot R s o q ri sa k m d t w3 ∧ Blk w3 g9 .u32 23 T) := hid ⟨Y2.out.1.on hb, Y2.out.2.on hb⟩; clear hb Y2))
  clear HD
  go_wp2_with (first | (refine wpList_load_mid rfl 36 _ rfl W.heap.size 0 rfl _ _ (cel_range Y3.out.1.p3) Tryd.underlying36 rfl size36 ?_) | (refine wpList_load_mid rfl 23 _ rfl g7 0 rfl _ _ (cel_range (blk_cel Y3.out.1.b7)) Tryd.underlying23 rfl (by rw [List.length_map, hE8]; exact size26) ?_) | (refine wpList_load_mid rfl 38 _ rfl g8 0 rfl _ _ (cel_range (blk_cel Y3.out.1.b8)) Tryd.underlying38 rfl (by rw [List.length_map, hQl]; exact size38) ?_) | (refine wpList_load_mid rfl 23 _ rfl g4 8 rfl (o.map (Value.int .u32)) _ (cla8 Y3.out.1.c4 HX.out.1) Tryd.underlying23 rfl (by rw [List.length_map, ho]; exact size26) ?_))
  refine (HG.out _ Y3.out.1.tb Y3.out.1.es Y3.out.1.ru).mono ?_
  rintro e w4 ⟨rfl, hb⟩
  have Y4 : Hid (JL W E g4 g7 g8 ao n c ot R s o q ri sa k m d t w4 ∧ Blk w4 g9 .u32 23 T) := hid ⟨Y3.out.1.on hb, Y3.out.2.on hb⟩
  clear hb Y3
  go_upto_region 20 with fail
  clear HG
  have b1 : (da != da) = false := by simp
  have b2 : (dn.toList != dn.toList) = false := by simp
  have b3 : (dn.toList == dn.toList) = true := by simp
  go_upto_region 22 with fail
  go_upto_region 23 with (first | (refine wpList_load_mid rfl 23 _ rfl g8 16 rfl _ _ (by have := quo16 (cel_range (blk_cel Y4.out.1.b8)) HX.out.2.1 HX.out.2.2; rwa [Nat.zero_add] at this) Tryd.underlying23 rfl (by rw [List.length_map, ht]; exact size26) ?_) | (refine wpList_load_mid rfl 23 _ rfl g9 0 rfl _ _ (cel_range (blk_cel Y4.out.2)) Tryd.underlying23 rfl (by rw [List.length_map, hTl]; exact size26) ?_))
  go_wp2_with (first | (go_at_call 16; refine (HNu.out _).mono ?_; rintro e w5 ⟨rfl, rfl⟩))
  go_ret
  exact ⟨rfl, Y4.out.1.bl⟩
end Go.Proofs.YtbpdmkohihgnjaaDoor
