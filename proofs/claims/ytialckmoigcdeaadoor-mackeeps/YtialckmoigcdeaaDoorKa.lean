/- MacKeeps. -/
import Derived.Test.YtialckmoigcdeaaDoorKb
import Derived.Deep.DeepCutAuto
import Derived.Deep.MidRow
namespace Go.Proofs.YtialckmoigcdeaaDoor
open Go.RowKit
attribute [-simp] Tryd.isAgg26 Tryd.sizeOf26 Tryd.zeroValue26
set_option maxRecDepth 100000
set_option maxHeartbeats 8000000
theorem KM.withMac {W w w' : World} {cs cq : List Value} {Z : List Rz} (h : KM W w cs cq none Z) (hb : Below w.heap.size w w') (m : Mq) (hm : MacH w' m.gm m.gi m.go m.K m.xs) (hi : w.heap.size ≤ m.gi) : KM W w' cs cq (some m) Z := by
  have h' := h.on hb
  exact ⟨h'.tab, h'.below, h'.BC, h'.BQ, fun m' hm' => by obtain rfl := Option.some.inj hm'; exact ⟨hm, Nat.le_trans h.below.size hi⟩, h'.own, h'.nw, h'.ty, h'.nd⟩
theorem KM.start {W : World} (hT : Tabs W) (cs cq : List Value) : KM W ((W.alloc (Obj.cells cs.toArray 39)).alloc (Obj.cells cq.toArray 24)) cs cq none [] := by
  have h0 : Cel (W.alloc (Obj.cells cs.toArray 39)) W.heap.size 39 cs := heap_alloc_new _ _
  have h1 := heap_alloc_new (W.alloc (Obj.cells cs.toArray 39)) (Obj.cells cq.toArray 24)
  rw [size_alloc] at h1
  exact ⟨hT, (below_one W _).alloc (by simp) _, h0.on (below_one _ _), h1, (fun _ h => by cases h), (fun _ h => by cases h), (fun _ h => by cases h), (fun _ h => by cases h), .nil⟩
theorem room_atW {w : World} {g cap il : Nat} {is : List Int} (h : (⟨g, 25, .u32, cap, some ⟨g, 0, none⟩, roomWD is 200⟩ : Rz).ok w) (hl : is.length = il) : At w .u32 (some ⟨g, 1, none⟩) is := by
  have := (h.own (by simp)).2.mid il
  simp only at this
  rw [roomW_mid is il 200 hl] at this
  exact this
theorem macKeeps_any (W : World) (hT : Tabs W) (ka : Option Addr) (kn kc : Nat) (ks : List Int) (hkl : ks.length = kn) (wk : Wds ks) (hka : At W .u32 ka ks) (hks : Sl ka kc) (hkn : 4 * kn ≤ 140737488351232)
    (ma : Option Addr) (mn mc : Nat) (xs : List Int) (hml : xs.length = mn) (wm : Wds xs) (hma : At W .u32 ma xs) (hms : Sl ma mc) (hmn : 4 * mn ≤ 140737488351232) (aa : Option Addr) (an ac : Nat)
    (sa : Option Addr) (sn sc : Nat) (ss : List Int) (hsl : ss.length = sn) (ps : Bts ss) (hsa : At W .u8 sa ss) (hss : Sl sa sc) (hsn : sn ≤ 140737488351232)
    (ea : Option Addr) (en ec : Nat) (es : List Int) (hel : es.length = en) (pe : Bts es) (hea : At W .u8 ea es) (hes : Sl ea ec) (hen : en ≤ 140737488351232)
    (ia : Option Addr) (il ic : Nat) (is : List Int) (hil : is.length = il) (pi : Bts is) (hia : At W .u8 ia is) (his : Sl ia ic) (hin : il ≤ 140737488351232) (N M : Int) :
    Calls Tryd.prog 5 #[.agg #[.slice ka kn kc, .slice ma mn mc, .slice aa an ac], .agg #[.slice sa sn sc, .slice ea en ec, .slice ia il ic, .int .i64 N, .int .i64 M]] W fun e W' => e = .returned (.bool true) ∧ Below W.heap.size W W' := by
  obtain ⟨V, hV⟩ : ∃ V : List Int, V = List.replicate 8 0 := ⟨_, rfl⟩
  have hVl : V.length = 8 := by rw [hV]; simp
  have hv : ∀ w, (zeroValue 26).run Tryd.prog w = .ok (.agg (V.map (Value.int .u32)).toArray) w := fun w => by rw [Tryd.zeroValue26, hV]; rfl
  clear hV
  have i1 : (kn : Int) ≤ 35184372087808 := by omega
  have i2 : (mn : Int) ≤ 35184372087808 := by omega
  have i3 : (sn : Int) ≤ 140737488351232 := by omega
  have i4 : (en : Int) ≤ 140737488351232 := by omega
  have i5 : (il : Int) ≤ 140737488351232 := by omega
  obtain ⟨cs, hcs⟩ : ∃ cs : List Value, cs = [.slice ka kn kc, .slice ma mn mc, .slice aa an ac] := ⟨_, rfl⟩
  obtain ⟨cq, hcq⟩ : ∃ cq : List Value, cq = [.slice sa sn sc, .slice ea en ec, .slice ia il ic, .int .i64 N, .int .i64 M] := ⟨_, rfl⟩
  have HQ : Hid (KQ cs cq ka kn kc ma mn mc sa sn sc ea en ec ia il ic N) := hid (by rw [hcs, hcq]; exact ⟨rfl, rfl, rfl, rfl, rfl, rfl⟩)
  have HK0 := hid (KM.start hT cs cq)
  obtain ⟨X, hX⟩ : ∃ X, X = (W.alloc (Obj.cells #[.slice ka kn kc, .slice ma mn mc, .slice aa an ac] 39)).alloc (Obj.cells #[.slice sa sn sc, .slice ea en ec, .slice ia il ic, .int .i64 N, .int .i64 M] 24) := ⟨_, rfl⟩
  rw [show (W.alloc (Obj.cells cs.toArray 39)).alloc (Obj.cells cq.toArray 24) = X by rw [hX, hcs, hcq]] at HK0
  clear hcs hcq
  have HCl : Hid (il ≤ 4096 → KC W ka kn kc ks ma mn mc xs sa sn sc ss ea en ec es ia il ic is) := hid (fun h => ⟨hkl, wk, fun w hb => hka.below hb, hks, hkn, hml, wm, fun w hb => hma.below hb, hms, hmn, hsl, ps, fun w hb => hsa.below hb, hss, hsn, hel, pe, fun w hb => hea.below hb, hes, hen, hil, pi, fun w hb => hia.below hb, his, h, hT.sz⟩)
  clear hkl wk hka hks hkn hml wm hma hms hmn hsl ps hsa hss hsn hel pe hea hes hen hil pi hia his hin hT
  have q2 := (HK0.out.BQ.cell 2).trans HQ.out.q2
  go_enter Tryd.func5, Tryd.ntmps5
  go_upto_region 1 with fail
  rw [← hX]
  clear hX
  by_cases hlong : 4096 < il
  · have i6 : (4096 : Int) < (il : Int) := by omega
    go_upto_region 2 with (go_at_call 9; refine (first_law _ HK0.out.tabs).mono ?_; rintro e w1 ⟨rfl, hb⟩; have HK1 := hid (HK0.out.on hb); have q3 := (HK1.out.BQ.cell 2).trans HQ.out.q2; clear hb HK0 q2)
    clear q3
    go_wp2_with (go_at_call 9; refine (first_law _ HK1.out.tabs).mono ?_; rintro e w2 ⟨rfl, hb⟩; have HK2 := hid (HK1.out.on hb); clear hb HK1)
    go_ret
    exact ⟨rfl, HK2.out.below⟩
  have i6 : (il : Int) ≤ 4096 := by omega
  have HC := hid (HCl.out (by omega))
  clear HCl hlong
  have HLu : Hid ((roomWD ks 200).length = kn + 1 + 200) := hid (by rw [roomWD_length, HC.out.hkl])
  have HLv : Hid ((roomWD xs 200).length = mn + 1 + 200) := hid (by rw [roomWD_length, HC.out.hml])
  have HLa : Hid ((roomBD ss 400).length = sn + 1 + 400) := hid (by rw [roomBD_length, HC.out.hsl])
  have HLb : Hid ((roomBD es 400).length = en + 1 + 400) := hid (by rw [roomBD_length, HC.out.hel])
  have HLi : Hid ((roomBD is 400).length = il + 1 + 400) := hid (by rw [roomBD_length, HC.out.hil])
  go_upto_region 3 with (go_at_call 9; refine (first_law _ HK0.out.tabs).mono ?_; rintro e w1 ⟨rfl, hb⟩; have HK1 := hid (HK0.out.on hb); have q3 := (HK1.out.BQ.cell 2).trans HQ.out.q2; clear hb HK0 q2)
  clear q3
  have c_ := (HK1.out.BC.cell 0).trans HQ.out.c0
  go_upto_region 4 with (go_at_call 20; refine (roomW_any _ ka kn kc ks HC.out.hkl (HC.out.AK _ HK1.out.bw) HC.out.S1 (by have := HC.out.hkn; omega)).mono ?_; rintro e w2 ⟨v, rfl, H_⟩; obtain ⟨gu, cu, rfl, hg_, o_, hc_⟩ := H_.toOwn (by rw [HLu.out]; omega); rw [HLu.out]; have HK2 := hid (HK1.out.add H_.below ⟨gu, 25, .u32, cu, some ⟨gu, 0, none⟩, roomWD ks 200⟩ (.inr ⟨rfl, o_⟩) (fun _ => hg_) (by simp)); have lgu := o_.len; rw [HLu.out] at lgu; have mgu : (cu : Int) ≤ 9223372036854775807 := (by unfold maxLen at hc_; omega); clear H_ hg_ o_ hc_ HK1)
  clear c_
  have c_ := (HK2.out.BC.cell 1).trans HQ.out.c1
  go_upto_region 5 with (go_at_call 20; refine (roomW_any _ ma mn mc xs HC.out.hml (HC.out.AM _ HK2.out.bw) HC.out.S2 (by have := HC.out.hmn; omega)).mono ?_; rintro e w3 ⟨v, rfl, H_⟩; obtain ⟨gv, cv, rfl, hg_, o_, hc_⟩ := H_.toOwn (by rw [HLv.out]; omega); rw [HLv.out]; have HK3 := hid (HK2.out.add H_.below ⟨gv, 25, .u32, cv, some ⟨gv, 0, none⟩, roomWD xs 200⟩ (.inr ⟨rfl, o_⟩) (fun _ => hg_) (by simp)); have lgv := o_.len; rw [HLv.out] at lgv; have mgv : (cv : Int) ≤ 9223372036854775807 := (by unfold maxLen at hc_; omega); clear H_ hg_ o_ hc_ HK2)
  clear c_
  have c_ := (HK3.out.BQ.cell 0).trans HQ.out.q0
  go_upto_region 6 with (go_at_call 21; refine (roomB_any _ sa sn sc ss HC.out.hsl (HC.out.AS _ HK3.out.bw) HC.out.S3 (by have := HC.out.hsn; omega)).mono ?_; rintro e w4 ⟨v, rfl, H_⟩; obtain ⟨ga, ca, rfl, hg_, o_, hc_⟩ := H_.toOwn (by rw [HLa.out]; omega); rw [HLa.out]; have HK4 := hid (HK3.out.add H_.below ⟨ga, 5, .u8, ca, some ⟨ga, 0, none⟩, roomBD ss 400⟩ (.inr ⟨rfl, o_⟩) (fun _ => hg_) (by simp)); have lga := o_.len; rw [HLa.out] at lga; have mga : (ca : Int) ≤ 9223372036854775807 := (by unfold maxLen at hc_; omega); clear H_ hg_ o_ hc_ HK3)
  clear c_
  have c_ := (HK4.out.BQ.cell 1).trans HQ.out.q1
  go_upto_region 7 with (go_at_call 21; refine (roomB_any _ ea en ec es HC.out.hel (HC.out.AE _ HK4.out.bw) HC.out.S4 (by have := HC.out.hen; omega)).mono ?_; rintro e w5 ⟨v, rfl, H_⟩; obtain ⟨gb, cb, rfl, hg_, o_, hc_⟩ := H_.toOwn (by rw [HLb.out]; omega); rw [HLb.out]; have HK5 := hid (HK4.out.add H_.below ⟨gb, 5, .u8, cb, some ⟨gb, 0, none⟩, roomBD es 400⟩ (.inr ⟨rfl, o_⟩) (fun _ => hg_) (by simp)); have lgb := o_.len; rw [HLb.out] at lgb; have mgb : (cb : Int) ≤ 9223372036854775807 := (by unfold maxLen at hc_; omega); clear H_ hg_ o_ hc_ HK4)
  clear c_
  have c_ := (HK5.out.BQ.cell 2).trans HQ.out.q2
  go_upto_region 8 with (go_at_call 21; refine (roomB_any _ ia il ic is HC.out.hil (HC.out.AI _ HK5.out.bw) HC.out.S5 (by have := HC.out.hin; omega)).mono ?_; rintro e w6 ⟨v, rfl, H_⟩; obtain ⟨gI, cI, rfl, hg_, o_, hc_⟩ := H_.toOwn (by rw [HLi.out]; omega); rw [HLi.out]; have HK6 := hid (HK5.out.add H_.below ⟨gI, 5, .u8, cI, some ⟨gI, 0, none⟩, roomBD is 400⟩ (.inr ⟨rfl, o_⟩) (fun _ => hg_) (by simp)); have lgI := o_.len; rw [HLi.out] at lgI; have mgI : (cI : Int) ≤ 9223372036854775807 := (by unfold maxLen at hc_; omega); clear H_ hg_ o_ hc_ HK5)
  clear c_
  have c0 := (HK6.out.BC.cell 0).trans HQ.out.c0
  have c1 := (HK6.out.BC.cell 1).trans HQ.out.c1
  have lu : ¬ (cu < 1 + kn) := by omega
  have lv : ¬ (cv < 1 + mn) := by omega
  have lu1 : ¬ (cu = 1) := by omega
  have lv1 : ¬ (cv = 1) := by omega
  obtain ⟨H, hH⟩ : ∃ H, hmac (bytesD ks) (bytesD xs) = H := ⟨_, rfl⟩
  have HH := hid hH
  have hHl : H.length = 8 := by rw [← hH]; exact hmac_length _ _
  have hsH : (Tryd.prog.info? 26).map (·.size) = some H.length := by rw [hHl]; exact size26
  clear hH
  go_upto_region 10 with fail
  clear c0 c1
  go_upto_region 11 with (first | (go_at_call 14; refine (macTag_any _ HK6.out.tabs (some ⟨gu, 1, none⟩) kn (cu - 1) ks HC.out.hkl HC.out.wk (room_atW (HK6.out.get 4 rfl) HC.out.hkl) HC.out.hkn (some ⟨gv, 1, none⟩) mn (cv - 1) xs HC.out.hml HC.out.wm (room_atW (HK6.out.get 3 rfl) HC.out.hml) HC.out.hmn).mono ?_; rintro e w7 ⟨rfl, hb7⟩; rw [HH.out]; have HK7 := hid (HK6.out.on hb7); clear hb7) | (refine wpList_store_but rfl 26 _ _ rfl w7.heap.size H rfl rfl (Blk.new w7 .u32 26 V) hsH (hVl.trans hHl.symm) ?_; intro w8 b8 hw8 hs8; have HK8 := hid (HK7.out.add ((below_one w7 _).trans (hw8.below (Nat.le_refl _) (by simp))) ⟨w7.heap.size, 26, .u32, 8, some ⟨w7.heap.size, 0, none⟩, H⟩ (.inr ⟨rfl, by have := b8.own; rw [hHl] at this; exact this⟩) (fun _ => Nat.le_refl _) (by simp)); clear b8 hw8 hs8))
  clear HK6 HK7
  generalize w7.heap.size = gw at *
  go_upto_region 12 with (go_at_call 17; refine (new_mac _ HK8.out.tabs (some ⟨gu, 1, none⟩) kn (cu - 1) ks HC.out.hkl HC.out.wk (room_atW (HK8.out.get 5 rfl) HC.out.hkl) HC.out.hkn).mono ?_; rintro e w9 ⟨gm, gi, go, hm, hi, ho, rfl, M9, hb9⟩; have HK9 := hid (HK8.out.withMac hb9 ⟨gm, gi, go, keyW (bytesD ks), []⟩ M9 hi); clear hm hi ho M9 hb9 HK8)
  have cm := ((HK9.out.MH _ rfl).1.cel.cell 0)
  have ci : w9.cell? ⟨gm, 0, none⟩ = some (.pointer (some ⟨gi, 0, none⟩)) := cm.trans rfl
  clear cm
  go_cut [83] (fun _ w => Hid (KM W w cs cq (some ⟨gm, gi, go, keyW (bytesD ks), xs⟩) [⟨gw, 26, .u32, 8, some ⟨gw, 0, none⟩, H⟩, ⟨gI, 5, .u8, cI, some ⟨gI, 0, none⟩, roomBD is 400⟩, ⟨gb, 5, .u8, cb, some ⟨gb, 0, none⟩, roomBD es 400⟩, ⟨ga, 5, .u8, ca, some ⟨ga, 0, none⟩, roomBD ss 400⟩, ⟨gv, 25, .u32, cv, some ⟨gv, 0, none⟩, roomWD xs 200⟩, ⟨gu, 25, .u32, cu, some ⟨gu, 0, none⟩, roomWD ks 200⟩]))
  case first =>
    go_wp2_with (go_at_call 18; refine (addL_any w9 HK9.out.tabs.sha HK9.out.tabs.sz gi _ (HK9.out.MH _ rfl).1.inner (some ⟨gv, 1, none⟩) mn (cv - 1) xs HC.out.hml (room_atW (HK9.out.get 4 rfl) HC.out.hml) (by have := HC.out.hmn; omega) (by simp only; rw [List.append_nil, xorL_length, keyW_length]; have := HC.out.hmn; omega)).mono ?_; rintro e wA ⟨rfl, dA, hbA⟩; have HKA := hid (HK9.out.mac hbA (by simp only at dA; rw [List.append_nil] at dA; exact dA)); clear dA hbA HK9)
    go_meet
    exact HKA
  case rest =>
    have HKz := hcut
    clear hcut HK9
    exact (‹∀ (a : Act) (w : World), Code.wp Tryd.prog _ _ a w → _› _ _ (keepB W _ cs cq ka kn kc ks ma mn mc xs sa sn sc ss ea en ec es ia il ic is N HC.out HQ.out ⟨gm, gi, go, keyW (bytesD ks), xs⟩ rfl rfl gw gI cI gb cb ga ca gv cv gu cu H HKz.out HH.out (by omega) mgI (by omega) mga (by omega) mgb _ _ _ _ _ _ _ _ _ _ _ _ _ _ _ _ _ _ _ _ _ _ _ _ _ _ _ _ _ _ _ _ _ _ _ _ _ _ _ _ _ _ _ _ _ _ _ _ _ _ _ _ _ _ _ _ _ _ _ _ _ _ _ _ _ _ _ _ _ _ _ _ _ _ _ _ _ _ _ _ _ _ _ _ _ _ _ _ _ _ _ _ _ _ _ _ _ _ _ _ _ _ _ _ _ _ _ _ _ _ _ _ _ _ _ _ _ _ _ _ _ _ _ _ _ _ _ _ _ _ _ _ _ _ _ _ _ _ _ _ _ _ _ _ _ _ _ _ _ _ _ _ _ _ _ _ _ _ _ _ _ _ _ _ _ _ _ _ _ _ _ _ _ _ _ _ _ _ _ _ _ _ _ _ _ _ _ _ _ _ _ _ _ _ _ _ _ _ _ _ _ _ _ _ _ _ _ _ _ _ _ _ _ _ _ _ _ _ _ _ _ _ _ _ _ _ _ _ _ _ _ _ _ _ _ _ _ _ _ _ _ _ _ _ _ _ _ _ _ _ _ _ _ _ _ _ _ _ _ _ _ _ _ _ _ _ _ _ _ _ _ _ _ _ _ _ _ _ _ _ _ _ _ _ _ _ _ _ _ _ _ _ _ _ _ _ _ _ _ _ _ _ _ _ _ _ _ _ _ _ _ _ _ _ _ _ _ _ _ _ _ _ _ _ _ _ _ _ _ _ _ _ _ _ _ _ _ _ _ _ _ _ _ _))
end Go.Proofs.YtialckmoigcdeaaDoor
