import Derived.Test.YtbpdmkohihgnjaaGreatDoorP16
import Derived.Test.YtbpdmkohihgnjaaGreatDoorP01
import Derived.Test.YtbpdmkohihgnjaaGreatDoorP17
namespace Go.Proofs.YtbpdmkohihgnjaaGreatDoor
open Go.RowKit
set_option maxHeartbeats 4000000
set_option maxRecDepth 100000
def jcode (T t d nonce : List Int) (a : Bool) : Nat := if T = t then if d = nonce then if a = true then 0 else 3 else 2 else 1
def errV (E : Nat → Addr) (c : Nat) : Value := if c = 0 then .nilIface else .iface 245 (.pointer (some (E c)))
def errN (c : Nat) : Int := if c = 0 then 0 else 161 + c
def jname (c : Nat) (nm : ByteArray) : ByteArray := if c = 0 then nm else ⟨#[]⟩
theorem range_left {w : World} {g o : Nat} {a b : List Int} (h : w.rangeAt g o ((a ++ b).map (Value.int .u32))) : w.rangeAt g o (a.map (Value.int .u32)) := fun j v hv => h j v (by
  rw [List.map_append, List.getElem?_append_left (by have := (List.getElem?_eq_some_iff.1 hv).1; exact this)]; exact hv)
theorem range_right {w : World} {g o k : Nat} {a b : List Int} (h : w.rangeAt g o ((a ++ b).map (Value.int .u32))) (hk : a.length = k) : w.rangeAt g (o + k) (b.map (Value.int .u32)) := fun j v hv => by
  have := h (k + j) v (by rw [List.map_append, List.getElem?_append_right (by simp [hk])]; simpa [hk] using hv)
  rwa [show o + (k + j) = o + k + j by omega] at this
def quoL (m d t : List Int) : List Int := m ++ (d ++ t)
theorem quoL_length {m d t : List Int} (hm : m.length = 8) (hd : d.length = 8) (ht : t.length = 8) : (quoL m d t).length = 24 := by simp [quoL, hm, hd, ht]
theorem quo0 {w : World} {g o : Nat} {m d t : List Int} (h : w.rangeAt g o ((quoL m d t).map (Value.int .u32))) : w.rangeAt g o (m.map (Value.int .u32)) := range_left h
theorem quo8 {w : World} {g o : Nat} {m d t : List Int} (h : w.rangeAt g o ((quoL m d t).map (Value.int .u32))) (hm : m.length = 8) : w.rangeAt g (o + 8) (d.map (Value.int .u32)) := range_left (range_right h hm)
theorem quo16 {w : World} {g o : Nat} {m d t : List Int} (h : w.rangeAt g o ((quoL m d t).map (Value.int .u32))) (hm : m.length = 8) (hd : d.length = 8) : w.rangeAt g (o + 16) (t.map (Value.int .u32)) := by
  have := range_right (range_right h hm) hd
  rwa [Nat.add_assoc] at this
theorem size38 : (Tryz.prog.info? 28).map (·.size) = some 24 := by kernel_rfl
theorem heap_alloc_new' {W : World} {n : Nat} (hn : W.heap.size = n) (o : Obj) : (W.alloc o).heap[n]? = some o := by subst hn; exact heap_alloc_new _ _
structure JD (W : World) (E : Nat → Addr) (g5 g6 g7 : Nat) (k : List Int) (ao : Option Addr) (n c : Nat) (ot : Bool) (m d t o : List Int) (R : List Rl) (w : World) : Prop where
  bl : Below W.heap.size W w
  tb : Tabs w
  es : ErrS w E
  b4 : Blk w W.heap.size .u32 26 k
  p5 : Cel w g5 24 (polC ao n c ot)
  q6 : Blk w g6 .u32 28 (quoL m d t)
  b7 : Blk w g7 .u32 26 o
  ru : RulesAt w ao R
theorem JD.on {W : World} {E : Nat → Addr} {g5 g6 g7 : Nat} {k : List Int} {ao : Option Addr} {n c : Nat} {ot : Bool} {m d t o : List Int} {R : List Rl} {w w' : World} (h : JD W E g5 g6 g7 k ao n c ot m d t o R w) (hb : Below w.heap.size w w') : JD W E g5 g6 g7 k ao n c ot m d t o R w' :=
  ⟨below_on h.bl hb, h.tb.on hb, h.es.on hb, h.b4.on hb, h.p5.on hb, h.q6.on hb, h.b7.on hb, h.ru.on hb⟩
attribute [-simp] Tryz.isAgg26 Tryz.zeroValue26 Tryz.isAgg28 Tryz.zeroValue28 Tryz.isAgg24 Tryz.zeroValue24
theorem judged_any (W : World) (hT : Tabs W) (E : Nat → Addr) (hE : ErrS W E) (k : List Int) (ao : Option Addr) (n c : Nat) (ot : Bool) (m d t o : List Int) (R : List Rl) (hk : k.length = 8) (hm : m.length = 8) (hd : d.length = 8) (ht : t.length = 8) (ho : o.length = 8) (wk : Wds k) (wm : Wds m) (wd : Wds d) (wt : Wds t)
    (hn : R.length = n) (hr : RulesAt W ao R) (ok : ∀ r ∈ R, r.Ok) (hmax : (n : Int) ≤ 9223372036854775807) :
    Calls Tryz.prog 66 #[Ag k, .agg (polC ao n c ot).toArray, Ag (quoL m d t), Ag o] W fun e W' => e = .returned (.tuple #[.string (jname (jcode (tagOf k m d) t d o (dec R ot m).1) (dec R ot m).2), errV E (jcode (tagOf k m d) t d o (dec R ot m).1)]) ∧ Below W.heap.size W W' := by
  obtain ⟨X, hX⟩ : ∃ X, X = (((W.alloc (Obj.cells (List.map (Value.int IntKind.u32) k).toArray 26)).alloc (Obj.cells #[.slice ao n c, .bool ot] 24)).alloc (Obj.cells (List.map (Value.int IntKind.u32) (quoL m d t)).toArray 28)).alloc (Obj.cells (List.map (Value.int IntKind.u32) o).toArray 26) := ⟨_, rfl⟩
  have Y0 : Hid (JD W E (W.heap.size + 1) (W.heap.size + 1 + 1) (W.heap.size + 1 + 1 + 1) k ao n c ot m d t o R X) := hid (by
    have HB : Below W.heap.size W X := by rw [hX]; exact below_on (below_on (below_on (below_one W _) (below_one _ _)) (below_one _ _)) (below_one _ _)
    refine ⟨HB, hT.on HB, hE.on HB, ?_, ?_, ?_, ?_, hr.on HB⟩
    · rw [hX]; exact (((Blk.new W .u32 26 k).alloc _).alloc _).alloc _
    · rw [hX]; exact Cel.on (Cel.on (heap_alloc_new' (by simp) _) (below_one _ _)) (below_one _ _)
    · rw [hX]; exact (Blk.newAt (by simp) .u32 28 (quoL m d t)).alloc _
    · rw [hX]; exact Blk.newAt (by simp) .u32 26 o)
  have HV : Hid (∀ w, Tabs w → Calls Tryz.prog 87 #[.agg (k.map (Value.int .u32)).toArray, .agg (m.map (Value.int .u32)).toArray, .agg (d.map (Value.int .u32)).toArray, .agg (t.map (Value.int .u32)).toArray] w fun e W' => e = .returned (.bool (decide (tagOf k m d = t))) ∧ Below w.heap.size w W') := hid fun w hw => verify_any w hw k m d t hk hm hd ht wk wm wd wt
  have HD : Hid (∀ w, RulesAt w ao R → Calls Tryz.prog 35 #[.agg #[.slice ao n c, .bool ot], .agg (m.map (Value.int .u32)).toArray] w fun e W' => e = .returned (.tuple #[.bool (dec R ot m).1, .string (dec R ot m).2]) ∧ Below w.heap.size w W') := hid fun w hw => decide_any w ao n c ot m R hm hn hw ok hmax
  have hQl := quoL_length hm hd ht
  have HM := hid (And.intro hm hd)
  generalize dec R ot m = D at *
  obtain ⟨da, dn⟩ := D
  generalize tagOf k m d = T at *
  clear hT hE wk wm wd wt ok hr hn
  unfold Ag polC
  go_enter Tryz.func66, Tryz.ntmps66
  go_upto_region 1 with fail
  rw [← hX]
  clear hX
  generalize W.heap.size + 1 + 1 + 1 = g7 at *
  generalize W.heap.size + 1 + 1 = g6 at *
  generalize W.heap.size + 1 = g5 at *
  by_cases e1 : T = t
  rotate_left
  · rw [decide_eq_false e1] at HV
    have HJ := hid (show jcode T t d o da = 1 from if_neg e1)
    clear e1
    go_upto_region 2 with (first | (refine wpList_load_mid rfl 26 _ rfl W.heap.size 0 rfl _ _ (cel_range (blk_cel Y0.out.b4)) Tryz.underlying26 rfl (by rw [List.length_map, hk]; exact size26) ?_) | (refine wpList_load_mid rfl 26 _ rfl g6 0 rfl _ _ (quo0 (cel_range (blk_cel Y0.out.q6))) Tryz.underlying26 rfl (by rw [List.length_map, hm]; exact size26) ?_) | (refine wpList_load_mid rfl 26 _ rfl g6 8 rfl _ _ (by have := quo8 (cel_range (blk_cel Y0.out.q6)) HM.out.1; rwa [Nat.zero_add] at this) Tryz.underlying26 rfl (by rw [List.length_map, hd]; exact size26) ?_) | (refine wpList_load_mid rfl 26 _ rfl g6 16 rfl _ _ (by have := quo16 (cel_range (blk_cel Y0.out.q6)) HM.out.1 HM.out.2; rwa [Nat.zero_add] at this) Tryz.underlying26 rfl (by rw [List.length_map, ht]; exact size26) ?_) | (go_at_call 87; refine (HV.out _ Y0.out.tb).mono ?_; rintro e w1 ⟨rfl, hb⟩; have Y1 := hid (Y0.out.on hb); clear hb Y0))
    have Y2 : Hid (ErrS w1.drew E ∧ Below W.heap.size W w1.drew) := hid ⟨Y1.out.es.on (Below.refl _ _).drew, Y1.out.bl.drew⟩
    clear Y1
    refine wp_region_held_drew (S := fun w => ErrS w E ∧ Below W.heap.size W w) (by kernel_rfl) Y2.out (fun hHeld => ?_)
    generalize World.drew _ = wz at *
    refine tk 0 ⟨some 21, .load 47 (.global 3), 47, "attest.go:36", #[{ on := 1, ground := .gcOnly Departure.lateStores }], none⟩ (.iface 245 (.pointer (some (E 1)))) ?_ (hy := Or.inl ⟨by rfl, by intro w hSw; have hc := hSw.1.k1; go_simp⟩)
    simp only [Act.put, List.setIfInBounds_toArray, List.set_cons_zero, List.set_cons_succ]
    refine wpAnyH_ready (rs := [1]) (by kernel_rfl) (by simp) (AllReadyH.cons (o := ⟨some 8, .assign (.const (.string { data := #[] })), 9, "attest.go:36", #[{ on := 0, ground := .textOnly Departure.lateStores }], none⟩) rfl (fun KQ hK => ?_) AllReadyH.nil)
    go_simp
    refine hK.out _ _ Y2.out (fun hHeld => ?_)
    clear hK KQ
    try simp only [Act.put, List.setIfInBounds_toArray, List.set_cons_zero, List.set_cons_succ]
    refine wpAnyH_ready (rs := [2]) (by kernel_rfl) (by simp) (AllReadyH.cons (o := ⟨some 9, .assign (.tmp 21), 47, "attest.go:36", #[⟨0, .data⟩, ⟨1, .chain⟩, ⟨0, .phase⟩, ⟨1, .phase⟩], none⟩) rfl (fun KQ hK => ?_) AllReadyH.nil)
    go_simp
    refine hK.out _ _ Y2.out (fun hHeld => ?_)
    clear hK KQ
    try simp only [Act.put, List.setIfInBounds_toArray, List.set_cons_zero, List.set_cons_succ]
    refine wpAnyH_done (by kernel_rfl) ?_ _
    go_wp2_with fail
    go_ret2
    exact ⟨by rw [HJ.out]; rfl, Y2.out.2⟩
  · rw [decide_eq_true e1] at HV
    have HJ1 := hid e1
    clear e1
    go_upto_region 3 with (first | (refine wpList_load_mid rfl 26 _ rfl W.heap.size 0 rfl _ _ (cel_range (blk_cel Y0.out.b4)) Tryz.underlying26 rfl (by rw [List.length_map, hk]; exact size26) ?_) | (refine wpList_load_mid rfl 26 _ rfl g6 0 rfl _ _ (quo0 (cel_range (blk_cel Y0.out.q6))) Tryz.underlying26 rfl (by rw [List.length_map, hm]; exact size26) ?_) | (refine wpList_load_mid rfl 26 _ rfl g6 8 rfl _ _ (by have := quo8 (cel_range (blk_cel Y0.out.q6)) HM.out.1; rwa [Nat.zero_add] at this) Tryz.underlying26 rfl (by rw [List.length_map, hd]; exact size26) ?_) | (refine wpList_load_mid rfl 26 _ rfl g6 16 rfl _ _ (by have := quo16 (cel_range (blk_cel Y0.out.q6)) HM.out.1 HM.out.2; rwa [Nat.zero_add] at this) Tryz.underlying26 rfl (by rw [List.length_map, ht]; exact size26) ?_) | (go_at_call 87; refine (HV.out _ Y0.out.tb).mono ?_; rintro e w1 ⟨rfl, hb⟩; have Y1 := hid (Y0.out.on hb); clear hb Y0))
    have hEN := eq26 d o hd ho
    by_cases e2 : d = o
    rotate_left
    · rw [decide_eq_false e2] at hEN
      have HJ := hid (show jcode T t d o da = 2 by rw [jcode, if_pos HJ1.out, if_neg e2])
      clear e2 HJ1
      go_upto_region 4 with (first | (refine wpList_load_mid rfl 26 _ rfl g6 8 rfl _ _ (by have := quo8 (cel_range (blk_cel Y1.out.q6)) HM.out.1; rwa [Nat.zero_add] at this) Tryz.underlying26 rfl (by rw [List.length_map, hd]; exact size26) ?_) | (refine wpList_load_mid rfl 26 _ rfl g7 0 rfl _ _ (cel_range (blk_cel Y1.out.b7)) Tryz.underlying26 rfl (by rw [List.length_map, ho]; exact size26) ?_))
      have Y2 : Hid (ErrS w1.drew E ∧ Below W.heap.size W w1.drew) := hid ⟨Y1.out.es.on (Below.refl _ _).drew, Y1.out.bl.drew⟩
      clear Y1
      refine wp_region_held_drew (S := fun w => ErrS w E ∧ Below W.heap.size W w) (by kernel_rfl) Y2.out (fun hHeld => ?_)
      generalize World.drew _ = wz at *
      refine tk 0 ⟨some 26, .load 47 (.global 4), 47, "attest.go:39", #[{ on := 1, ground := .gcOnly Departure.lateStores }], none⟩ (.iface 245 (.pointer (some (E 2)))) ?_ (hy := Or.inl ⟨by rfl, by intro w hSw; have hc := hSw.1.k2; go_simp⟩)
      simp only [Act.put, List.setIfInBounds_toArray, List.set_cons_zero, List.set_cons_succ]
      refine wpAnyH_ready (rs := [1]) (by kernel_rfl) (by simp) (AllReadyH.cons (o := ⟨some 8, .assign (.const (.string { data := #[] })), 9, "attest.go:39", #[{ on := 0, ground := .textOnly Departure.lateStores }], none⟩) rfl (fun KQ hK => ?_) AllReadyH.nil)
      go_simp
      refine hK.out _ _ Y2.out (fun hHeld => ?_)
      clear hK KQ
      try simp only [Act.put, List.setIfInBounds_toArray, List.set_cons_zero, List.set_cons_succ]
      refine wpAnyH_ready (rs := [2]) (by kernel_rfl) (by simp) (AllReadyH.cons (o := ⟨some 9, .assign (.tmp 26), 47, "attest.go:39", #[⟨0, .data⟩, ⟨1, .chain⟩, ⟨0, .phase⟩, ⟨1, .phase⟩], none⟩) rfl (fun KQ hK => ?_) AllReadyH.nil)
      go_simp
      refine hK.out _ _ Y2.out (fun hHeld => ?_)
      clear hK KQ
      try simp only [Act.put, List.setIfInBounds_toArray, List.set_cons_zero, List.set_cons_succ]
      refine wpAnyH_done (by kernel_rfl) ?_ _
      go_wp2_with fail
      go_ret2
      exact ⟨by rw [HJ.out]; rfl, Y2.out.2⟩
    · rw [decide_eq_true e2] at hEN
      have HJ2 : Hid (∀ x, jcode T t d o x = if x = true then 0 else 3) := hid (fun x => by rw [jcode, if_pos HJ1.out, if_pos e2])
      clear e2 HJ1
      go_upto_region 5 with (first | (refine wpList_load_mid rfl 26 _ rfl g6 8 rfl _ _ (by have := quo8 (cel_range (blk_cel Y1.out.q6)) HM.out.1; rwa [Nat.zero_add] at this) Tryz.underlying26 rfl (by rw [List.length_map, hd]; exact size26) ?_) | (refine wpList_load_mid rfl 26 _ rfl g7 0 rfl _ _ (cel_range (blk_cel Y1.out.b7)) Tryz.underlying26 rfl (by rw [List.length_map, ho]; exact size26) ?_))
      go_upto_region 6 with (first | (refine wpList_load_mid rfl 24 _ rfl g5 0 rfl _ _ (cel_range Y1.out.p5) Tryz.underlying24 rfl size36 ?_) | (refine wpList_load_mid rfl 26 _ rfl g6 0 rfl _ _ (quo0 (cel_range (blk_cel Y1.out.q6))) Tryz.underlying26 rfl (by rw [List.length_map, hm]; exact size26) ?_) | (go_at_call 35; refine (HD.out _ Y1.out.ru).mono ?_; rintro e w2 ⟨rfl, hb⟩; have Y2 := hid (Y1.out.on hb); clear hb Y1))
      cases da
      · have HJ := hid (show jcode T t d o false = 3 from HJ2.out false)
        clear HJ2
        go_upto_region 7 with fail
        have Y3 : Hid (ErrS w2.drew E ∧ Below W.heap.size W w2.drew) := hid ⟨Y2.out.es.on (Below.refl _ _).drew, Y2.out.bl.drew⟩
        clear Y2
        refine wp_region_held_drew (S := fun w => ErrS w E ∧ Below W.heap.size W w) (by kernel_rfl) Y3.out (fun hHeld => ?_)
        generalize World.drew _ = wz at *
        refine tk 0 ⟨some 36, .load 47 (.global 5), 47, "attest.go:43", #[{ on := 1, ground := .gcOnly Departure.lateStores }], none⟩ (.iface 245 (.pointer (some (E 3)))) ?_ (hy := Or.inl ⟨by rfl, by intro w hSw; have hc := hSw.1.k3; go_simp⟩)
        simp only [Act.put, List.setIfInBounds_toArray, List.set_cons_zero, List.set_cons_succ]
        refine wpAnyH_ready (rs := [1]) (by kernel_rfl) (by simp) (AllReadyH.cons (o := ⟨some 8, .assign (.const (.string { data := #[] })), 9, "attest.go:43", #[{ on := 0, ground := .textOnly Departure.lateStores }], none⟩) rfl (fun KQ hK => ?_) AllReadyH.nil)
        go_simp
        refine hK.out _ _ Y3.out (fun hHeld => ?_)
        clear hK KQ
        try simp only [Act.put, List.setIfInBounds_toArray, List.set_cons_zero, List.set_cons_succ]
        refine wpAnyH_ready (rs := [2]) (by kernel_rfl) (by simp) (AllReadyH.cons (o := ⟨some 9, .assign (.tmp 36), 47, "attest.go:43", #[⟨0, .data⟩, ⟨1, .chain⟩, ⟨0, .phase⟩, ⟨1, .phase⟩], none⟩) rfl (fun KQ hK => ?_) AllReadyH.nil)
        go_simp
        refine hK.out _ _ Y3.out (fun hHeld => ?_)
        clear hK KQ
        try simp only [Act.put, List.setIfInBounds_toArray, List.set_cons_zero, List.set_cons_succ]
        refine wpAnyH_done (by kernel_rfl) ?_ _
        go_wp2_with fail
        go_ret2
        exact ⟨by rw [HJ.out]; rfl, Y3.out.2⟩
      · have HJ := hid (show jcode T t d o true = 0 from HJ2.out true)
        clear HJ2
        go_wp2_with fail
        go_ret2
        exact ⟨by rw [HJ.out]; rfl, Y2.out.bl⟩
end Go.Proofs.YtbpdmkohihgnjaaGreatDoor
