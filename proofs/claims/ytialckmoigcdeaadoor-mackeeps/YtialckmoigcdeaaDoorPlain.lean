/- The law's plain: the calls without a handle. -/
import Derived.Test.YtialckmoigcdeaaDoorRMac2
import Derived.Test.YtialckmoigcdeaaDoorRExp
import Derived.Test.YtialckmoigcdeaaDoorSameD
import Derived.Test.YtialckmoigcdeaaDoorOwn
namespace Go.Proofs.YtialckmoigcdeaaDoor
open Go.RowKit


/-- The cells of one call. -/
def opC (kd hh : Int) (ua : Option Addr) (un uc : Nat) (va : Option Addr) (vn vc : Nat) (aa : Option Addr) (an ac : Nat) (ba : Option Addr) (bn bc : Nat) (A8 B8 : List Int) (N : Int) : List Value :=
  [.int .i64 kd, .int .i64 hh, .slice ua un uc, .slice va vn vc, .slice aa an ac, .slice ba bn bc] ++ (A8.map (Value.int .u32) ++ (B8.map (Value.int .u32) ++ [.int .i64 N]))
/-- What is known of the lists of one call that came in. -/
structure OpIn (W : World) (ua : Option Addr) (un uc : Nat) (us : List Int) (va : Option Addr) (vn vc : Nat) (vs : List Int) (aa : Option Addr) (an ac : Nat) (as' : List Int) (ba : Option Addr) (bn bc : Nat) (bs : List Int) (A8 B8 : List Int) : Prop where
  hul : us.length = un
  wu : Wds us
  hua : At W .u32 ua us
  hus : Sl ua uc
  hun : un ≤ 1048576
  hvl : vs.length = vn
  wv : Wds vs
  hva : At W .u32 va vs
  hvs : Sl va vc
  hvn : vn ≤ 1048576
  hal : as'.length = an
  pa : Bts as'
  haa : At W .u8 aa as'
  has : Sl aa ac
  hac : an ≤ ac
  han : an ≤ 1048576
  hbl : bs.length = bn
  pb : Bts bs
  hba : At W .u8 ba bs
  hbs : Sl ba bc
  hbn : bn ≤ 1048576
  hA8 : A8.length = 8
  wA8 : Wds A8
  hB8 : B8.length = 8
  wB8 : Wds B8
theorem opC_at {kd hh : Int} {ua : Option Addr} {un uc : Nat} {va : Option Addr} {vn vc : Nat} {aa : Option Addr} {an ac : Nat} {ba : Option Addr} {bn bc : Nat} {A8 B8 : List Int} {N : Int} (hA : A8.length = 8) (hB : B8.length = 8) :
    (opC kd hh ua un uc va vn vc aa an ac ba bn bc A8 B8 N)[0]? = some (.int .i64 kd) ∧ (opC kd hh ua un uc va vn vc aa an ac ba bn bc A8 B8 N)[2]? = some (.slice ua un uc) ∧ (opC kd hh ua un uc va vn vc aa an ac ba bn bc A8 B8 N)[3]? = some (.slice va vn vc) ∧ (opC kd hh ua un uc va vn vc aa an ac ba bn bc A8 B8 N)[4]? = some (.slice aa an ac) ∧ (opC kd hh ua un uc va vn vc aa an ac ba bn bc A8 B8 N)[5]? = some (.slice ba bn bc) ∧ (opC kd hh ua un uc va vn vc aa an ac ba bn bc A8 B8 N)[22]? = some (.int .i64 N) := by
  refine ⟨rfl, rfl, rfl, rfl, rfl, ?_⟩
  unfold opC
  rw [List.getElem?_append_right (by simp), List.getElem?_append_right (by simp [hA]), List.getElem?_append_right (by simp [hA, hB])]
  simp [hA, hB]
theorem opC_rows {kd hh : Int} {ua : Option Addr} {un uc : Nat} {va : Option Addr} {vn vc : Nat} {aa : Option Addr} {an ac : Nat} {ba : Option Addr} {bn bc : Nat} {A8 B8 : List Int} {N : Int} {w : World} {g : Nat} (hA : A8.length = 8) (hB : B8.length = 8)
    (h : Cel w g 58 (opC kd hh ua un uc va vn vc aa an ac ba bn bc A8 B8 N)) : w.rangeAt g 6 (A8.map (Value.int .u32)) ∧ w.rangeAt g 14 (B8.map (Value.int .u32)) := by
  constructor
  · intro j v hv
    have hj : j < 8 := by
      have := (List.getElem?_eq_some_iff.1 hv).1
      simpa [hA] using this
    rw [h.cell]
    unfold opC
    rw [List.getElem?_append_right (by simp), List.getElem?_append_left (by simp [hA]; omega)]
    rw [show 6 + j - List.length [Value.int .i64 kd, .int .i64 hh, .slice ua un uc, .slice va vn vc, .slice aa an ac, .slice ba bn bc] = j by simp]
    exact hv
  · intro j v hv
    have hj : j < 8 := by
      have := (List.getElem?_eq_some_iff.1 hv).1
      simpa [hB] using this
    rw [h.cell]
    unfold opC
    rw [List.getElem?_append_right (by simp; omega), List.getElem?_append_right (by simp [hA]; omega), List.getElem?_append_left (by simp [hA, hB]; omega)]
    rw [show 14 + j - List.length [Value.int .i64 kd, .int .i64 hh, .slice ua un uc, .slice va vn vc, .slice aa an ac, .slice ba bn bc] - (A8.map (Value.int .u32)).length = j by simp [hA]; omega]
    exact hv
attribute [-simp] Tryd.isAgg26 Tryd.sizeOf26 Tryd.zeroValue26
set_option maxRecDepth 20000 in
set_option maxHeartbeats 1000000 in
theorem plain_1 (W : World) (hT : Tabs W) (hR : TabR W) (hh : Int) (ua : Option Addr) (un uc : Nat) (us : List Int) (va : Option Addr) (vn vc : Nat) (vs : List Int) (aa : Option Addr) (an ac : Nat) (as' : List Int) (ba : Option Addr) (bn bc : Nat) (bs : List Int) (A8 B8 : List Int) (N : Int)
    (h : OpIn W ua un uc us va vn vc vs aa an ac as' ba bn bc bs A8 B8) :
    Calls Tryd.prog 25 #[.agg (opC 1 hh ua un uc va vn vc aa an ac ba bn bc A8 B8 N).toArray] W fun e W' => e = .returned (.bool true) ∧ Below W.heap.size W W' := by
  obtain ⟨hul, wu, hua, hus, hun, hvl, wv, hva, hvs, hvn, hal, pa, haa, has, hac, han, hbl, pb, hba, hbs, hbn, hA8, wA8, hB8, wB8⟩ := h
  obtain ⟨V, hV⟩ : ∃ V : List Int, V = List.replicate 8 0 := ⟨_, rfl⟩
  have hVl : V.length = 8 := by rw [hV]; simp
  have hv : ∀ w, (zeroValue 26).run Tryd.prog w = .ok (.agg (V.map (Value.int .u32)).toArray) w := fun w => by rw [Tryd.zeroValue26, hV]; rfl
  clear hV
  obtain ⟨cs, hcs⟩ : ∃ cs, cs = opC 1 hh ua un uc va vn vc aa an ac ba bn bc A8 B8 N := ⟨_, rfl⟩
  rw [← hcs]
  obtain ⟨X, hX⟩ : ∃ X, X = W.alloc (Obj.cells cs.toArray 58) := ⟨_, rfl⟩
  have CX : Hid (Cel X W.heap.size 58 cs) := by rw [hX]; exact heap_alloc_new _ _
  have bX : Below W.heap.size W X := by rw [hX]; exact below_one _ _
  have zX := CX.out.lt
  have h2 := hT.sz
  have TX : Hid (Tabs X) := hT.on bX
  have RX : Hid (TabR X) := hR.on h2 bX
  have x2 : 2 < X.heap.size := by omega
  have HC : Hid (cs[0]? = some (.int .i64 1) ∧ cs[2]? = some (.slice ua un uc) ∧ cs[3]? = some (.slice va vn vc) ∧ cs[4]? = some (.slice aa an ac) ∧ cs[5]? = some (.slice ba bn bc) ∧ cs[22]? = some (.int .i64 N)) := by rw [hcs]; exact opC_at hA8 hB8
  have HX8 : Hid (∀ w, Cel w W.heap.size 58 cs → w.rangeAt W.heap.size 6 (A8.map (Value.int .u32)) ∧ w.rangeAt W.heap.size 14 (B8.map (Value.int .u32))) := fun w h => by rw [hcs] at h; exact opC_rows hA8 hB8 h
  have AU : Hid (At X .u32 ua us) := hua.below bX
  have AV : Hid (At X .u32 va vs) := hva.below bX
  have AA : Hid (At X .u8 aa as') := haa.below bX
  have AB : Hid (At X .u8 ba bs) := hba.below bX
  have SU : Hid (Sl ua uc) := hus
  have SV : Hid (Sl va vc) := hvs
  have SA : Hid (Sl aa ac) := has
  have SB : Hid (Sl ba bc) := hbs
  have BX : Hid (Below W.heap.size W X) := bX
  clear hcs hua hva haa hba hus hvs has hbs bX hT hR
  have d0 : X.cell? ⟨W.heap.size, 0, none⟩ = some (.int .i64 1) := by rw [CX.out.cell]; exact HC.out.1
  have d2 : X.cell? ⟨W.heap.size, 2, none⟩ = some (.slice ua un uc) := by rw [CX.out.cell]; exact HC.out.2.1
  have d3 : X.cell? ⟨W.heap.size, 3, none⟩ = some (.slice va vn vc) := by rw [CX.out.cell]; exact HC.out.2.2.1
  have d4 : X.cell? ⟨W.heap.size, 4, none⟩ = some (.slice aa an ac) := by rw [CX.out.cell]; exact HC.out.2.2.2.1
  have d5 : X.cell? ⟨W.heap.size, 5, none⟩ = some (.slice ba bn bc) := by rw [CX.out.cell]; exact HC.out.2.2.2.2.1
  have d22 : X.cell? ⟨W.heap.size, 22, none⟩ = some (.int .i64 N) := by rw [CX.out.cell]; exact HC.out.2.2.2.2.2
  rw [hX] at d0 d2 d3 d4 d5 d22
  obtain ⟨H, hH⟩ : ∃ H, hmac (bytesD us) (bytesD vs) = H := ⟨_, rfl⟩
  have HH : Hid (hmac (bytesD us) (bytesD vs) = H) := hH
  have hHl : H.length = 8 := by rw [← hH]; exact hmac_length _ _
  have hsH : (Tryd.prog.info? 26).map (·.size) = some H.length := by rw [hHl]; exact size26
  have e1 := eq26 H H hHl hHl
  rw [decide_eq_true rfl] at e1
  clear hH
  go_enter Tryd.func25, Tryd.ntmps25
  go_wp2_with fail
  rw [← hX]
  clear hX
  refine (rtag_any X RX.out x2 ua un uc us hul wu AU.out (by omega) va vn vc vs hvl wv AV.out (by omega)).mono ?_
  rintro e w1 ⟨rfl, hb⟩
  rw [HH.out]
  have B1 : Hid (Below X.heap.size X w1) := hb
  clear hb d0 d2 d3 d4 d5 d22
  go_wp2_with (first | (refine wpList_store_but rfl 26 _ _ rfl w1.heap.size H rfl rfl (Blk.new w1 .u32 26 V) hsH (hVl.trans hHl.symm) ?_; intro w2 b2 hw2 hs2))
  have B2 : Hid (Below X.heap.size X w2) := (B1.out.trans ((below_one w1 _).mono B1.out.size)).trans (hw2.below B1.out.size (by simp; have := B1.out.size; omega))
  have OW : Hid (Blk w2 w1.heap.size .u32 26 H) := b2
  clear hw2 hs2 b2
  generalize w1.heap.size = gw at *
  have FX : Hid (∀ w, Below w2.heap.size w2 w → Below X.heap.size X w) := fun w h => B2.out.trans (h.mono B2.out.size)
  have HL : Hid (∀ x x', Below w2.heap.size w2 x → Below x.heap.size x x' → Below w2.heap.size w2 x') := fun x x' h h' => h.trans (h'.mono h.size)
  have RW : Hid (∀ w, Below w2.heap.size w2 w → w.rangeAt gw 0 (H.map (Value.int .u32))) := fun w h => (OW.out.on h).row.range
  have CQ2 : Hid (∀ w, Below w2.heap.size w2 w → w.cell? ⟨W.heap.size, 2, none⟩ = some (.slice ua un uc)) := fun w h => by rw [(CX.out.on (FX.out w h)).cell]; exact HC.out.2.1
  have CQ3 : Hid (∀ w, Below w2.heap.size w2 w → w.cell? ⟨W.heap.size, 3, none⟩ = some (.slice va vn vc)) := fun w h => by rw [(CX.out.on (FX.out w h)).cell]; exact HC.out.2.2.1
  go_wp2_with fail
  refine wp_region_held_drew (S := fun w => Below w2.heap.size w2 w) (by kernel_rfl) (Below.refl _ _).drew (fun hHeld => ?_)
  refine wpAnyH_take (i := 0) (oi := { dst := some 23, op := Op.fieldAddr 58 (Operand.tmp 1) 2, type := 0, pos := "law.go:56", after := #[], guard := none }) (v := .pointer (some ⟨W.heap.size, 2, none⟩)) rfl (by kernel_rfl) (by kernel_rfl) (by kernel_rfl) (fun _ _ _ h => h) (Or.inl ⟨by rfl, by intro w hSw; go_simp⟩) (by assumption) ?_
  simp only [Act.put, List.setIfInBounds_toArray, List.set_cons_zero, List.set_cons_succ]
  refine wpAnyH_take (i := 1) (oi := { dst := some 24, op := Op.load 35 (Operand.tmp 23), type := 35, pos := "law.go:56", after := #[{ on := 0, ground := Ground.data }], guard := none }) (v := .slice ua un uc) rfl (by kernel_rfl) (by kernel_rfl) (by kernel_rfl) (fun _ _ _ h => h) (Or.inl ⟨by rfl, by intro w hSw; have hcc := CQ2.out w hSw; go_simp⟩) (by assumption) ?_
  simp only [Act.put, List.setIfInBounds_toArray, List.set_cons_zero, List.set_cons_succ]
  refine wpAnyH_take (i := 3) (oi := { dst := some 26, op := Op.fieldAddr 58 (Operand.tmp 1) 3, type := 0, pos := "law.go:56", after := #[], guard := none }) (v := .pointer (some ⟨W.heap.size, 3, none⟩)) rfl (by kernel_rfl) (by kernel_rfl) (by kernel_rfl) (fun _ _ _ h => h) (Or.inl ⟨by rfl, by intro w hSw; go_simp⟩) (by assumption) ?_
  simp only [Act.put, List.setIfInBounds_toArray, List.set_cons_zero, List.set_cons_succ]
  refine wpAnyH_take (i := 4) (oi := { dst := some 27, op := Op.load 35 (Operand.tmp 26), type := 35, pos := "law.go:56", after := #[{ on := 3, ground := Ground.data }], guard := none }) (v := .slice va vn vc) rfl (by kernel_rfl) (by kernel_rfl) (by kernel_rfl) (fun _ _ _ h => h) (Or.inl ⟨by rfl, by intro w hSw; have hcc := CQ3.out w hSw; go_simp⟩) (by assumption) ?_
  simp only [Act.put, List.setIfInBounds_toArray, List.set_cons_zero, List.set_cons_succ]
  refine wpAnyH_take (i := 7) (oi := { dst := some 30, op := Op.load 26 (Operand.tmp 3), type := 26, pos := "law.go:56", after := #[], guard := none }) (v := .agg (H.map (Value.int .u32)).toArray) rfl (by kernel_rfl) (by kernel_rfl) (by kernel_rfl) (fun _ _ _ h => h) (yieldsIf_load_mid (by rfl) _ _ rfl _ _ rfl _ _ (fun w hSw => RW.out w hSw) Tryd.underlying26 rfl (by rw [List.length_map]; exact hsH)) (by assumption) ?_
  simp only [Act.put, List.setIfInBounds_toArray, List.set_cons_zero, List.set_cons_succ]
  refine wpAnyH_ready (rs := [2]) (by kernel_rfl) (by simp) (AllReadyH.cons (o := { dst := some 25, op := Op.call { callee := Callee.value (Operand.func 15), args := #[Operand.tmp 24], argTypes := #[35] }, type := 35, pos := "law.go:56", after := #[{ on := 1, ground := Ground.data }], guard := none }) rfl (fun KQ hK => ?_) AllReadyH.nil)
  go_simp
  refine (words_own _ ua un uc us hul (AU.out.below (FX.out _ (Below.refl _ _).drew)) SU.out (by omega)).mono ?_
  rintro e w3 ⟨v3, c3, rfl, h3, a3, s3, hb3⟩
  have B3 : Below w2.heap.size w2 w3 := HL.out _ _ (Below.refl _ _).drew hb3
  go_wp2_with fail
  refine hK.out _ _ B3 (fun hHeld => ?_)
  clear hK KQ
  try simp only [Act.put, List.setIfInBounds_toArray, List.set_cons_zero, List.set_cons_succ]
  refine wpAnyH_ready (rs := [5]) (by kernel_rfl) (by simp) (AllReadyH.cons (o := { dst := some 28, op := Op.call { callee := Callee.value (Operand.func 15), args := #[Operand.tmp 27], argTypes := #[35] }, type := 35, pos := "law.go:56", after := #[{ on := 4, ground := Ground.data }, { on := 2, ground := Ground.chain }], guard := none }) rfl (fun KQ hK => ?_) AllReadyH.nil)
  go_simp
  refine (words_own _ va vn vc vs hvl (AV.out.below (FX.out _ B3)) SV.out (by omega)).mono ?_
  rintro e w4 ⟨v4, c4, rfl, h4, a4, s4, hb4⟩
  have B4 : Below w2.heap.size w2 w4 := HL.out _ _ B3 hb4
  go_wp2_with fail
  refine hK.out _ _ B4 (fun hHeld => ?_)
  clear hK KQ
  try simp only [Act.put, List.setIfInBounds_toArray, List.set_cons_zero, List.set_cons_succ]
  refine wpAnyH_ready (rs := [6]) (by kernel_rfl) (by simp) (AllReadyH.cons (o := { dst := some 29, op := Op.call { callee := Callee.value (Operand.func 14), args := #[Operand.tmp 25, Operand.tmp 28], argTypes := #[35, 35] }, type := 26, pos := "law.go:56", after := #[{ on := 2, ground := Ground.data }, { on := 5, ground := Ground.data }, { on := 5, ground := Ground.chain }], guard := none }) rfl (fun KQ hK => ?_) AllReadyH.nil)
  go_simp
  refine (macTag_any _ (TX.out.on (FX.out _ B4)) v3 un c3 us hul wu (a3.below hb4) (by omega) v4 vn c4 vs hvl wv a4 (by omega)).mono ?_
  rintro e w5 ⟨rfl, hb5⟩
  rw [HH.out]
  have B5 : Below w2.heap.size w2 w5 := HL.out _ _ B4 hb5
  go_wp2_with fail
  refine hK.out _ _ B5 (fun hHeld => ?_)
  clear hK KQ
  try simp only [Act.put, List.setIfInBounds_toArray, List.set_cons_zero, List.set_cons_succ]
  refine wpAnyH_take (i := 8) (oi := { dst := some 31, op := Op.binOp BinOp.eql 26 (Operand.tmp 29) (Operand.tmp 30) 26, type := 4, pos := "law.go:56", after := #[{ on := 6, ground := Ground.data }, { on := 7, ground := Ground.data }], guard := none }) (v := .bool true) rfl (by kernel_rfl) (by kernel_rfl) (by kernel_rfl) (fun _ _ _ h => h) (Or.inl ⟨by rfl, by intro w hSw; simp only [Ag]; go_simp⟩) (by assumption) ?_
  simp only [Act.put, List.setIfInBounds_toArray, List.set_cons_zero, List.set_cons_succ]
  refine wpAnyH_ready (rs := [9]) (by kernel_rfl) (by simp) (AllReadyH.cons (o := { dst := some 2, op := Op.assign (Operand.tmp 31), type := 4, pos := "law.go:56", after := #[{ on := 8, ground := Ground.data }, { on := 6, ground := Ground.chain }, { on := 0, ground := Ground.phase }, { on := 1, ground := Ground.phase }, { on := 2, ground := Ground.phase }, { on := 3, ground := Ground.phase }, { on := 4, ground := Ground.phase }, { on := 5, ground := Ground.phase }, { on := 6, ground := Ground.phase }, { on := 7, ground := Ground.phase }, { on := 8, ground := Ground.phase }], guard := none }) rfl (fun KQ hK => ?_) AllReadyH.nil)
  go_simp
  refine hK.out _ _ B5 (fun hHeld => ?_)
  clear hK KQ
  try simp only [Act.put, List.setIfInBounds_toArray, List.set_cons_zero, List.set_cons_succ]
  refine wpAnyH_done (by kernel_rfl) ?_ _
  have HE : Hid (Below W.heap.size W w5) := BX.out.trans ((FX.out _ B5).mono (by omega))
  clear hHeld B3 B4 B5 hb3 hb4 hb5 a3 a4 s3 s4 h3 h4
  go_wp2_with fail
  go_ret
  exact ⟨rfl, HE.out⟩
set_option maxRecDepth 20000 in
set_option maxHeartbeats 1000000 in
theorem plain_2 (W : World) (hT : Tabs W) (hR : TabR W) (hh : Int) (ua : Option Addr) (un uc : Nat) (us : List Int) (va : Option Addr) (vn vc : Nat) (vs : List Int) (aa : Option Addr) (an ac : Nat) (as' : List Int) (ba : Option Addr) (bn bc : Nat) (bs : List Int) (A8 B8 : List Int) (N : Int)
    (h : OpIn W ua un uc us va vn vc vs aa an ac as' ba bn bc bs A8 B8) :
    Calls Tryd.prog 25 #[.agg (opC 2 hh ua un uc va vn vc aa an ac ba bn bc A8 B8 N).toArray] W fun e W' => e = .returned (.bool true) ∧ Below W.heap.size W W' := by
  obtain ⟨hul, wu, hua, hus, hun, hvl, wv, hva, hvs, hvn, hal, pa, haa, has, hac, han, hbl, pb, hba, hbs, hbn, hA8, wA8, hB8, wB8⟩ := h
  obtain ⟨V, hV⟩ : ∃ V : List Int, V = List.replicate 8 0 := ⟨_, rfl⟩
  have hVl : V.length = 8 := by rw [hV]; simp
  have hv : ∀ w, (zeroValue 26).run Tryd.prog w = .ok (.agg (V.map (Value.int .u32)).toArray) w := fun w => by rw [Tryd.zeroValue26, hV]; rfl
  clear hV
  obtain ⟨cs, hcs⟩ : ∃ cs, cs = opC 2 hh ua un uc va vn vc aa an ac ba bn bc A8 B8 N := ⟨_, rfl⟩
  rw [← hcs]
  obtain ⟨X, hX⟩ : ∃ X, X = W.alloc (Obj.cells cs.toArray 58) := ⟨_, rfl⟩
  have CX : Hid (Cel X W.heap.size 58 cs) := by rw [hX]; exact heap_alloc_new _ _
  have bX : Below W.heap.size W X := by rw [hX]; exact below_one _ _
  have zX := CX.out.lt
  have h2 := hT.sz
  have TX : Hid (Tabs X) := hT.on bX
  have RX : Hid (TabR X) := hR.on h2 bX
  have x2 : 2 < X.heap.size := by omega
  have HC : Hid (cs[0]? = some (.int .i64 2) ∧ cs[2]? = some (.slice ua un uc) ∧ cs[3]? = some (.slice va vn vc) ∧ cs[4]? = some (.slice aa an ac) ∧ cs[5]? = some (.slice ba bn bc) ∧ cs[22]? = some (.int .i64 N)) := by rw [hcs]; exact opC_at hA8 hB8
  have HX8 : Hid (∀ w, Cel w W.heap.size 58 cs → w.rangeAt W.heap.size 6 (A8.map (Value.int .u32)) ∧ w.rangeAt W.heap.size 14 (B8.map (Value.int .u32))) := fun w h => by rw [hcs] at h; exact opC_rows hA8 hB8 h
  have AU : Hid (At X .u32 ua us) := hua.below bX
  have AV : Hid (At X .u32 va vs) := hva.below bX
  have AA : Hid (At X .u8 aa as') := haa.below bX
  have AB : Hid (At X .u8 ba bs) := hba.below bX
  have SU : Hid (Sl ua uc) := hus
  have SV : Hid (Sl va vc) := hvs
  have SA : Hid (Sl aa ac) := has
  have SB : Hid (Sl ba bc) := hbs
  have BX : Hid (Below W.heap.size W X) := bX
  clear hcs hua hva haa hba hus hvs has hbs bX hT hR
  have d0 : X.cell? ⟨W.heap.size, 0, none⟩ = some (.int .i64 2) := by rw [CX.out.cell]; exact HC.out.1
  have d2 : X.cell? ⟨W.heap.size, 2, none⟩ = some (.slice ua un uc) := by rw [CX.out.cell]; exact HC.out.2.1
  have d3 : X.cell? ⟨W.heap.size, 3, none⟩ = some (.slice va vn vc) := by rw [CX.out.cell]; exact HC.out.2.2.1
  have d4 : X.cell? ⟨W.heap.size, 4, none⟩ = some (.slice aa an ac) := by rw [CX.out.cell]; exact HC.out.2.2.2.1
  have d5 : X.cell? ⟨W.heap.size, 5, none⟩ = some (.slice ba bn bc) := by rw [CX.out.cell]; exact HC.out.2.2.2.2.1
  have d22 : X.cell? ⟨W.heap.size, 22, none⟩ = some (.int .i64 N) := by rw [CX.out.cell]; exact HC.out.2.2.2.2.2
  rw [hX] at d0 d2 d3 d4 d5 d22
  obtain ⟨H, hH⟩ : ∃ H, hmac as' bs = H := ⟨_, rfl⟩
  have HH : Hid (hmac as' bs = H) := hH
  have hHl : H.length = 8 := by rw [← hH]; exact hmac_length _ _
  have hsH : (Tryd.prog.info? 26).map (·.size) = some H.length := by rw [hHl]; exact size26
  have e1 := eq26 H H hHl hHl
  rw [decide_eq_true rfl] at e1
  clear hH
  go_enter Tryd.func25, Tryd.ntmps25
  go_wp2_with fail
  rw [← hX]
  clear hX
  refine (rtagBytes_any X RX.out x2 aa an ac as' hal pa AA.out hac (by omega) ba bn bc bs hbl pb AB.out SB.out (by omega)).mono ?_
  rintro e w1 ⟨rfl, hb⟩
  rw [HH.out]
  have B1 : Hid (Below X.heap.size X w1) := hb
  clear hb d0 d2 d3 d4 d5 d22
  go_wp2_with (first | (refine wpList_store_but rfl 26 _ _ rfl w1.heap.size H rfl rfl (Blk.new w1 .u32 26 V) hsH (hVl.trans hHl.symm) ?_; intro w2 b2 hw2 hs2))
  have B2 : Hid (Below X.heap.size X w2) := (B1.out.trans ((below_one w1 _).mono B1.out.size)).trans (hw2.below B1.out.size (by simp; have := B1.out.size; omega))
  have OW : Hid (Blk w2 w1.heap.size .u32 26 H) := b2
  clear hw2 hs2 b2
  generalize w1.heap.size = gw at *
  have FX : Hid (∀ w, Below w2.heap.size w2 w → Below X.heap.size X w) := fun w h => B2.out.trans (h.mono B2.out.size)
  have HL : Hid (∀ x x', Below w2.heap.size w2 x → Below x.heap.size x x' → Below w2.heap.size w2 x') := fun x x' h h' => h.trans (h'.mono h.size)
  have RW : Hid (∀ w, Below w2.heap.size w2 w → w.rangeAt gw 0 (H.map (Value.int .u32))) := fun w h => (OW.out.on h).row.range
  have CQ4 : Hid (∀ w, Below w2.heap.size w2 w → w.cell? ⟨W.heap.size, 4, none⟩ = some (.slice aa an ac)) := fun w h => by rw [(CX.out.on (FX.out w h)).cell]; exact HC.out.2.2.2.1
  have CQ5 : Hid (∀ w, Below w2.heap.size w2 w → w.cell? ⟨W.heap.size, 5, none⟩ = some (.slice ba bn bc)) := fun w h => by rw [(CX.out.on (FX.out w h)).cell]; exact HC.out.2.2.2.2.1
  go_wp2_with fail
  refine wp_region_held_drew (S := fun w => Below w2.heap.size w2 w) (by kernel_rfl) (Below.refl _ _).drew (fun hHeld => ?_)
  refine wpAnyH_take (i := 0) (oi := { dst := some 39, op := Op.fieldAddr 58 (Operand.tmp 1) 4, type := 0, pos := "law.go:59", after := #[], guard := none }) (v := .pointer (some ⟨W.heap.size, 4, none⟩)) rfl (by kernel_rfl) (by kernel_rfl) (by kernel_rfl) (fun _ _ _ h => h) (Or.inl ⟨by rfl, by intro w hSw; go_simp⟩) (by assumption) ?_
  simp only [Act.put, List.setIfInBounds_toArray, List.set_cons_zero, List.set_cons_succ]
  refine wpAnyH_take (i := 1) (oi := { dst := some 40, op := Op.load 22 (Operand.tmp 39), type := 22, pos := "law.go:59", after := #[{ on := 0, ground := Ground.data }], guard := none }) (v := .slice aa an ac) rfl (by kernel_rfl) (by kernel_rfl) (by kernel_rfl) (fun _ _ _ h => h) (Or.inl ⟨by rfl, by intro w hSw; have hcc := CQ4.out w hSw; go_simp⟩) (by assumption) ?_
  simp only [Act.put, List.setIfInBounds_toArray, List.set_cons_zero, List.set_cons_succ]
  refine wpAnyH_take (i := 3) (oi := { dst := some 42, op := Op.fieldAddr 58 (Operand.tmp 1) 5, type := 0, pos := "law.go:59", after := #[], guard := none }) (v := .pointer (some ⟨W.heap.size, 5, none⟩)) rfl (by kernel_rfl) (by kernel_rfl) (by kernel_rfl) (fun _ _ _ h => h) (Or.inl ⟨by rfl, by intro w hSw; go_simp⟩) (by assumption) ?_
  simp only [Act.put, List.setIfInBounds_toArray, List.set_cons_zero, List.set_cons_succ]
  refine wpAnyH_take (i := 4) (oi := { dst := some 43, op := Op.load 22 (Operand.tmp 42), type := 22, pos := "law.go:59", after := #[{ on := 3, ground := Ground.data }], guard := none }) (v := .slice ba bn bc) rfl (by kernel_rfl) (by kernel_rfl) (by kernel_rfl) (fun _ _ _ h => h) (Or.inl ⟨by rfl, by intro w hSw; have hcc := CQ5.out w hSw; go_simp⟩) (by assumption) ?_
  simp only [Act.put, List.setIfInBounds_toArray, List.set_cons_zero, List.set_cons_succ]
  refine wpAnyH_take (i := 7) (oi := { dst := some 46, op := Op.load 26 (Operand.tmp 4), type := 26, pos := "law.go:59", after := #[], guard := none }) (v := .agg (H.map (Value.int .u32)).toArray) rfl (by kernel_rfl) (by kernel_rfl) (by kernel_rfl) (fun _ _ _ h => h) (yieldsIf_load_mid (by rfl) _ _ rfl _ _ rfl _ _ (fun w hSw => RW.out w hSw) Tryd.underlying26 rfl (by rw [List.length_map]; exact hsH)) (by assumption) ?_
  simp only [Act.put, List.setIfInBounds_toArray, List.set_cons_zero, List.set_cons_succ]
  refine wpAnyH_ready (rs := [2]) (by kernel_rfl) (by simp) (AllReadyH.cons (o := { dst := some 41, op := Op.call { callee := Callee.value (Operand.func 8), args := #[Operand.tmp 40], argTypes := #[22] }, type := 22, pos := "law.go:59", after := #[{ on := 1, ground := Ground.data }], guard := none }) rfl (fun KQ hK => ?_) AllReadyH.nil)
  go_simp
  refine (bytes_own _ aa an ac as' hal (AA.out.below (FX.out _ (Below.refl _ _).drew)) SA.out (by omega)).mono ?_
  rintro e w3 ⟨v3, c3, rfl, h3, a3, s3, hb3⟩
  have B3 : Below w2.heap.size w2 w3 := HL.out _ _ (Below.refl _ _).drew hb3
  go_wp2_with fail
  refine hK.out _ _ B3 (fun hHeld => ?_)
  clear hK KQ
  try simp only [Act.put, List.setIfInBounds_toArray, List.set_cons_zero, List.set_cons_succ]
  refine wpAnyH_ready (rs := [5]) (by kernel_rfl) (by simp) (AllReadyH.cons (o := { dst := some 44, op := Op.call { callee := Callee.value (Operand.func 8), args := #[Operand.tmp 43], argTypes := #[22] }, type := 22, pos := "law.go:59", after := #[{ on := 4, ground := Ground.data }, { on := 2, ground := Ground.chain }], guard := none }) rfl (fun KQ hK => ?_) AllReadyH.nil)
  go_simp
  refine (bytes_own _ ba bn bc bs hbl (AB.out.below (FX.out _ B3)) SB.out (by omega)).mono ?_
  rintro e w4 ⟨v4, c4, rfl, h4, a4, s4, hb4⟩
  have B4 : Below w2.heap.size w2 w4 := HL.out _ _ B3 hb4
  go_wp2_with fail
  refine hK.out _ _ B4 (fun hHeld => ?_)
  clear hK KQ
  try simp only [Act.put, List.setIfInBounds_toArray, List.set_cons_zero, List.set_cons_succ]
  refine wpAnyH_ready (rs := [6]) (by kernel_rfl) (by simp) (AllReadyH.cons (o := { dst := some 45, op := Op.call { callee := Callee.value (Operand.func 16), args := #[Operand.tmp 41, Operand.tmp 44], argTypes := #[22, 22] }, type := 26, pos := "law.go:59", after := #[{ on := 2, ground := Ground.data }, { on := 5, ground := Ground.data }, { on := 5, ground := Ground.chain }], guard := none }) rfl (fun KQ hK => ?_) AllReadyH.nil)
  go_simp
  refine (tagBytes_any _ (TX.out.on (FX.out _ B4)) v3 an c3 as' hal pa (a3.below hb4) h3 (by omega) v4 bn c4 bs hbl pb a4 s4 (by omega)).mono ?_
  rintro e w5 ⟨rfl, hb5⟩
  rw [HH.out]
  have B5 : Below w2.heap.size w2 w5 := HL.out _ _ B4 hb5
  go_wp2_with fail
  refine hK.out _ _ B5 (fun hHeld => ?_)
  clear hK KQ
  try simp only [Act.put, List.setIfInBounds_toArray, List.set_cons_zero, List.set_cons_succ]
  refine wpAnyH_take (i := 8) (oi := { dst := some 47, op := Op.binOp BinOp.eql 26 (Operand.tmp 45) (Operand.tmp 46) 26, type := 4, pos := "law.go:59", after := #[{ on := 6, ground := Ground.data }, { on := 7, ground := Ground.data }], guard := none }) (v := .bool true) rfl (by kernel_rfl) (by kernel_rfl) (by kernel_rfl) (fun _ _ _ h => h) (Or.inl ⟨by rfl, by intro w hSw; simp only [Ag]; go_simp⟩) (by assumption) ?_
  simp only [Act.put, List.setIfInBounds_toArray, List.set_cons_zero, List.set_cons_succ]
  refine wpAnyH_ready (rs := [9]) (by kernel_rfl) (by simp) (AllReadyH.cons (o := { dst := some 2, op := Op.assign (Operand.tmp 47), type := 4, pos := "law.go:59", after := #[{ on := 8, ground := Ground.data }, { on := 6, ground := Ground.chain }, { on := 0, ground := Ground.phase }, { on := 1, ground := Ground.phase }, { on := 2, ground := Ground.phase }, { on := 3, ground := Ground.phase }, { on := 4, ground := Ground.phase }, { on := 5, ground := Ground.phase }, { on := 6, ground := Ground.phase }, { on := 7, ground := Ground.phase }, { on := 8, ground := Ground.phase }], guard := none }) rfl (fun KQ hK => ?_) AllReadyH.nil)
  go_simp
  refine hK.out _ _ B5 (fun hHeld => ?_)
  clear hK KQ
  try simp only [Act.put, List.setIfInBounds_toArray, List.set_cons_zero, List.set_cons_succ]
  refine wpAnyH_done (by kernel_rfl) ?_ _
  have HE : Hid (Below W.heap.size W w5) := BX.out.trans ((FX.out _ B5).mono (by omega))
  clear hHeld B3 B4 B5 hb3 hb4 hb5 a3 a4 s3 s4 h3 h4
  go_wp2_with fail
  go_ret
  exact ⟨rfl, HE.out⟩
set_option maxRecDepth 20000 in
set_option maxHeartbeats 1000000 in
theorem plain_7 (W : World) (hT : Tabs W) (hR : TabR W) (hh : Int) (ua : Option Addr) (un uc : Nat) (us : List Int) (va : Option Addr) (vn vc : Nat) (vs : List Int) (aa : Option Addr) (an ac : Nat) (as' : List Int) (ba : Option Addr) (bn bc : Nat) (bs : List Int) (A8 B8 : List Int) (N : Int)
    (h : OpIn W ua un uc us va vn vc vs aa an ac as' ba bn bc bs A8 B8) :
    Calls Tryd.prog 25 #[.agg (opC 7 hh ua un uc va vn vc aa an ac ba bn bc A8 B8 N).toArray] W fun e W' => e = .returned (.bool true) ∧ Below W.heap.size W W' := by
  obtain ⟨hul, wu, hua, hus, hun, hvl, wv, hva, hvs, hvn, hal, pa, haa, has, hac, han, hbl, pb, hba, hbs, hbn, hA8, wA8, hB8, wB8⟩ := h
  obtain ⟨V, hV⟩ : ∃ V : List Int, V = List.replicate 8 0 := ⟨_, rfl⟩
  have hVl : V.length = 8 := by rw [hV]; simp
  have hv : ∀ w, (zeroValue 26).run Tryd.prog w = .ok (.agg (V.map (Value.int .u32)).toArray) w := fun w => by rw [Tryd.zeroValue26, hV]; rfl
  clear hV
  obtain ⟨cs, hcs⟩ : ∃ cs, cs = opC 7 hh ua un uc va vn vc aa an ac ba bn bc A8 B8 N := ⟨_, rfl⟩
  rw [← hcs]
  obtain ⟨X, hX⟩ : ∃ X, X = W.alloc (Obj.cells cs.toArray 58) := ⟨_, rfl⟩
  have CX : Hid (Cel X W.heap.size 58 cs) := by rw [hX]; exact heap_alloc_new _ _
  have bX : Below W.heap.size W X := by rw [hX]; exact below_one _ _
  have zX := CX.out.lt
  have h2 := hT.sz
  have TX : Hid (Tabs X) := hT.on bX
  have RX : Hid (TabR X) := hR.on h2 bX
  have x2 : 2 < X.heap.size := by omega
  have HC : Hid (cs[0]? = some (.int .i64 7) ∧ cs[2]? = some (.slice ua un uc) ∧ cs[3]? = some (.slice va vn vc) ∧ cs[4]? = some (.slice aa an ac) ∧ cs[5]? = some (.slice ba bn bc) ∧ cs[22]? = some (.int .i64 N)) := by rw [hcs]; exact opC_at hA8 hB8
  have HX8 : Hid (∀ w, Cel w W.heap.size 58 cs → w.rangeAt W.heap.size 6 (A8.map (Value.int .u32)) ∧ w.rangeAt W.heap.size 14 (B8.map (Value.int .u32))) := fun w h => by rw [hcs] at h; exact opC_rows hA8 hB8 h
  have AU : Hid (At X .u32 ua us) := hua.below bX
  have AV : Hid (At X .u32 va vs) := hva.below bX
  have AA : Hid (At X .u8 aa as') := haa.below bX
  have AB : Hid (At X .u8 ba bs) := hba.below bX
  have SU : Hid (Sl ua uc) := hus
  have SV : Hid (Sl va vc) := hvs
  have SA : Hid (Sl aa ac) := has
  have SB : Hid (Sl ba bc) := hbs
  have BX : Hid (Below W.heap.size W X) := bX
  clear hcs hua hva haa hba hus hvs has hbs bX hT hR
  have d0 : X.cell? ⟨W.heap.size, 0, none⟩ = some (.int .i64 7) := by rw [CX.out.cell]; exact HC.out.1
  have d2 : X.cell? ⟨W.heap.size, 2, none⟩ = some (.slice ua un uc) := by rw [CX.out.cell]; exact HC.out.2.1
  have d3 : X.cell? ⟨W.heap.size, 3, none⟩ = some (.slice va vn vc) := by rw [CX.out.cell]; exact HC.out.2.2.1
  have d4 : X.cell? ⟨W.heap.size, 4, none⟩ = some (.slice aa an ac) := by rw [CX.out.cell]; exact HC.out.2.2.2.1
  have d5 : X.cell? ⟨W.heap.size, 5, none⟩ = some (.slice ba bn bc) := by rw [CX.out.cell]; exact HC.out.2.2.2.2.1
  have d22 : X.cell? ⟨W.heap.size, 22, none⟩ = some (.int .i64 N) := by rw [CX.out.cell]; exact HC.out.2.2.2.2.2
  rw [hX] at d0 d2 d3 d4 d5 d22
  obtain ⟨H, hH⟩ : ∃ H, hmac as' bs = H := ⟨_, rfl⟩
  have HH : Hid (hmac as' bs = H) := hH
  have hHl : H.length = 8 := by rw [← hH]; exact hmac_length _ _
  have hsH : (Tryd.prog.info? 26).map (·.size) = some H.length := by rw [hHl]; exact size26
  have e1 := eq26 H H hHl hHl
  rw [decide_eq_true rfl] at e1
  clear hH
  go_enter Tryd.func25, Tryd.ntmps25
  go_wp2_with fail
  rw [← hX]
  clear hX
  refine (rextract_any X RX.out x2 aa an ac as' hal pa AA.out hac (by omega) ba bn bc bs hbl pb AB.out SB.out (by omega)).mono ?_
  rintro e w1 ⟨rfl, hb⟩
  rw [HH.out]
  have B1 : Hid (Below X.heap.size X w1) := hb
  clear hb d0 d2 d3 d4 d5 d22
  go_wp2_with (first | (refine wpList_store_but rfl 26 _ _ rfl w1.heap.size H rfl rfl (Blk.new w1 .u32 26 V) hsH (hVl.trans hHl.symm) ?_; intro w2 b2 hw2 hs2))
  have B2 : Hid (Below X.heap.size X w2) := (B1.out.trans ((below_one w1 _).mono B1.out.size)).trans (hw2.below B1.out.size (by simp; have := B1.out.size; omega))
  have OW : Hid (Blk w2 w1.heap.size .u32 26 H) := b2
  clear hw2 hs2 b2
  generalize w1.heap.size = gw at *
  have FX : Hid (∀ w, Below w2.heap.size w2 w → Below X.heap.size X w) := fun w h => B2.out.trans (h.mono B2.out.size)
  have HL : Hid (∀ x x', Below w2.heap.size w2 x → Below x.heap.size x x' → Below w2.heap.size w2 x') := fun x x' h h' => h.trans (h'.mono h.size)
  have RW : Hid (∀ w, Below w2.heap.size w2 w → w.rangeAt gw 0 (H.map (Value.int .u32))) := fun w h => (OW.out.on h).row.range
  have CQ4 : Hid (∀ w, Below w2.heap.size w2 w → w.cell? ⟨W.heap.size, 4, none⟩ = some (.slice aa an ac)) := fun w h => by rw [(CX.out.on (FX.out w h)).cell]; exact HC.out.2.2.2.1
  have CQ5 : Hid (∀ w, Below w2.heap.size w2 w → w.cell? ⟨W.heap.size, 5, none⟩ = some (.slice ba bn bc)) := fun w h => by rw [(CX.out.on (FX.out w h)).cell]; exact HC.out.2.2.2.2.1
  go_wp2_with fail
  refine wp_region_held_drew (S := fun w => Below w2.heap.size w2 w) (by kernel_rfl) (Below.refl _ _).drew (fun hHeld => ?_)
  refine wpAnyH_take (i := 0) (oi := { dst := some 81, op := Op.fieldAddr 58 (Operand.tmp 1) 4, type := 0, pos := "law.go:66", after := #[], guard := none }) (v := .pointer (some ⟨W.heap.size, 4, none⟩)) rfl (by kernel_rfl) (by kernel_rfl) (by kernel_rfl) (fun _ _ _ h => h) (Or.inl ⟨by rfl, by intro w hSw; go_simp⟩) (by assumption) ?_
  simp only [Act.put, List.setIfInBounds_toArray, List.set_cons_zero, List.set_cons_succ]
  refine wpAnyH_take (i := 1) (oi := { dst := some 82, op := Op.load 22 (Operand.tmp 81), type := 22, pos := "law.go:66", after := #[{ on := 0, ground := Ground.data }], guard := none }) (v := .slice aa an ac) rfl (by kernel_rfl) (by kernel_rfl) (by kernel_rfl) (fun _ _ _ h => h) (Or.inl ⟨by rfl, by intro w hSw; have hcc := CQ4.out w hSw; go_simp⟩) (by assumption) ?_
  simp only [Act.put, List.setIfInBounds_toArray, List.set_cons_zero, List.set_cons_succ]
  refine wpAnyH_take (i := 3) (oi := { dst := some 84, op := Op.fieldAddr 58 (Operand.tmp 1) 5, type := 0, pos := "law.go:66", after := #[], guard := none }) (v := .pointer (some ⟨W.heap.size, 5, none⟩)) rfl (by kernel_rfl) (by kernel_rfl) (by kernel_rfl) (fun _ _ _ h => h) (Or.inl ⟨by rfl, by intro w hSw; go_simp⟩) (by assumption) ?_
  simp only [Act.put, List.setIfInBounds_toArray, List.set_cons_zero, List.set_cons_succ]
  refine wpAnyH_take (i := 4) (oi := { dst := some 85, op := Op.load 22 (Operand.tmp 84), type := 22, pos := "law.go:66", after := #[{ on := 3, ground := Ground.data }], guard := none }) (v := .slice ba bn bc) rfl (by kernel_rfl) (by kernel_rfl) (by kernel_rfl) (fun _ _ _ h => h) (Or.inl ⟨by rfl, by intro w hSw; have hcc := CQ5.out w hSw; go_simp⟩) (by assumption) ?_
  simp only [Act.put, List.setIfInBounds_toArray, List.set_cons_zero, List.set_cons_succ]
  refine wpAnyH_take (i := 7) (oi := { dst := some 88, op := Op.load 26 (Operand.tmp 9), type := 26, pos := "law.go:66", after := #[], guard := none }) (v := .agg (H.map (Value.int .u32)).toArray) rfl (by kernel_rfl) (by kernel_rfl) (by kernel_rfl) (fun _ _ _ h => h) (yieldsIf_load_mid (by rfl) _ _ rfl _ _ rfl _ _ (fun w hSw => RW.out w hSw) Tryd.underlying26 rfl (by rw [List.length_map]; exact hsH)) (by assumption) ?_
  simp only [Act.put, List.setIfInBounds_toArray, List.set_cons_zero, List.set_cons_succ]
  refine wpAnyH_ready (rs := [2]) (by kernel_rfl) (by simp) (AllReadyH.cons (o := { dst := some 83, op := Op.call { callee := Callee.value (Operand.func 8), args := #[Operand.tmp 82], argTypes := #[22] }, type := 22, pos := "law.go:66", after := #[{ on := 1, ground := Ground.data }], guard := none }) rfl (fun KQ hK => ?_) AllReadyH.nil)
  go_simp
  refine (bytes_own _ aa an ac as' hal (AA.out.below (FX.out _ (Below.refl _ _).drew)) SA.out (by omega)).mono ?_
  rintro e w3 ⟨v3, c3, rfl, h3, a3, s3, hb3⟩
  have B3 : Below w2.heap.size w2 w3 := HL.out _ _ (Below.refl _ _).drew hb3
  go_wp2_with fail
  refine hK.out _ _ B3 (fun hHeld => ?_)
  clear hK KQ
  try simp only [Act.put, List.setIfInBounds_toArray, List.set_cons_zero, List.set_cons_succ]
  refine wpAnyH_ready (rs := [5]) (by kernel_rfl) (by simp) (AllReadyH.cons (o := { dst := some 86, op := Op.call { callee := Callee.value (Operand.func 8), args := #[Operand.tmp 85], argTypes := #[22] }, type := 22, pos := "law.go:66", after := #[{ on := 4, ground := Ground.data }, { on := 2, ground := Ground.chain }], guard := none }) rfl (fun KQ hK => ?_) AllReadyH.nil)
  go_simp
  refine (bytes_own _ ba bn bc bs hbl (AB.out.below (FX.out _ B3)) SB.out (by omega)).mono ?_
  rintro e w4 ⟨v4, c4, rfl, h4, a4, s4, hb4⟩
  have B4 : Below w2.heap.size w2 w4 := HL.out _ _ B3 hb4
  go_wp2_with fail
  refine hK.out _ _ B4 (fun hHeld => ?_)
  clear hK KQ
  try simp only [Act.put, List.setIfInBounds_toArray, List.set_cons_zero, List.set_cons_succ]
  refine wpAnyH_ready (rs := [6]) (by kernel_rfl) (by simp) (AllReadyH.cons (o := { dst := some 87, op := Op.call { callee := Callee.value (Operand.func 7), args := #[Operand.tmp 83, Operand.tmp 86], argTypes := #[22, 22] }, type := 26, pos := "law.go:66", after := #[{ on := 2, ground := Ground.data }, { on := 5, ground := Ground.data }, { on := 5, ground := Ground.chain }], guard := none }) rfl (fun KQ hK => ?_) AllReadyH.nil)
  go_simp
  refine (extract_any _ (TX.out.on (FX.out _ B4)) v3 an c3 as' hal pa (a3.below hb4) h3 (by omega) v4 bn c4 bs hbl pb a4 s4 (by omega)).mono ?_
  rintro e w5 ⟨rfl, hb5⟩
  rw [HH.out]
  have B5 : Below w2.heap.size w2 w5 := HL.out _ _ B4 hb5
  go_wp2_with fail
  refine hK.out _ _ B5 (fun hHeld => ?_)
  clear hK KQ
  try simp only [Act.put, List.setIfInBounds_toArray, List.set_cons_zero, List.set_cons_succ]
  refine wpAnyH_take (i := 8) (oi := { dst := some 89, op := Op.binOp BinOp.eql 26 (Operand.tmp 87) (Operand.tmp 88) 26, type := 4, pos := "law.go:66", after := #[{ on := 6, ground := Ground.data }, { on := 7, ground := Ground.data }], guard := none }) (v := .bool true) rfl (by kernel_rfl) (by kernel_rfl) (by kernel_rfl) (fun _ _ _ h => h) (Or.inl ⟨by rfl, by intro w hSw; simp only [Ag]; go_simp⟩) (by assumption) ?_
  simp only [Act.put, List.setIfInBounds_toArray, List.set_cons_zero, List.set_cons_succ]
  refine wpAnyH_ready (rs := [9]) (by kernel_rfl) (by simp) (AllReadyH.cons (o := { dst := some 2, op := Op.assign (Operand.tmp 89), type := 4, pos := "law.go:66", after := #[{ on := 8, ground := Ground.data }, { on := 6, ground := Ground.chain }, { on := 0, ground := Ground.phase }, { on := 1, ground := Ground.phase }, { on := 2, ground := Ground.phase }, { on := 3, ground := Ground.phase }, { on := 4, ground := Ground.phase }, { on := 5, ground := Ground.phase }, { on := 6, ground := Ground.phase }, { on := 7, ground := Ground.phase }, { on := 8, ground := Ground.phase }], guard := none }) rfl (fun KQ hK => ?_) AllReadyH.nil)
  go_simp
  refine hK.out _ _ B5 (fun hHeld => ?_)
  clear hK KQ
  try simp only [Act.put, List.setIfInBounds_toArray, List.set_cons_zero, List.set_cons_succ]
  refine wpAnyH_done (by kernel_rfl) ?_ _
  have HE : Hid (Below W.heap.size W w5) := BX.out.trans ((FX.out _ B5).mono (by omega))
  clear hHeld B3 B4 B5 hb3 hb4 hb5 a3 a4 s3 s4 h3 h4
  go_wp2_with fail
  go_ret
  exact ⟨rfl, HE.out⟩
set_option maxRecDepth 20000 in
set_option maxHeartbeats 1000000 in
theorem plain_6 (W : World) (hT : Tabs W) (hR : TabR W) (hh : Int) (ua : Option Addr) (un uc : Nat) (us : List Int) (va : Option Addr) (vn vc : Nat) (vs : List Int) (aa : Option Addr) (an ac : Nat) (as' : List Int) (ba : Option Addr) (bn bc : Nat) (bs : List Int) (A8 B8 : List Int) (N : Int)
    (h : OpIn W ua un uc us va vn vc vs aa an ac as' ba bn bc bs A8 B8) :
    Calls Tryd.prog 25 #[.agg (opC 6 hh ua un uc va vn vc aa an ac ba bn bc A8 B8 N).toArray] W fun e W' => e = .returned (.bool true) ∧ Below W.heap.size W W' := by
  obtain ⟨hul, wu, hua, hus, hun, hvl, wv, hva, hvs, hvn, hal, pa, haa, has, hac, han, hbl, pb, hba, hbs, hbn, hA8, wA8, hB8, wB8⟩ := h
  obtain ⟨V, hV⟩ : ∃ V : List Int, V = List.replicate 8 0 := ⟨_, rfl⟩
  have hVl : V.length = 8 := by rw [hV]; simp
  have hv : ∀ w, (zeroValue 26).run Tryd.prog w = .ok (.agg (V.map (Value.int .u32)).toArray) w := fun w => by rw [Tryd.zeroValue26, hV]; rfl
  clear hV
  obtain ⟨cs, hcs⟩ : ∃ cs, cs = opC 6 hh ua un uc va vn vc aa an ac ba bn bc A8 B8 N := ⟨_, rfl⟩
  rw [← hcs]
  obtain ⟨X, hX⟩ : ∃ X, X = W.alloc (Obj.cells cs.toArray 58) := ⟨_, rfl⟩
  have CX : Hid (Cel X W.heap.size 58 cs) := by rw [hX]; exact heap_alloc_new _ _
  have bX : Below W.heap.size W X := by rw [hX]; exact below_one _ _
  have zX := CX.out.lt
  have h2 := hT.sz
  have TX : Hid (Tabs X) := hT.on bX
  have RX : Hid (TabR X) := hR.on h2 bX
  have x2 : 2 < X.heap.size := by omega
  have HC : Hid (cs[0]? = some (.int .i64 6) ∧ cs[2]? = some (.slice ua un uc) ∧ cs[3]? = some (.slice va vn vc) ∧ cs[4]? = some (.slice aa an ac) ∧ cs[5]? = some (.slice ba bn bc) ∧ cs[22]? = some (.int .i64 N)) := by rw [hcs]; exact opC_at hA8 hB8
  have HX8 : Hid (∀ w, Cel w W.heap.size 58 cs → w.rangeAt W.heap.size 6 (A8.map (Value.int .u32)) ∧ w.rangeAt W.heap.size 14 (B8.map (Value.int .u32))) := fun w h => by rw [hcs] at h; exact opC_rows hA8 hB8 h
  have AU : Hid (At X .u32 ua us) := hua.below bX
  have AV : Hid (At X .u32 va vs) := hva.below bX
  have AA : Hid (At X .u8 aa as') := haa.below bX
  have AB : Hid (At X .u8 ba bs) := hba.below bX
  have SU : Hid (Sl ua uc) := hus
  have SV : Hid (Sl va vc) := hvs
  have SA : Hid (Sl aa ac) := has
  have SB : Hid (Sl ba bc) := hbs
  have BX : Hid (Below W.heap.size W X) := bX
  clear hcs hua hva haa hba hus hvs has hbs bX hT hR
  have d0 : X.cell? ⟨W.heap.size, 0, none⟩ = some (.int .i64 6) := by rw [CX.out.cell]; exact HC.out.1
  have d2 : X.cell? ⟨W.heap.size, 2, none⟩ = some (.slice ua un uc) := by rw [CX.out.cell]; exact HC.out.2.1
  have d3 : X.cell? ⟨W.heap.size, 3, none⟩ = some (.slice va vn vc) := by rw [CX.out.cell]; exact HC.out.2.2.1
  have d4 : X.cell? ⟨W.heap.size, 4, none⟩ = some (.slice aa an ac) := by rw [CX.out.cell]; exact HC.out.2.2.2.1
  have d5 : X.cell? ⟨W.heap.size, 5, none⟩ = some (.slice ba bn bc) := by rw [CX.out.cell]; exact HC.out.2.2.2.2.1
  have d22 : X.cell? ⟨W.heap.size, 22, none⟩ = some (.int .i64 N) := by rw [CX.out.cell]; exact HC.out.2.2.2.2.2
  rw [hX] at d0 d2 d3 d4 d5 d22
  have sA : (Tryd.prog.info? 26).map (·.size) = some (A8.map (Value.int .u32)).length := by rw [List.length_map, hA8]; exact size26
  have sB : (Tryd.prog.info? 26).map (·.size) = some (B8.map (Value.int .u32)).length := by rw [List.length_map, hB8]; exact size26
  have r0 := HX8.out _ CX.out
  rw [hX] at r0
  have R6 : Hid ((W.alloc (Obj.cells cs.toArray 58)).rangeAt W.heap.size 6 (A8.map (Value.int .u32))) := r0.1
  have R14 : Hid ((W.alloc (Obj.cells cs.toArray 58)).rangeAt W.heap.size 14 (B8.map (Value.int .u32))) := r0.2
  clear r0
  have z26 := Tryd.sizeOf26
  go_enter Tryd.func25, Tryd.ntmps25
  go_wp2_with (first | (refine wpList_load_mid rfl 26 _ rfl W.heap.size 6 rfl _ _ R6.out Tryd.underlying26 rfl sA ?_) | (refine wpList_load_mid rfl 26 _ rfl W.heap.size 14 rfl _ _ R14.out Tryd.underlying26 rfl sB ?_))
  rw [← hX]
  clear hX R6 R14
  refine (rsame_any X A8 B8 hA8 hB8).mono ?_
  rintro e w1 ⟨rfl, hb⟩
  have B1 : Hid (Below X.heap.size X w1) := hb
  have Q6 : Hid (w1.rangeAt W.heap.size 6 (A8.map (Value.int .u32))) := (HX8.out _ (CX.out.on hb)).1
  have Q14 : Hid (w1.rangeAt W.heap.size 14 (B8.map (Value.int .u32))) := (HX8.out _ (CX.out.on hb)).2
  clear hb d0 d2 d3 d4 d5 d22
  go_wp2_with (first | (refine wpList_load_mid rfl 26 _ rfl W.heap.size 6 rfl _ _ Q6.out Tryd.underlying26 rfl sA ?_) | (refine wpList_load_mid rfl 26 _ rfl W.heap.size 14 rfl _ _ Q14.out Tryd.underlying26 rfl sB ?_))
  refine (macSame_any w1 A8 B8 hA8 hB8 wA8 wB8).mono ?_
  rintro e w2 ⟨rfl, hb⟩
  have HE : Hid (Below W.heap.size W w2) := BX.out.trans ((B1.out.trans (hb.mono B1.out.size)).mono (by omega))
  clear hb Q6 Q14
  generalize decide (A8 = B8) = r at *
  have er : (r == r) = true := by simp
  go_wp2_with fail
  go_ret
  exact ⟨rfl, HE.out⟩
set_option maxRecDepth 20000 in
set_option maxHeartbeats 1000000 in
theorem plain_no (W : World) (kd hh : Int) (ua : Option Addr) (un uc : Nat) (va : Option Addr) (vn vc : Nat) (aa : Option Addr) (an ac : Nat) (ba : Option Addr) (bn bc : Nat) (A8 B8 : List Int) (N : Int) (hk : kd ≠ 1 ∧ kd ≠ 2 ∧ kd ≠ 6 ∧ kd ≠ 7 ∧ kd ≠ 8) :
    Calls Tryd.prog 25 #[.agg (opC kd hh ua un uc va vn vc aa an ac ba bn bc A8 B8 N).toArray] W fun e W' => e = .returned (.bool true) ∧ Below W.heap.size W W' := by
  have d0 : (W.alloc (Obj.cells (opC kd hh ua un uc va vn vc aa an ac ba bn bc A8 B8 N).toArray 58)).cell? ⟨W.heap.size, 0, none⟩ = some (.int .i64 kd) := by
    have : Cel (W.alloc (Obj.cells (opC kd hh ua un uc va vn vc aa an ac ba bn bc A8 B8 N).toArray 58)) W.heap.size 58 (opC kd hh ua un uc va vn vc aa an ac ba bn bc A8 B8 N) := heap_alloc_new _ _
    rw [this.cell]
    rfl
  have HE : Hid (Below W.heap.size W (W.alloc (Obj.cells (opC kd hh ua un uc va vn vc aa an ac ba bn bc A8 B8 N).toArray 58))) := below_one _ _
  generalize opC kd hh ua un uc va vn vc aa an ac ba bn bc A8 B8 N = cs at *
  obtain ⟨k1, k2, k6, k7, k8⟩ := hk
  have f1 : (kd == 1) = false := by simpa using k1
  have f2 : (kd == 2) = false := by simpa using k2
  have f6 : (kd == 6) = false := by simpa using k6
  have f7 : (kd == 7) = false := by simpa using k7
  have f8 : (kd == 8) = false := by simpa using k8
  clear k1 k2 k6 k7 k8
  go_enter Tryd.func25, Tryd.ntmps25
  go_wp2_with fail
  go_ret
  exact ⟨rfl, HE.out⟩
theorem conv_form (w : World) (ao : Option Addr) (n c : Nat) (xs : List Int) (hx : xs.length = n) (hat : At w .u8 ao xs) (hf : ao = none ∨ ∃ b off, ao = some ⟨b, off, none⟩) : (convert 22 9 (.slice ao n c)).run Tryd.prog w = .ok (.string (strOfNums xs)) w := by
  rcases hf with rfl | ⟨b, off, rfl⟩
  · have h0 : xs = [] := by
      rcases hat with h0 | ⟨b, off, h1, _⟩
      · exact h0
      · cases h1
    subst h0
    exact run_convert_bytes_nil w 22 5 Tryd.underlying22 Tryd.underlying5 n c 9 Tryd.underlying9
  · refine run_convert_bytes_arg w 22 5 Tryd.underlying22 Tryd.underlying5 b off n c xs hx (fun i hi => ?_) 9 Tryd.underlying9
    rcases hat with h0 | ⟨b', off', h1, _, hr⟩
    · rw [h0] at hx; simp at hx; omega
    · cases h1
      exact hr i (by omega)
set_option maxRecDepth 20000 in
set_option maxHeartbeats 1000000 in
theorem plain_8ok (W : World) (hT : Tabs W) (hR : TabR W) (hh : Int) (ua : Option Addr) (un uc : Nat) (us : List Int) (va : Option Addr) (vn vc : Nat) (vs : List Int) (aa : Option Addr) (an ac : Nat) (as' : List Int) (ba : Option Addr) (bn bc : Nat) (bs : List Int) (A8 B8 : List Int) (N : Int)
    (h : OpIn W ua un uc us va vn vc vs aa an ac as' ba bn bc bs A8 B8) (hN : 0 ≤ N ∧ N ≤ 8160) :
    Calls Tryd.prog 25 #[.agg (opC 8 hh ua un uc va vn vc aa an ac ba bn bc A8 B8 N).toArray] W fun e W' => e = .returned (.bool true) ∧ Below W.heap.size W W' := by
  obtain ⟨hul, wu, hua, hus, hun, hvl, wv, hva, hvs, hvn, hal, pa, haa, has, hac, han, hbl, pb, hba, hbs, hbn, hA8, wA8, hB8, wB8⟩ := h
  obtain ⟨V, hV⟩ : ∃ V : List Int, V = List.replicate 8 0 := ⟨_, rfl⟩
  have hVl : V.length = 8 := by rw [hV]; simp
  have hv : ∀ w, (zeroValue 26).run Tryd.prog w = .ok (.agg (V.map (Value.int .u32)).toArray) w := fun w => by rw [Tryd.zeroValue26, hV]; rfl
  clear hV
  obtain ⟨cs, hcs⟩ : ∃ cs, cs = opC 8 hh ua un uc va vn vc aa an ac ba bn bc A8 B8 N := ⟨_, rfl⟩
  rw [← hcs]
  obtain ⟨X, hX⟩ : ∃ X, X = W.alloc (Obj.cells cs.toArray 58) := ⟨_, rfl⟩
  have CX : Hid (Cel X W.heap.size 58 cs) := by rw [hX]; exact heap_alloc_new _ _
  have bX : Below W.heap.size W X := by rw [hX]; exact below_one _ _
  have zX := CX.out.lt
  have h2 := hT.sz
  have TX : Hid (Tabs X) := hT.on bX
  have RX : Hid (TabR X) := hR.on h2 bX
  have x2 : 2 < X.heap.size := by omega
  have HC : Hid (cs[0]? = some (.int .i64 8) ∧ cs[2]? = some (.slice ua un uc) ∧ cs[3]? = some (.slice va vn vc) ∧ cs[4]? = some (.slice aa an ac) ∧ cs[5]? = some (.slice ba bn bc) ∧ cs[22]? = some (.int .i64 N)) := by rw [hcs]; exact opC_at hA8 hB8
  have HX8 : Hid (∀ w, Cel w W.heap.size 58 cs → w.rangeAt W.heap.size 6 (A8.map (Value.int .u32)) ∧ w.rangeAt W.heap.size 14 (B8.map (Value.int .u32))) := fun w h => by rw [hcs] at h; exact opC_rows hA8 hB8 h
  have AU : Hid (At X .u32 ua us) := hua.below bX
  have AV : Hid (At X .u32 va vs) := hva.below bX
  have AA : Hid (At X .u8 aa as') := haa.below bX
  have AB : Hid (At X .u8 ba bs) := hba.below bX
  have SU : Hid (Sl ua uc) := hus
  have SV : Hid (Sl va vc) := hvs
  have SA : Hid (Sl aa ac) := has
  have SB : Hid (Sl ba bc) := hbs
  have BX : Hid (Below W.heap.size W X) := bX
  clear hcs hua hva haa hba hus hvs has hbs bX hT hR
  have d0 : X.cell? ⟨W.heap.size, 0, none⟩ = some (.int .i64 8) := by rw [CX.out.cell]; exact HC.out.1
  have d2 : X.cell? ⟨W.heap.size, 2, none⟩ = some (.slice ua un uc) := by rw [CX.out.cell]; exact HC.out.2.1
  have d3 : X.cell? ⟨W.heap.size, 3, none⟩ = some (.slice va vn vc) := by rw [CX.out.cell]; exact HC.out.2.2.1
  have d4 : X.cell? ⟨W.heap.size, 4, none⟩ = some (.slice aa an ac) := by rw [CX.out.cell]; exact HC.out.2.2.2.1
  have d5 : X.cell? ⟨W.heap.size, 5, none⟩ = some (.slice ba bn bc) := by rw [CX.out.cell]; exact HC.out.2.2.2.2.1
  have d22 : X.cell? ⟨W.heap.size, 22, none⟩ = some (.int .i64 N) := by rw [CX.out.cell]; exact HC.out.2.2.2.2.2
  rw [hX] at d0 d2 d3 d4 d5 d22
  obtain ⟨n, rfl⟩ := Int.eq_ofNat_of_zero_le hN.1
  have hn : n ≤ 8160 := by omega
  have sA : (Tryd.prog.info? 26).map (·.size) = some (A8.map (Value.int .u32)).length := by rw [List.length_map, hA8]; exact size26
  have r0 := HX8.out _ CX.out
  rw [hX] at r0
  have R6 : Hid ((W.alloc (Obj.cells cs.toArray 58)).rangeAt W.heap.size 6 (A8.map (Value.int .u32))) := r0.1
  clear r0
  have z26 := Tryd.sizeOf26
  have HN : Hid (0 ≤ (n : Int) ∧ (n : Int) ≤ 8160) := hN
  clear hN
  go_enter Tryd.func25, Tryd.ntmps25
  go_wp2_with (first | (refine wpList_load_mid rfl 26 _ rfl W.heap.size 6 rfl _ _ R6.out Tryd.underlying26 rfl sA ?_))
  rw [← hX]
  clear hX R6 d0 d2 d3 d4 d5 d22
  refine (rexpand_any X RX.out x2 A8 hA8 wA8 aa an ac as' hal pa AA.out SA.out han n hn).mono ?_
  rintro e w1 ⟨vw, cw, rfl, aw, fw, hb⟩
  have AW : Hid (At w1 .u8 vw (okm (bytesD A8) as' n)) := aw
  clear aw
  have B1 : Hid (Below X.heap.size X w1) := hb
  clear hb
  have FX : Hid (∀ w, Below w1.heap.size w1 w → Below X.heap.size X w) := fun w h => B1.out.trans (h.mono B1.out.size)
  have HL : Hid (∀ x x', Below w1.heap.size w1 x → Below x.heap.size x x' → Below w1.heap.size w1 x') := fun x x' h h' => h.trans (h'.mono h.size)
  have CQ4 : Hid (∀ w, Below w1.heap.size w1 w → w.cell? ⟨W.heap.size, 4, none⟩ = some (.slice aa an ac)) := fun w h => by rw [(CX.out.on (FX.out w h)).cell]; exact HC.out.2.2.2.1
  have CQ22 : Hid (∀ w, Below w1.heap.size w1 w → w.cell? ⟨W.heap.size, 22, none⟩ = some (.int .i64 (n : Int))) := fun w h => by rw [(CX.out.on (FX.out w h)).cell]; exact HC.out.2.2.2.2.2
  have RQ : Hid (∀ w, Below w1.heap.size w1 w → w.rangeAt W.heap.size 6 (A8.map (Value.int .u32))) := fun w h => (HX8.out _ (CX.out.on (FX.out w h))).1
  go_wp2_with fail
  refine wp_region_held_drew (S := fun w => Below w1.heap.size w1 w) (by kernel_rfl) (Below.refl _ _).drew (fun hHeld => ?_)
  refine wpAnyH_take (i := 0) (oi := { dst := some 103, op := Op.fieldAddr 58 (Operand.tmp 1) 6, type := 0, pos := "law.go:69", after := #[], guard := none }) (v := .pointer (some ⟨W.heap.size, 6, none⟩)) rfl (by kernel_rfl) (by kernel_rfl) (by kernel_rfl) (fun _ _ _ h => h) (Or.inl ⟨by rfl, by intro w hSw; go_simp⟩) (by assumption) ?_
  simp only [Act.put, List.setIfInBounds_toArray, List.set_cons_zero, List.set_cons_succ]
  refine wpAnyH_take (i := 1) (oi := { dst := some 104, op := Op.load 26 (Operand.tmp 103), type := 26, pos := "law.go:69", after := #[{ on := 0, ground := Ground.data }], guard := none }) (v := .agg (A8.map (Value.int .u32)).toArray) rfl (by kernel_rfl) (by kernel_rfl) (by kernel_rfl) (fun _ _ _ h => h) (yieldsIf_load_mid (by rfl) _ _ rfl _ _ rfl _ _ (fun w hSw => RQ.out w hSw) Tryd.underlying26 rfl sA) (by assumption) ?_
  simp only [Act.put, List.setIfInBounds_toArray, List.set_cons_zero, List.set_cons_succ]
  refine wpAnyH_take (i := 2) (oi := { dst := some 105, op := Op.fieldAddr 58 (Operand.tmp 1) 4, type := 0, pos := "law.go:69", after := #[], guard := none }) (v := .pointer (some ⟨W.heap.size, 4, none⟩)) rfl (by kernel_rfl) (by kernel_rfl) (by kernel_rfl) (fun _ _ _ h => h) (Or.inl ⟨by rfl, by intro w hSw; go_simp⟩) (by assumption) ?_
  simp only [Act.put, List.setIfInBounds_toArray, List.set_cons_zero, List.set_cons_succ]
  refine wpAnyH_take (i := 3) (oi := { dst := some 106, op := Op.load 22 (Operand.tmp 105), type := 22, pos := "law.go:69", after := #[{ on := 2, ground := Ground.data }], guard := none }) (v := .slice aa an ac) rfl (by kernel_rfl) (by kernel_rfl) (by kernel_rfl) (fun _ _ _ h => h) (Or.inl ⟨by rfl, by intro w hSw; have hcc := CQ4.out w hSw; go_simp⟩) (by assumption) ?_
  simp only [Act.put, List.setIfInBounds_toArray, List.set_cons_zero, List.set_cons_succ]
  refine wpAnyH_take (i := 5) (oi := { dst := some 108, op := Op.fieldAddr 58 (Operand.tmp 1) 8, type := 0, pos := "law.go:69", after := #[], guard := none }) (v := .pointer (some ⟨W.heap.size, 22, none⟩)) rfl (by kernel_rfl) (by kernel_rfl) (by kernel_rfl) (fun _ _ _ h => h) (Or.inl ⟨by rfl, by intro w hSw; go_simp⟩) (by assumption) ?_
  simp only [Act.put, List.setIfInBounds_toArray, List.set_cons_zero, List.set_cons_succ]
  refine wpAnyH_take (i := 6) (oi := { dst := some 109, op := Op.load 3 (Operand.tmp 108), type := 3, pos := "law.go:69", after := #[{ on := 5, ground := Ground.data }], guard := none }) (v := .int .i64 (n : Int)) rfl (by kernel_rfl) (by kernel_rfl) (by kernel_rfl) (fun _ _ _ h => h) (Or.inl ⟨by rfl, by intro w hSw; have hcc := CQ22.out w hSw; go_simp⟩) (by assumption) ?_
  simp only [Act.put, List.setIfInBounds_toArray, List.set_cons_zero, List.set_cons_succ]
  refine wpAnyH_ready (rs := [4]) (by kernel_rfl) (by simp) (AllReadyH.cons (o := { dst := some 107, op := Op.call { callee := Callee.value (Operand.func 8), args := #[Operand.tmp 106], argTypes := #[22] }, type := 22, pos := "law.go:69", after := #[{ on := 3, ground := Ground.data }], guard := none }) rfl (fun KQ hK => ?_) AllReadyH.nil)
  go_simp
  refine (bytes_own _ aa an ac as' hal (AA.out.below (FX.out _ (Below.refl _ _).drew)) SA.out (by omega)).mono ?_
  rintro e w3 ⟨v3, c3, rfl, h3, a3, s3, hb3⟩
  have B3 : Below w1.heap.size w1 w3 := HL.out _ _ (Below.refl _ _).drew hb3
  go_wp2_with fail
  refine hK.out _ _ B3 (fun hHeld => ?_)
  clear hK KQ
  try simp only [Act.put, List.setIfInBounds_toArray, List.set_cons_zero, List.set_cons_succ]
  refine wpAnyH_ready (rs := [7]) (by kernel_rfl) (by simp) (AllReadyH.cons (o := { dst := some 110, op := Op.call { callee := Callee.value (Operand.func 12), args := #[Operand.tmp 104, Operand.tmp 107, Operand.tmp 109], argTypes := #[26, 22, 3] }, type := 32, pos := "law.go:69", after := #[{ on := 1, ground := Ground.data }, { on := 4, ground := Ground.data }, { on := 6, ground := Ground.data }, { on := 4, ground := Ground.chain }], guard := none }) rfl (fun KQ hK => ?_) AllReadyH.nil)
  go_simp
  refine (expand_any _ (TX.out.on (FX.out _ B3)) A8 hA8 wA8 v3 an c3 as' hal pa a3 s3 han n hn).mono ?_
  rintro e w4 ⟨vx, rfl, ox, hb4⟩
  have B4 : Below w1.heap.size w1 w4 := HL.out _ _ B3 hb4
  go_wp2_with fail
  refine hK.out _ _ B4 (fun hHeld => ?_)
  clear hK KQ
  try simp only [Act.put, List.setIfInBounds_toArray, List.set_cons_zero, List.set_cons_succ]
  refine wpAnyH_take (i := 8) (oi := { dst := some 102, op := Op.move (Operand.tmp 110), type := 32, pos := "law.go:69", after := #[{ on := 7, ground := Ground.data }], guard := none }) (v := .tuple #[.slice vx n n, .int .i64 0]) rfl (by kernel_rfl) (by kernel_rfl) (by kernel_rfl) (fun _ _ _ h => h) (Or.inl ⟨by rfl, by intro w hSw; go_simp⟩) (by assumption) ?_
  simp only [Act.put, List.setIfInBounds_toArray, List.set_cons_zero, List.set_cons_succ]
  refine wpAnyH_take (i := 9) (oi := { dst := some 111, op := Op.extract (Operand.tmp 102) 0, type := 22, pos := "law.go:69", after := #[{ on := 8, ground := Ground.data }], guard := none }) (v := .slice vx n n) rfl (by kernel_rfl) (by kernel_rfl) (by kernel_rfl) (fun _ _ _ h => h) (Or.inl ⟨by rfl, by intro w hSw; go_simp⟩) (by assumption) ?_
  simp only [Act.put, List.setIfInBounds_toArray, List.set_cons_zero, List.set_cons_succ]
  refine wpAnyH_take (i := 10) (oi := { dst := some 112, op := Op.extract (Operand.tmp 102) 1, type := 31, pos := "law.go:69", after := #[{ on := 8, ground := Ground.data }, { on := 11, ground := Ground.gcOnly Departure.lateStores }], guard := none }) (v := .int .i64 0) rfl (by kernel_rfl) (by kernel_rfl) (by kernel_rfl) (fun _ _ _ h => h) (Or.inl ⟨by rfl, by intro w hSw; go_simp⟩) (by assumption) ?_
  simp only [Act.put, List.setIfInBounds_toArray, List.set_cons_zero, List.set_cons_succ]
  refine wpAnyH_ready (rs := [11]) (by kernel_rfl) (by simp) (AllReadyH.cons (o := { dst := some 12, op := Op.assign (Operand.tmp 111), type := 22, pos := "law.go:69", after := #[{ on := 9, ground := Ground.data }, { on := 7, ground := Ground.chain }, { on := 0, ground := Ground.phase }, { on := 1, ground := Ground.phase }, { on := 2, ground := Ground.phase }, { on := 3, ground := Ground.phase }, { on := 4, ground := Ground.phase }, { on := 5, ground := Ground.phase }, { on := 6, ground := Ground.phase }, { on := 7, ground := Ground.phase }, { on := 8, ground := Ground.phase }, { on := 9, ground := Ground.phase }, { on := 10, ground := Ground.textOnly Departure.lateStores }], guard := none }) rfl (fun KQ hK => ?_) AllReadyH.nil)
  go_simp
  refine hK.out _ _ B4 (fun hHeld => ?_)
  clear hK KQ
  try simp only [Act.put, List.setIfInBounds_toArray, List.set_cons_zero, List.set_cons_succ]
  refine wpAnyH_ready (rs := [12]) (by kernel_rfl) (by simp) (AllReadyH.cons (o := { dst := some 13, op := Op.assign (Operand.tmp 112), type := 31, pos := "law.go:69", after := #[{ on := 10, ground := Ground.data }, { on := 11, ground := Ground.chain }, { on := 0, ground := Ground.phase }, { on := 1, ground := Ground.phase }, { on := 2, ground := Ground.phase }, { on := 3, ground := Ground.phase }, { on := 4, ground := Ground.phase }, { on := 5, ground := Ground.phase }, { on := 6, ground := Ground.phase }, { on := 7, ground := Ground.phase }, { on := 8, ground := Ground.phase }, { on := 9, ground := Ground.phase }, { on := 10, ground := Ground.phase }, { on := 11, ground := Ground.phase }], guard := none }) rfl (fun KQ hK => ?_) AllReadyH.nil)
  go_simp
  refine hK.out _ _ B4 (fun hHeld => ?_)
  clear hK KQ
  try simp only [Act.put, List.setIfInBounds_toArray, List.set_cons_zero, List.set_cons_succ]
  refine wpAnyH_done (by kernel_rfl) ?_ _
  have ol := okm_length (bytesD A8) as' n
  have cv1 := conv_form w4 vw n cw _ ol (AW.out.below B4) fw
  have cv2 := conv_form w4 vx n n _ ol ox.at (by rcases ox.toXB with ⟨h0, _⟩ | ⟨g, cap, h0, _⟩; exact .inl h0; exact .inr ⟨g, 0, h0⟩)
  generalize strOfNums (okm (bytesD A8) as' n) = str at *
  clear ox ol AW
  have HE : Hid (Below W.heap.size W w4) := BX.out.trans ((FX.out _ B4).mono (by omega))
  clear hHeld B3 B4 hb3 hb4 a3 s3 h3
  go_wp2_with fail
  go_ret
  exact ⟨rfl, HE.out⟩
set_option maxRecDepth 20000 in
set_option maxHeartbeats 1000000 in
theorem plain_8no (W : World) (hT : Tabs W) (hR : TabR W) (hh : Int) (ua : Option Addr) (un uc : Nat) (us : List Int) (va : Option Addr) (vn vc : Nat) (vs : List Int) (aa : Option Addr) (an ac : Nat) (as' : List Int) (ba : Option Addr) (bn bc : Nat) (bs : List Int) (A8 B8 : List Int) (N : Int)
    (h : OpIn W ua un uc us va vn vc vs aa an ac as' ba bn bc bs A8 B8) (hN : N < 0 ∨ 8160 < N) :
    Calls Tryd.prog 25 #[.agg (opC 8 hh ua un uc va vn vc aa an ac ba bn bc A8 B8 N).toArray] W fun e W' => e = .returned (.bool true) ∧ Below W.heap.size W W' := by
  obtain ⟨hul, wu, hua, hus, hun, hvl, wv, hva, hvs, hvn, hal, pa, haa, has, hac, han, hbl, pb, hba, hbs, hbn, hA8, wA8, hB8, wB8⟩ := h
  obtain ⟨V, hV⟩ : ∃ V : List Int, V = List.replicate 8 0 := ⟨_, rfl⟩
  have hVl : V.length = 8 := by rw [hV]; simp
  have hv : ∀ w, (zeroValue 26).run Tryd.prog w = .ok (.agg (V.map (Value.int .u32)).toArray) w := fun w => by rw [Tryd.zeroValue26, hV]; rfl
  clear hV
  obtain ⟨cs, hcs⟩ : ∃ cs, cs = opC 8 hh ua un uc va vn vc aa an ac ba bn bc A8 B8 N := ⟨_, rfl⟩
  rw [← hcs]
  obtain ⟨X, hX⟩ : ∃ X, X = W.alloc (Obj.cells cs.toArray 58) := ⟨_, rfl⟩
  have CX : Hid (Cel X W.heap.size 58 cs) := by rw [hX]; exact heap_alloc_new _ _
  have bX : Below W.heap.size W X := by rw [hX]; exact below_one _ _
  have zX := CX.out.lt
  have h2 := hT.sz
  have TX : Hid (Tabs X) := hT.on bX
  have RX : Hid (TabR X) := hR.on h2 bX
  have x2 : 2 < X.heap.size := by omega
  have HC : Hid (cs[0]? = some (.int .i64 8) ∧ cs[2]? = some (.slice ua un uc) ∧ cs[3]? = some (.slice va vn vc) ∧ cs[4]? = some (.slice aa an ac) ∧ cs[5]? = some (.slice ba bn bc) ∧ cs[22]? = some (.int .i64 N)) := by rw [hcs]; exact opC_at hA8 hB8
  have HX8 : Hid (∀ w, Cel w W.heap.size 58 cs → w.rangeAt W.heap.size 6 (A8.map (Value.int .u32)) ∧ w.rangeAt W.heap.size 14 (B8.map (Value.int .u32))) := fun w h => by rw [hcs] at h; exact opC_rows hA8 hB8 h
  have AU : Hid (At X .u32 ua us) := hua.below bX
  have AV : Hid (At X .u32 va vs) := hva.below bX
  have AA : Hid (At X .u8 aa as') := haa.below bX
  have AB : Hid (At X .u8 ba bs) := hba.below bX
  have SU : Hid (Sl ua uc) := hus
  have SV : Hid (Sl va vc) := hvs
  have SA : Hid (Sl aa ac) := has
  have SB : Hid (Sl ba bc) := hbs
  have BX : Hid (Below W.heap.size W X) := bX
  clear hcs hua hva haa hba hus hvs has hbs bX hT hR
  have d0 : X.cell? ⟨W.heap.size, 0, none⟩ = some (.int .i64 8) := by rw [CX.out.cell]; exact HC.out.1
  have d2 : X.cell? ⟨W.heap.size, 2, none⟩ = some (.slice ua un uc) := by rw [CX.out.cell]; exact HC.out.2.1
  have d3 : X.cell? ⟨W.heap.size, 3, none⟩ = some (.slice va vn vc) := by rw [CX.out.cell]; exact HC.out.2.2.1
  have d4 : X.cell? ⟨W.heap.size, 4, none⟩ = some (.slice aa an ac) := by rw [CX.out.cell]; exact HC.out.2.2.2.1
  have d5 : X.cell? ⟨W.heap.size, 5, none⟩ = some (.slice ba bn bc) := by rw [CX.out.cell]; exact HC.out.2.2.2.2.1
  have d22 : X.cell? ⟨W.heap.size, 22, none⟩ = some (.int .i64 N) := by rw [CX.out.cell]; exact HC.out.2.2.2.2.2
  rw [hX] at d0 d2 d3 d4 d5 d22
  have sA : (Tryd.prog.info? 26).map (·.size) = some (A8.map (Value.int .u32)).length := by rw [List.length_map, hA8]; exact size26
  have r0 := HX8.out _ CX.out
  rw [hX] at r0
  have R6 : Hid ((W.alloc (Obj.cells cs.toArray 58)).rangeAt W.heap.size 6 (A8.map (Value.int .u32))) := r0.1
  clear r0
  have z26 := Tryd.sizeOf26
  have HN : Hid (N < 0 ∨ 8160 < N) := hN
  clear hN
  go_enter Tryd.func25, Tryd.ntmps25
  go_wp2_with (first | (refine wpList_load_mid rfl 26 _ rfl W.heap.size 6 rfl _ _ R6.out Tryd.underlying26 rfl sA ?_))
  rw [← hX]
  clear hX R6 d0 d2 d3 d4 d5 d22
  refine (rexpand_size X A8 aa an ac N HN.out).mono ?_
  rintro e w1 ⟨rfl, hb⟩
  have B1 : Hid (Below X.heap.size X w1) := hb
  clear hb
  have FX : Hid (∀ w, Below w1.heap.size w1 w → Below X.heap.size X w) := fun w h => B1.out.trans (h.mono B1.out.size)
  have HL : Hid (∀ x x', Below w1.heap.size w1 x → Below x.heap.size x x' → Below w1.heap.size w1 x') := fun x x' h h' => h.trans (h'.mono h.size)
  have CQ4 : Hid (∀ w, Below w1.heap.size w1 w → w.cell? ⟨W.heap.size, 4, none⟩ = some (.slice aa an ac)) := fun w h => by rw [(CX.out.on (FX.out w h)).cell]; exact HC.out.2.2.2.1
  have CQ22 : Hid (∀ w, Below w1.heap.size w1 w → w.cell? ⟨W.heap.size, 22, none⟩ = some (.int .i64 N)) := fun w h => by rw [(CX.out.on (FX.out w h)).cell]; exact HC.out.2.2.2.2.2
  have RQ : Hid (∀ w, Below w1.heap.size w1 w → w.rangeAt W.heap.size 6 (A8.map (Value.int .u32))) := fun w h => (HX8.out _ (CX.out.on (FX.out w h))).1
  go_wp2_with fail
  refine wp_region_held_drew (S := fun w => Below w1.heap.size w1 w) (by kernel_rfl) (Below.refl _ _).drew (fun hHeld => ?_)
  refine wpAnyH_take (i := 0) (oi := { dst := some 103, op := Op.fieldAddr 58 (Operand.tmp 1) 6, type := 0, pos := "law.go:69", after := #[], guard := none }) (v := .pointer (some ⟨W.heap.size, 6, none⟩)) rfl (by kernel_rfl) (by kernel_rfl) (by kernel_rfl) (fun _ _ _ h => h) (Or.inl ⟨by rfl, by intro w hSw; go_simp⟩) (by assumption) ?_
  simp only [Act.put, List.setIfInBounds_toArray, List.set_cons_zero, List.set_cons_succ]
  refine wpAnyH_take (i := 1) (oi := { dst := some 104, op := Op.load 26 (Operand.tmp 103), type := 26, pos := "law.go:69", after := #[{ on := 0, ground := Ground.data }], guard := none }) (v := .agg (A8.map (Value.int .u32)).toArray) rfl (by kernel_rfl) (by kernel_rfl) (by kernel_rfl) (fun _ _ _ h => h) (yieldsIf_load_mid (by rfl) _ _ rfl _ _ rfl _ _ (fun w hSw => RQ.out w hSw) Tryd.underlying26 rfl sA) (by assumption) ?_
  simp only [Act.put, List.setIfInBounds_toArray, List.set_cons_zero, List.set_cons_succ]
  refine wpAnyH_take (i := 2) (oi := { dst := some 105, op := Op.fieldAddr 58 (Operand.tmp 1) 4, type := 0, pos := "law.go:69", after := #[], guard := none }) (v := .pointer (some ⟨W.heap.size, 4, none⟩)) rfl (by kernel_rfl) (by kernel_rfl) (by kernel_rfl) (fun _ _ _ h => h) (Or.inl ⟨by rfl, by intro w hSw; go_simp⟩) (by assumption) ?_
  simp only [Act.put, List.setIfInBounds_toArray, List.set_cons_zero, List.set_cons_succ]
  refine wpAnyH_take (i := 3) (oi := { dst := some 106, op := Op.load 22 (Operand.tmp 105), type := 22, pos := "law.go:69", after := #[{ on := 2, ground := Ground.data }], guard := none }) (v := .slice aa an ac) rfl (by kernel_rfl) (by kernel_rfl) (by kernel_rfl) (fun _ _ _ h => h) (Or.inl ⟨by rfl, by intro w hSw; have hcc := CQ4.out w hSw; go_simp⟩) (by assumption) ?_
  simp only [Act.put, List.setIfInBounds_toArray, List.set_cons_zero, List.set_cons_succ]
  refine wpAnyH_take (i := 5) (oi := { dst := some 108, op := Op.fieldAddr 58 (Operand.tmp 1) 8, type := 0, pos := "law.go:69", after := #[], guard := none }) (v := .pointer (some ⟨W.heap.size, 22, none⟩)) rfl (by kernel_rfl) (by kernel_rfl) (by kernel_rfl) (fun _ _ _ h => h) (Or.inl ⟨by rfl, by intro w hSw; go_simp⟩) (by assumption) ?_
  simp only [Act.put, List.setIfInBounds_toArray, List.set_cons_zero, List.set_cons_succ]
  refine wpAnyH_take (i := 6) (oi := { dst := some 109, op := Op.load 3 (Operand.tmp 108), type := 3, pos := "law.go:69", after := #[{ on := 5, ground := Ground.data }], guard := none }) (v := .int .i64 N) rfl (by kernel_rfl) (by kernel_rfl) (by kernel_rfl) (fun _ _ _ h => h) (Or.inl ⟨by rfl, by intro w hSw; have hcc := CQ22.out w hSw; go_simp⟩) (by assumption) ?_
  simp only [Act.put, List.setIfInBounds_toArray, List.set_cons_zero, List.set_cons_succ]
  refine wpAnyH_ready (rs := [4]) (by kernel_rfl) (by simp) (AllReadyH.cons (o := { dst := some 107, op := Op.call { callee := Callee.value (Operand.func 8), args := #[Operand.tmp 106], argTypes := #[22] }, type := 22, pos := "law.go:69", after := #[{ on := 3, ground := Ground.data }], guard := none }) rfl (fun KQ hK => ?_) AllReadyH.nil)
  go_simp
  refine (bytes_own _ aa an ac as' hal (AA.out.below (FX.out _ (Below.refl _ _).drew)) SA.out (by omega)).mono ?_
  rintro e w3 ⟨v3, c3, rfl, h3, a3, s3, hb3⟩
  have B3 : Below w1.heap.size w1 w3 := HL.out _ _ (Below.refl _ _).drew hb3
  go_wp2_with fail
  refine hK.out _ _ B3 (fun hHeld => ?_)
  clear hK KQ
  try simp only [Act.put, List.setIfInBounds_toArray, List.set_cons_zero, List.set_cons_succ]
  refine wpAnyH_ready (rs := [7]) (by kernel_rfl) (by simp) (AllReadyH.cons (o := { dst := some 110, op := Op.call { callee := Callee.value (Operand.func 12), args := #[Operand.tmp 104, Operand.tmp 107, Operand.tmp 109], argTypes := #[26, 22, 3] }, type := 32, pos := "law.go:69", after := #[{ on := 1, ground := Ground.data }, { on := 4, ground := Ground.data }, { on := 6, ground := Ground.data }, { on := 4, ground := Ground.chain }], guard := none }) rfl (fun KQ hK => ?_) AllReadyH.nil)
  go_simp
  refine (expand_size _ A8 v3 an c3 N HN.out).mono ?_
  rintro e w4 ⟨rfl, hb4⟩
  have B4 : Below w1.heap.size w1 w4 := HL.out _ _ B3 hb4
  go_wp2_with fail
  refine hK.out _ _ B4 (fun hHeld => ?_)
  clear hK KQ
  try simp only [Act.put, List.setIfInBounds_toArray, List.set_cons_zero, List.set_cons_succ]
  refine wpAnyH_take (i := 8) (oi := { dst := some 102, op := Op.move (Operand.tmp 110), type := 32, pos := "law.go:69", after := #[{ on := 7, ground := Ground.data }], guard := none }) (v := .tuple #[.slice none 0 0, .int .i64 30]) rfl (by kernel_rfl) (by kernel_rfl) (by kernel_rfl) (fun _ _ _ h => h) (Or.inl ⟨by rfl, by intro w hSw; go_simp⟩) (by assumption) ?_
  simp only [Act.put, List.setIfInBounds_toArray, List.set_cons_zero, List.set_cons_succ]
  refine wpAnyH_take (i := 9) (oi := { dst := some 111, op := Op.extract (Operand.tmp 102) 0, type := 22, pos := "law.go:69", after := #[{ on := 8, ground := Ground.data }], guard := none }) (v := .slice none 0 0) rfl (by kernel_rfl) (by kernel_rfl) (by kernel_rfl) (fun _ _ _ h => h) (Or.inl ⟨by rfl, by intro w hSw; go_simp⟩) (by assumption) ?_
  simp only [Act.put, List.setIfInBounds_toArray, List.set_cons_zero, List.set_cons_succ]
  refine wpAnyH_take (i := 10) (oi := { dst := some 112, op := Op.extract (Operand.tmp 102) 1, type := 31, pos := "law.go:69", after := #[{ on := 8, ground := Ground.data }, { on := 11, ground := Ground.gcOnly Departure.lateStores }], guard := none }) (v := .int .i64 30) rfl (by kernel_rfl) (by kernel_rfl) (by kernel_rfl) (fun _ _ _ h => h) (Or.inl ⟨by rfl, by intro w hSw; go_simp⟩) (by assumption) ?_
  simp only [Act.put, List.setIfInBounds_toArray, List.set_cons_zero, List.set_cons_succ]
  refine wpAnyH_ready (rs := [11]) (by kernel_rfl) (by simp) (AllReadyH.cons (o := { dst := some 12, op := Op.assign (Operand.tmp 111), type := 22, pos := "law.go:69", after := #[{ on := 9, ground := Ground.data }, { on := 7, ground := Ground.chain }, { on := 0, ground := Ground.phase }, { on := 1, ground := Ground.phase }, { on := 2, ground := Ground.phase }, { on := 3, ground := Ground.phase }, { on := 4, ground := Ground.phase }, { on := 5, ground := Ground.phase }, { on := 6, ground := Ground.phase }, { on := 7, ground := Ground.phase }, { on := 8, ground := Ground.phase }, { on := 9, ground := Ground.phase }, { on := 10, ground := Ground.textOnly Departure.lateStores }], guard := none }) rfl (fun KQ hK => ?_) AllReadyH.nil)
  go_simp
  refine hK.out _ _ B4 (fun hHeld => ?_)
  clear hK KQ
  try simp only [Act.put, List.setIfInBounds_toArray, List.set_cons_zero, List.set_cons_succ]
  refine wpAnyH_ready (rs := [12]) (by kernel_rfl) (by simp) (AllReadyH.cons (o := { dst := some 13, op := Op.assign (Operand.tmp 112), type := 31, pos := "law.go:69", after := #[{ on := 10, ground := Ground.data }, { on := 11, ground := Ground.chain }, { on := 0, ground := Ground.phase }, { on := 1, ground := Ground.phase }, { on := 2, ground := Ground.phase }, { on := 3, ground := Ground.phase }, { on := 4, ground := Ground.phase }, { on := 5, ground := Ground.phase }, { on := 6, ground := Ground.phase }, { on := 7, ground := Ground.phase }, { on := 8, ground := Ground.phase }, { on := 9, ground := Ground.phase }, { on := 10, ground := Ground.phase }, { on := 11, ground := Ground.phase }], guard := none }) rfl (fun KQ hK => ?_) AllReadyH.nil)
  go_simp
  refine hK.out _ _ B4 (fun hHeld => ?_)
  clear hK KQ
  try simp only [Act.put, List.setIfInBounds_toArray, List.set_cons_zero, List.set_cons_succ]
  refine wpAnyH_done (by kernel_rfl) ?_ _
  have cv1 := run_convert_bytes_nil (P := Tryd.prog) w4 22 5 Tryd.underlying22 Tryd.underlying5 0 0 9 Tryd.underlying9
  have HE : Hid (Below W.heap.size W w4) := BX.out.trans ((FX.out _ B4).mono (by omega))
  clear hHeld B3 B4 hb3 hb4 a3 s3 h3
  go_wp2_with fail
  go_ret
  exact ⟨rfl, HE.out⟩
theorem plain_any (W : World) (hT : Tabs W) (hR : TabR W) (kd hh : Int) (ua : Option Addr) (un uc : Nat) (us : List Int) (va : Option Addr) (vn vc : Nat) (vs : List Int) (aa : Option Addr) (an ac : Nat) (as' : List Int) (ba : Option Addr) (bn bc : Nat) (bs : List Int) (A8 B8 : List Int) (N : Int)
    (h : OpIn W ua un uc us va vn vc vs aa an ac as' ba bn bc bs A8 B8) :
    Calls Tryd.prog 25 #[.agg (opC kd hh ua un uc va vn vc aa an ac ba bn bc A8 B8 N).toArray] W fun e W' => e = .returned (.bool true) ∧ Below W.heap.size W W' := by
  by_cases k1 : kd = 1
  · subst k1; exact plain_1 W hT hR hh ua un uc us va vn vc vs aa an ac as' ba bn bc bs A8 B8 N h
  by_cases k2 : kd = 2
  · subst k2; exact plain_2 W hT hR hh ua un uc us va vn vc vs aa an ac as' ba bn bc bs A8 B8 N h
  by_cases k6 : kd = 6
  · subst k6; exact plain_6 W hT hR hh ua un uc us va vn vc vs aa an ac as' ba bn bc bs A8 B8 N h
  by_cases k7 : kd = 7
  · subst k7; exact plain_7 W hT hR hh ua un uc us va vn vc vs aa an ac as' ba bn bc bs A8 B8 N h
  by_cases k8 : kd = 8
  · subst k8
    by_cases hN : 0 ≤ N ∧ N ≤ 8160
    · exact plain_8ok W hT hR hh ua un uc us va vn vc vs aa an ac as' ba bn bc bs A8 B8 N h hN
    · exact plain_8no W hT hR hh ua un uc us va vn vc vs aa an ac as' ba bn bc bs A8 B8 N h (by omega)
  exact plain_no W kd hh ua un uc va vn vc aa an ac ba bn bc A8 B8 N ⟨k1, k2, k6, k7, k8⟩
theorem numbers_any (W : World) : Calls Tryd.prog 23 #[] W fun e W' => e = .returned (.bool true) ∧ W = W' := by
  go_enter Tryd.func23, Tryd.ntmps23
  go_wp2
  go_ret
  exact ⟨rfl, rfl⟩
end Go.Proofs.YtialckmoigcdeaaDoor
