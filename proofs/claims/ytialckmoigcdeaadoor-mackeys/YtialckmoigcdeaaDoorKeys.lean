/- MacKeys, the walk. -/
import Derived.Test.YtialckmoigcdeaaDoorExp
import Derived.Test.YtialckmoigcdeaaDoorP1
import Derived.Deep.DeepCutAuto
namespace Go.Proofs.YtialckmoigcdeaaDoor
open Go.RowKit


structure KBase (W w : World) (gB g3 : Nat) (cs : List Value) (KY : List Int) : Prop where
  below : Below W.heap.size W w
  tabs : Tabs w
  box : Cel w gB 24 cs
  kb : Blk w g3 .u32 26 KY
theorem KBase.on {W w w' : World} {gB g3 : Nat} {cs : List Value} {KY : List Int} (h : KBase W w gB g3 cs KY) (hb : Below w.heap.size w w') : KBase W w' gB g3 cs KY := ⟨h.below.trans (hb.mono h.below.size), h.tabs.on hb, h.box.below hb h.box.lt, h.kb.on hb⟩
theorem conv_at (w : World) (ao : Option Addr) (n c : Nat) (xs : List Int) (hx : xs.length = n) (hat : At w .u8 ao xs) (hf : ao = none ∨ ∃ b off, ao = some ⟨b, off, none⟩) : (convert 22 9 (.slice ao n c)).run Tryd.prog w = .ok (.string (strOfNums xs)) w := by
  rcases hf with rfl | ⟨b, off, rfl⟩
  · have h0 : xs = [] := by
      rcases hat with h0 | ⟨b, off, h1, _⟩
      · exact h0
      · cases h1
    subst h0
    exact run_convert_bytes_nil w 22 5 Tryd.underlying22 Tryd.underlying5 n c 9 Tryd.underlying9
  · refine run_convert_bytes_arg w 22 5 Tryd.underlying22 Tryd.underlying5 b off n c xs hx (fun i hi => ?_) 9 Tryd.underlying9
    rcases hat with h0 | ⟨b', off', h1, _, hr⟩
    · rw [h0] at hx; simp at hx; omega
    · cases h1
      exact hr i (by omega)
theorem OwnB.form {W w : World} {vo : Option Addr} {n : Nat} {L : List Int} (h : OwnB W w vo n L) : vo = none ∨ ∃ b off, vo = some ⟨b, off, none⟩ := by
  rcases h.2 with ⟨_, h0⟩ | ⟨g, cur, h0, _⟩
  · exact .inl h0
  · exact .inr ⟨g, 0, h0⟩
theorem outT_more (k info : List Int) (a : Nat) : ∀ d, (outT k info (a + d)).take (32 * a) = outT k info a
  | 0 => List.take_of_length_le (by rw [outT_length]; exact Nat.le_refl _)
  | d + 1 => by
    show (outT k info (a + d) ++ tk k info (a + d + 1)).take (32 * a) = _
    rw [List.take_append_of_le_length (by rw [outT_length]; omega)]
    exact outT_more k info a d
theorem okm_take (k info : List Int) (n m : Nat) (h : m ≤ n) : (okm k info n).take m = okm k info m := by
  unfold okm
  rw [List.take_take, Nat.min_eq_left h]
  have e := outT_more k info (rounds32 m) (rounds32 n - rounds32 m)
  have hr : rounds32 m ≤ rounds32 n := by unfold rounds32; omega
  rw [show rounds32 m + (rounds32 n - rounds32 m) = rounds32 n by omega] at e
  rw [← e, List.take_take]
  congr 1
  unfold rounds32
  omega
theorem okm_at (k info : List Int) (n t j : Nat) (hj : j < 32) (h : 32 * t + j < n) : (okm k info n).getD (32 * t + j) 0 = (tk k info (t + 1)).getD j 0 := by
  have hr : t + 1 ≤ rounds32 n := by unfold rounds32; omega
  unfold okm
  rw [getD_take h]
  have e := outT_more k info (t + 1) (rounds32 n - (t + 1))
  rw [show t + 1 + (rounds32 n - (t + 1)) = rounds32 n by omega] at e
  have e2 : (outT k info (rounds32 n)).getD (32 * t + j) 0 = ((outT k info (rounds32 n)).take (32 * (t + 1))).getD (32 * t + j) 0 := (getD_take (by omega)).symm
  rw [e2, e]
  show (outT k info t ++ tk k info (t + 1)).getD (32 * t + j) 0 = _
  have hl := outT_length k info t
  rw [List.getD_eq_getElem?_getD, List.getElem?_append_right (by omega), hl, show 32 * t + j - 32 * t = j by omega, ← List.getD_eq_getElem?_getD]

attribute [-simp] Tryd.isAgg26 Tryd.sizeOf26 Tryd.zeroValue26
set_option maxRecDepth 20000 in
set_option maxHeartbeats 4000000 in
theorem macKeys_any (W : World) (hT : Tabs W) (sa : Option Addr) (sn sc : Nat) (ss : List Int) (hsl : ss.length = sn) (ps : Bts ss) (hsa : At W .u8 sa ss) (hss : Sl sa sc) (hsc : sn ≤ sc) (hsn : sn ≤ 140737488351232)
    (ea : Option Addr) (en ec : Nat) (es : List Int) (hel : es.length = en) (pe : Bts es) (hea : At W .u8 ea es) (hes : Sl ea ec) (hen : en ≤ 140737488351232)
    (ia : Option Addr) (il ic : Nat) (is : List Int) (hil : is.length = il) (pi : Bts is) (hia : At W .u8 ia is) (his : Sl ia ic) (hin : il ≤ 140737488351232) (N M : Int) :
    Calls Tryd.prog 3 #[.agg #[.slice sa sn sc, .slice ea en ec, .slice ia il ic, .int .i64 N, .int .i64 M]] W fun e W' => e = .returned (.bool true) ∧ Below W.heap.size W W' := by
  obtain ⟨i0, hi, hz0, hz1, hz2⟩ := info_parts Tryd.info5
  obtain ⟨V, hV⟩ : ∃ V : List Int, V = List.replicate 8 0 := ⟨_, rfl⟩
  have hVl : V.length = 8 := by rw [hV]; simp
  have hv : ∀ w, (zeroValue 26).run Tryd.prog w = .ok (.agg (V.map (Value.int .u32)).toArray) w := fun w => by rw [Tryd.zeroValue26, hV]; rfl
  clear hV
  obtain ⟨X, hX⟩ : ∃ X, X = W.alloc (Obj.cells #[.slice sa sn sc, .slice ea en ec, .slice ia il ic, .int .i64 N, .int .i64 M] 24) := ⟨_, rfl⟩
  have CX : Hid (Cel X W.heap.size 24 [.slice sa sn sc, .slice ea en ec, .slice ia il ic, .int .i64 N, .int .i64 M]) := by rw [hX]; exact heap_alloc_new _ _
  have HB : Hid (Below W.heap.size W X) := by rw [hX]; exact below_one _ _
  have TX : Hid (Tabs X) := hT.on HB.out
  have hsz := hT.sz
  obtain ⟨cs, hcs⟩ : ∃ cs : List Value, cs = [.slice sa sn sc, .slice ea en ec, .slice ia il ic, .int .i64 N, .int .i64 M] := ⟨_, rfl⟩
  have HC : Hid (cs[0]? = some (.slice sa sn sc) ∧ cs[1]? = some (.slice ea en ec) ∧ cs[2]? = some (.slice ia il ic) ∧ cs[3]? = some (.int .i64 N) ∧ cs[4]? = some (.int .i64 M)) := by rw [hcs]; exact ⟨rfl, rfl, rfl, rfl, rfl⟩
  rw [← hcs] at CX
  clear hcs
  have AS : Hid (∀ w, Below W.heap.size W w → At w .u8 sa ss) := fun w hb => hsa.below hb
  have AE : Hid (∀ w, Below W.heap.size W w → At w .u8 ea es) := fun w hb => hea.below hb
  have AI : Hid (∀ w, Below W.heap.size W w → At w .u8 ia is) := fun w hb => hia.below hb
  have S1 : Hid (Sl sa sc) := hss
  have S2 : Hid (Sl ea ec) := hes
  have S3 : Hid (Sl ia ic) := his
  obtain ⟨KY, hKY⟩ : ∃ KY, hmac ss es = KY := ⟨_, rfl⟩
  have HK : Hid (hmac ss es = KY) := hKY
  have hKl : KY.length = 8 := by rw [← hKY]; exact hmac_length _ _
  have hKw : Wds KY := by rw [← hKY]; exact sumB_wds _
  have hsK : (Tryd.prog.info? 26).map (·.size) = some KY.length := by rw [hKl]; exact size26
  clear hT hsa hea hia hss hes his hKY
  have zX := CX.out.lt
  have FX : Hid (∀ w, Below X.heap.size X w → Tabs w ∧ Below W.heap.size W w ∧ Cel w W.heap.size 24 cs) := fun w hb => ⟨TX.out.on hb, HB.out.trans (hb.mono (by omega)), CX.out.below hb zX⟩
  have HLX : Hid (∀ w w', Below X.heap.size X w → Below w.heap.size w w' → Below X.heap.size X w') := fun w w' h h' => h.trans (h'.mono h.size)
  go_enter Tryd.func3, Tryd.ntmps3
  go_upto_region 1 with fail
  rw [← hX]
  clear hX
  go_cut [3] (fun v w => ∃ g, v = .pointer (some ⟨g, 0, none⟩) ∧ X.heap.size ≤ g ∧ Blk w g .u32 26 KY ∧ Below X.heap.size X w)
  case first =>
    have CB0 : Hid (∀ w, Below X.heap.size X w → w.cell? ⟨W.heap.size, 0, none⟩ = some (.slice sa sn sc)) := fun w hb => by rw [(FX.out w hb).2.2.cell]; exact HC.out.1
    have CB1 : Hid (∀ w, Below X.heap.size X w → w.cell? ⟨W.heap.size, 1, none⟩ = some (.slice ea en ec)) := fun w hb => by rw [(FX.out w hb).2.2.cell]; exact HC.out.2.1
    refine wp_region_held_drew (S := fun w => Below X.heap.size X w) (by kernel_rfl) (Below.refl _ _).drew (fun hHeld => ?_)
    refine wpAnyH_take (i := 0) (oi := { dst := some 16, op := Op.fieldAddr 24 (Operand.tmp 1) 0, type := 0, pos := "outright.go:91", after := #[], guard := none }) (v := .pointer (some ⟨W.heap.size, 0, none⟩)) rfl (by kernel_rfl) (by kernel_rfl) (by kernel_rfl) (fun _ _ _ h => h) (Or.inl ⟨by rfl, by intro w hSw; go_simp⟩) (by assumption) ?_
    simp only [Act.put, List.setIfInBounds_toArray, List.set_cons_zero, List.set_cons_succ]
    refine wpAnyH_take (i := 3) (oi := { dst := some 19, op := Op.fieldAddr 24 (Operand.tmp 1) 1, type := 0, pos := "outright.go:91", after := #[], guard := none }) (v := .pointer (some ⟨W.heap.size, 1, none⟩)) rfl (by kernel_rfl) (by kernel_rfl) (by kernel_rfl) (fun _ _ _ h => h) (Or.inl ⟨by rfl, by intro w hSw; go_simp⟩) (by assumption) ?_
    simp only [Act.put, List.setIfInBounds_toArray, List.set_cons_zero, List.set_cons_succ]
    refine wpAnyH_take (i := 1) (oi := { dst := some 17, op := Op.load 22 (Operand.tmp 16), type := 22, pos := "outright.go:91", after := #[{ on := 0, ground := Ground.data }], guard := none }) (v := .slice sa sn sc) rfl (by kernel_rfl) (by kernel_rfl) (by kernel_rfl) (fun _ _ _ h => h) (Or.inl ⟨by rfl, by intro w hSw; have hcc := CB0.out w hSw; go_simp⟩) (by assumption) ?_
    simp only [Act.put, List.setIfInBounds_toArray, List.set_cons_zero, List.set_cons_succ]
    refine wpAnyH_take (i := 4) (oi := { dst := some 20, op := Op.load 22 (Operand.tmp 19), type := 22, pos := "outright.go:91", after := #[{ on := 3, ground := Ground.data }], guard := none }) (v := .slice ea en ec) rfl (by kernel_rfl) (by kernel_rfl) (by kernel_rfl) (fun _ _ _ h => h) (Or.inl ⟨by rfl, by intro w hSw; have hcc := CB1.out w hSw; go_simp⟩) (by assumption) ?_
    simp only [Act.put, List.setIfInBounds_toArray, List.set_cons_zero, List.set_cons_succ]
    have Bx0 : Below X.heap.size X X.drew := (Below.refl _ _).drew
    generalize X.drew = x0 at *
    refine wpAnyH_ready (rs := [2, 7]) (by kernel_rfl) (by simp) (AllReadyH.cons (o := { dst := some 18, op := Op.call { callee := Callee.value (Operand.func 8), args := #[Operand.tmp 17], argTypes := #[22] }, type := 22, pos := "outright.go:91", after := #[{ on := 1, ground := Ground.data }], guard := none }) rfl (fun KQ hK => ?_) (AllReadyH.cons (o := { dst := some 3, op := Op.alloc 26, type := 0, pos := "outright.go:91", after := #[], guard := none }) rfl (fun KQ hK => ?_) AllReadyH.nil))
    · go_simp
      refine (bytes_own _ sa sn sc ss hsl (AS.out _ (FX.out _ Bx0).2.1) S1.out (by omega)).mono ?_
      rintro e w5 ⟨vo5, vc5, rfl, h5, a5, s5, hb5⟩
      have B5 : Below X.heap.size X w5 := HLX.out _ _ Bx0 hb5
      go_wp2_with fail
      refine hK.out _ _ B5 (fun hHeld => ?_)
      clear hK KQ
      try simp only [Act.put, List.setIfInBounds_toArray, List.set_cons_zero, List.set_cons_succ]
      refine wpAnyH_ready (rs := [5, 7]) (by kernel_rfl) (by simp) (AllReadyH.cons (o := { dst := some 21, op := Op.call { callee := Callee.value (Operand.func 8), args := #[Operand.tmp 20], argTypes := #[22] }, type := 22, pos := "outright.go:91", after := #[{ on := 4, ground := Ground.data }, { on := 2, ground := Ground.chain }], guard := none }) rfl (fun KQ hK => ?_) (AllReadyH.cons (o := { dst := some 3, op := Op.alloc 26, type := 0, pos := "outright.go:91", after := #[], guard := none }) rfl (fun KQ hK => ?_) AllReadyH.nil))
      · go_simp
        refine (bytes_own _ ea en ec es hel (AE.out _ (FX.out _ B5).2.1) S2.out (by omega)).mono ?_
        rintro e w6 ⟨vo6, vc6, rfl, h6, a6, s6, hb6⟩
        have B6 : Below X.heap.size X w6 := HLX.out _ _ B5 hb6
        have a5_6 := a5.below hb6
        go_wp2_with fail
        refine hK.out _ _ B6 (fun hHeld => ?_)
        clear hK KQ
        try simp only [Act.put, List.setIfInBounds_toArray, List.set_cons_zero, List.set_cons_succ]
        refine wpAnyH_ready (rs := [6, 7]) (by kernel_rfl) (by simp) (AllReadyH.cons (o := { dst := some 22, op := Op.call { callee := Callee.value (Operand.func 7), args := #[Operand.tmp 18, Operand.tmp 21], argTypes := #[22, 22] }, type := 26, pos := "outright.go:91", after := #[{ on := 2, ground := Ground.data }, { on := 5, ground := Ground.data }, { on := 5, ground := Ground.chain }], guard := none }) rfl (fun KQ hK => ?_) (AllReadyH.cons (o := { dst := some 3, op := Op.alloc 26, type := 0, pos := "outright.go:91", after := #[], guard := none }) rfl (fun KQ hK => ?_) AllReadyH.nil))
        · go_simp
          refine (extract_any _ (FX.out _ B6).1 vo5 sn vc5 ss hsl ps a5_6 h5 (by omega) vo6 en vc6 es hel pe a6 s6 (by omega)).mono ?_
          rintro e w7 ⟨rfl, hb7⟩
          rw [HK.out]
          have B7 : Below X.heap.size X w7 := HLX.out _ _ B6 hb7
          go_wp2_with fail
          refine hK.out _ _ B7 (fun hHeld => ?_)
          clear hK KQ
          try simp only [Act.put, List.setIfInBounds_toArray, List.set_cons_zero, List.set_cons_succ]
          refine wpAnyH_ready (rs := [7]) (by kernel_rfl) (by simp) (AllReadyH.cons (o := { dst := some 3, op := Op.alloc 26, type := 0, pos := "outright.go:91", after := #[], guard := none }) rfl (fun KQ hK => ?_) AllReadyH.nil)
          go_simp
          have Bal : Below X.heap.size X (w7.alloc (Obj.cells (List.map (Value.int IntKind.u32) V).toArray 26)) := B7.alloc B7.size _
          have BAl : Hid (Blk (w7.alloc (Obj.cells (List.map (Value.int IntKind.u32) V).toArray 26)) w7.heap.size .u32 26 V) := Blk.new w7 .u32 26 V
          have zA : X.heap.size ≤ w7.heap.size := B7.size
          refine hK.out _ _ Bal (fun hHeld => ?_)
          clear hK KQ
          try simp only [Act.put, List.setIfInBounds_toArray, List.set_cons_zero, List.set_cons_succ]
          generalize w7.alloc (Obj.cells (List.map (Value.int IntKind.u32) V).toArray 26) = wal at *
          generalize w7.heap.size = gA at *
          refine wpAnyH_ready (rs := [8]) (by kernel_rfl) (by simp) (AllReadyH.cons (o := { dst := none, op := Op.store 26 (Operand.tmp 3) (Operand.tmp 22), type := 0, pos := "outright.go:91", after := #[{ on := 7, ground := Ground.data }, { on := 6, ground := Ground.data }, { on := 6, ground := Ground.chain }, { on := 0, ground := Ground.phase }, { on := 1, ground := Ground.phase }, { on := 2, ground := Ground.phase }, { on := 3, ground := Ground.phase }, { on := 4, ground := Ground.phase }, { on := 5, ground := Ground.phase }, { on := 6, ground := Ground.phase }, { on := 7, ground := Ground.phase }], guard := none }) rfl (fun KQ hK => ?_) AllReadyH.nil)
          rw [if_pos (by rfl)]
          refine wp_store_row8 26 _ _ rfl gA KY rfl rfl BAl.out (by rw [hVl]; exact size26) (by rw [hVl, hKl]) ?_
          refine hK.out _ _ (Below.trans Bal ((but_setRow _ _ _).below zA Bal.size)) (fun hHeld => ?_)
          clear hK KQ
          simp only [Act.put]
          refine wpAnyH_done (by kernel_rfl) ?_ _
          have HEND : Hid (Below X.heap.size X (wal.setRow gA (List.map (Value.int IntKind.u32) KY).toArray)) := (Below.trans Bal ((but_setRow _ _ _).below zA Bal.size))
          clear hHeld
          go_wp2_with fail
          go_meet
          exact ⟨gA, rfl, zA, BAl.out.setRow _, HEND.out⟩
        · go_simp
          have Bal : Below X.heap.size X (w6.alloc (Obj.cells (List.map (Value.int IntKind.u32) V).toArray 26)) := B6.alloc B6.size _
          have BAl : Hid (Blk (w6.alloc (Obj.cells (List.map (Value.int IntKind.u32) V).toArray 26)) w6.heap.size .u32 26 V) := Blk.new w6 .u32 26 V
          have zA : X.heap.size ≤ w6.heap.size := B6.size
          have a5_l := a5_6.below (below_one w6 (Obj.cells (List.map (Value.int IntKind.u32) V).toArray 26))
          have a6_l := a6.below (below_one w6 (Obj.cells (List.map (Value.int IntKind.u32) V).toArray 26))
          refine hK.out _ _ Bal (fun hHeld => ?_)
          clear hK KQ
          try simp only [Act.put, List.setIfInBounds_toArray, List.set_cons_zero, List.set_cons_succ]
          generalize w6.alloc (Obj.cells (List.map (Value.int IntKind.u32) V).toArray 26) = wal at *
          generalize w6.heap.size = gA at *
          refine wpAnyH_ready (rs := [6]) (by kernel_rfl) (by simp) (AllReadyH.cons (o := { dst := some 22, op := Op.call { callee := Callee.value (Operand.func 7), args := #[Operand.tmp 18, Operand.tmp 21], argTypes := #[22, 22] }, type := 26, pos := "outright.go:91", after := #[{ on := 2, ground := Ground.data }, { on := 5, ground := Ground.data }, { on := 5, ground := Ground.chain }], guard := none }) rfl (fun KQ hK => ?_) AllReadyH.nil)
          go_simp
          refine (extract_any _ (FX.out _ Bal).1 vo5 sn vc5 ss hsl ps a5_l h5 (by omega) vo6 en vc6 es hel pe a6_l s6 (by omega)).mono ?_
          rintro e w7 ⟨rfl, hb7⟩
          rw [HK.out]
          have B7 : Below X.heap.size X w7 := HLX.out _ _ Bal hb7
          have BA_w7 : Hid (Blk w7 gA .u32 26 V) := BAl.out.on hb7
          go_wp2_with fail
          refine hK.out _ _ B7 (fun hHeld => ?_)
          clear hK KQ
          try simp only [Act.put, List.setIfInBounds_toArray, List.set_cons_zero, List.set_cons_succ]
          refine wpAnyH_ready (rs := [8]) (by kernel_rfl) (by simp) (AllReadyH.cons (o := { dst := none, op := Op.store 26 (Operand.tmp 3) (Operand.tmp 22), type := 0, pos := "outright.go:91", after := #[{ on := 7, ground := Ground.data }, { on := 6, ground := Ground.data }, { on := 6, ground := Ground.chain }, { on := 0, ground := Ground.phase }, { on := 1, ground := Ground.phase }, { on := 2, ground := Ground.phase }, { on := 3, ground := Ground.phase }, { on := 4, ground := Ground.phase }, { on := 5, ground := Ground.phase }, { on := 6, ground := Ground.phase }, { on := 7, ground := Ground.phase }], guard := none }) rfl (fun KQ hK => ?_) AllReadyH.nil)
          rw [if_pos (by rfl)]
          refine wp_store_row8 26 _ _ rfl gA KY rfl rfl BA_w7.out (by rw [hVl]; exact size26) (by rw [hVl, hKl]) ?_
          refine hK.out _ _ (Below.trans B7 ((but_setRow _ _ _).below zA B7.size)) (fun hHeld => ?_)
          clear hK KQ
          simp only [Act.put]
          refine wpAnyH_done (by kernel_rfl) ?_ _
          have HEND : Hid (Below X.heap.size X (w7.setRow gA (List.map (Value.int IntKind.u32) KY).toArray)) := (Below.trans B7 ((but_setRow _ _ _).below zA B7.size))
          clear hHeld
          go_wp2_with fail
          go_meet
          exact ⟨gA, rfl, zA, BA_w7.out.setRow _, HEND.out⟩
      · go_simp
        have Bal : Below X.heap.size X (w5.alloc (Obj.cells (List.map (Value.int IntKind.u32) V).toArray 26)) := B5.alloc B5.size _
        have BAl : Hid (Blk (w5.alloc (Obj.cells (List.map (Value.int IntKind.u32) V).toArray 26)) w5.heap.size .u32 26 V) := Blk.new w5 .u32 26 V
        have zA : X.heap.size ≤ w5.heap.size := B5.size
        have a5_l := a5.below (below_one w5 (Obj.cells (List.map (Value.int IntKind.u32) V).toArray 26))
        refine hK.out _ _ Bal (fun hHeld => ?_)
        clear hK KQ
        try simp only [Act.put, List.setIfInBounds_toArray, List.set_cons_zero, List.set_cons_succ]
        generalize w5.alloc (Obj.cells (List.map (Value.int IntKind.u32) V).toArray 26) = wal at *
        generalize w5.heap.size = gA at *
        refine wpAnyH_ready (rs := [5]) (by kernel_rfl) (by simp) (AllReadyH.cons (o := { dst := some 21, op := Op.call { callee := Callee.value (Operand.func 8), args := #[Operand.tmp 20], argTypes := #[22] }, type := 22, pos := "outright.go:91", after := #[{ on := 4, ground := Ground.data }, { on := 2, ground := Ground.chain }], guard := none }) rfl (fun KQ hK => ?_) AllReadyH.nil)
        go_simp
        refine (bytes_own _ ea en ec es hel (AE.out _ (FX.out _ Bal).2.1) S2.out (by omega)).mono ?_
        rintro e w6 ⟨vo6, vc6, rfl, h6, a6, s6, hb6⟩
        have B6 : Below X.heap.size X w6 := HLX.out _ _ Bal hb6
        have a5_6 := a5_l.below hb6
        have BA_w6 : Hid (Blk w6 gA .u32 26 V) := BAl.out.on hb6
        go_wp2_with fail
        refine hK.out _ _ B6 (fun hHeld => ?_)
        clear hK KQ
        try simp only [Act.put, List.setIfInBounds_toArray, List.set_cons_zero, List.set_cons_succ]
        refine wpAnyH_ready (rs := [6]) (by kernel_rfl) (by simp) (AllReadyH.cons (o := { dst := some 22, op := Op.call { callee := Callee.value (Operand.func 7), args := #[Operand.tmp 18, Operand.tmp 21], argTypes := #[22, 22] }, type := 26, pos := "outright.go:91", after := #[{ on := 2, ground := Ground.data }, { on := 5, ground := Ground.data }, { on := 5, ground := Ground.chain }], guard := none }) rfl (fun KQ hK => ?_) AllReadyH.nil)
        go_simp
        refine (extract_any _ (FX.out _ B6).1 vo5 sn vc5 ss hsl ps a5_6 h5 (by omega) vo6 en vc6 es hel pe a6 s6 (by omega)).mono ?_
        rintro e w7 ⟨rfl, hb7⟩
        rw [HK.out]
        have B7 : Below X.heap.size X w7 := HLX.out _ _ B6 hb7
        have BA_w7 : Hid (Blk w7 gA .u32 26 V) := BA_w6.out.on hb7
        go_wp2_with fail
        refine hK.out _ _ B7 (fun hHeld => ?_)
        clear hK KQ
        try simp only [Act.put, List.setIfInBounds_toArray, List.set_cons_zero, List.set_cons_succ]
        refine wpAnyH_ready (rs := [8]) (by kernel_rfl) (by simp) (AllReadyH.cons (o := { dst := none, op := Op.store 26 (Operand.tmp 3) (Operand.tmp 22), type := 0, pos := "outright.go:91", after := #[{ on := 7, ground := Ground.data }, { on := 6, ground := Ground.data }, { on := 6, ground := Ground.chain }, { on := 0, ground := Ground.phase }, { on := 1, ground := Ground.phase }, { on := 2, ground := Ground.phase }, { on := 3, ground := Ground.phase }, { on := 4, ground := Ground.phase }, { on := 5, ground := Ground.phase }, { on := 6, ground := Ground.phase }, { on := 7, ground := Ground.phase }], guard := none }) rfl (fun KQ hK => ?_) AllReadyH.nil)
        rw [if_pos (by rfl)]
        refine wp_store_row8 26 _ _ rfl gA KY rfl rfl BA_w7.out (by rw [hVl]; exact size26) (by rw [hVl, hKl]) ?_
        refine hK.out _ _ (Below.trans B7 ((but_setRow _ _ _).below zA B7.size)) (fun hHeld => ?_)
        clear hK KQ
        simp only [Act.put]
        refine wpAnyH_done (by kernel_rfl) ?_ _
        have HEND : Hid (Below X.heap.size X (w7.setRow gA (List.map (Value.int IntKind.u32) KY).toArray)) := (Below.trans B7 ((but_setRow _ _ _).below zA B7.size))
        clear hHeld
        go_wp2_with fail
        go_meet
        exact ⟨gA, rfl, zA, BA_w7.out.setRow _, HEND.out⟩
    · go_simp
      have Bal : Below X.heap.size X (x0.alloc (Obj.cells (List.map (Value.int IntKind.u32) V).toArray 26)) := Bx0.alloc Bx0.size _
      have BAl : Hid (Blk (x0.alloc (Obj.cells (List.map (Value.int IntKind.u32) V).toArray 26)) x0.heap.size .u32 26 V) := Blk.new x0 .u32 26 V
      have zA : X.heap.size ≤ x0.heap.size := Bx0.size
      refine hK.out _ _ Bal (fun hHeld => ?_)
      clear hK KQ
      try simp only [Act.put, List.setIfInBounds_toArray, List.set_cons_zero, List.set_cons_succ]
      generalize x0.alloc (Obj.cells (List.map (Value.int IntKind.u32) V).toArray 26) = wal at *
      generalize x0.heap.size = gA at *
      refine wpAnyH_ready (rs := [2]) (by kernel_rfl) (by simp) (AllReadyH.cons (o := { dst := some 18, op := Op.call { callee := Callee.value (Operand.func 8), args := #[Operand.tmp 17], argTypes := #[22] }, type := 22, pos := "outright.go:91", after := #[{ on := 1, ground := Ground.data }], guard := none }) rfl (fun KQ hK => ?_) AllReadyH.nil)
      go_simp
      refine (bytes_own _ sa sn sc ss hsl (AS.out _ (FX.out _ Bal).2.1) S1.out (by omega)).mono ?_
      rintro e w5 ⟨vo5, vc5, rfl, h5, a5, s5, hb5⟩
      have B5 : Below X.heap.size X w5 := HLX.out _ _ Bal hb5
      have BA_w5 : Hid (Blk w5 gA .u32 26 V) := BAl.out.on hb5
      go_wp2_with fail
      refine hK.out _ _ B5 (fun hHeld => ?_)
      clear hK KQ
      try simp only [Act.put, List.setIfInBounds_toArray, List.set_cons_zero, List.set_cons_succ]
      refine wpAnyH_ready (rs := [5]) (by kernel_rfl) (by simp) (AllReadyH.cons (o := { dst := some 21, op := Op.call { callee := Callee.value (Operand.func 8), args := #[Operand.tmp 20], argTypes := #[22] }, type := 22, pos := "outright.go:91", after := #[{ on := 4, ground := Ground.data }, { on := 2, ground := Ground.chain }], guard := none }) rfl (fun KQ hK => ?_) AllReadyH.nil)
      go_simp
      refine (bytes_own _ ea en ec es hel (AE.out _ (FX.out _ B5).2.1) S2.out (by omega)).mono ?_
      rintro e w6 ⟨vo6, vc6, rfl, h6, a6, s6, hb6⟩
      have B6 : Below X.heap.size X w6 := HLX.out _ _ B5 hb6
      have a5_6 := a5.below hb6
      have BA_w6 : Hid (Blk w6 gA .u32 26 V) := BA_w5.out.on hb6
      go_wp2_with fail
      refine hK.out _ _ B6 (fun hHeld => ?_)
      clear hK KQ
      try simp only [Act.put, List.setIfInBounds_toArray, List.set_cons_zero, List.set_cons_succ]
      refine wpAnyH_ready (rs := [6]) (by kernel_rfl) (by simp) (AllReadyH.cons (o := { dst := some 22, op := Op.call { callee := Callee.value (Operand.func 7), args := #[Operand.tmp 18, Operand.tmp 21], argTypes := #[22, 22] }, type := 26, pos := "outright.go:91", after := #[{ on := 2, ground := Ground.data }, { on := 5, ground := Ground.data }, { on := 5, ground := Ground.chain }], guard := none }) rfl (fun KQ hK => ?_) AllReadyH.nil)
      go_simp
      refine (extract_any _ (FX.out _ B6).1 vo5 sn vc5 ss hsl ps a5_6 h5 (by omega) vo6 en vc6 es hel pe a6 s6 (by omega)).mono ?_
      rintro e w7 ⟨rfl, hb7⟩
      rw [HK.out]
      have B7 : Below X.heap.size X w7 := HLX.out _ _ B6 hb7
      have BA_w7 : Hid (Blk w7 gA .u32 26 V) := BA_w6.out.on hb7
      go_wp2_with fail
      refine hK.out _ _ B7 (fun hHeld => ?_)
      clear hK KQ
      try simp only [Act.put, List.setIfInBounds_toArray, List.set_cons_zero, List.set_cons_succ]
      refine wpAnyH_ready (rs := [8]) (by kernel_rfl) (by simp) (AllReadyH.cons (o := { dst := none, op := Op.store 26 (Operand.tmp 3) (Operand.tmp 22), type := 0, pos := "outright.go:91", after := #[{ on := 7, ground := Ground.data }, { on := 6, ground := Ground.data }, { on := 6, ground := Ground.chain }, { on := 0, ground := Ground.phase }, { on := 1, ground := Ground.phase }, { on := 2, ground := Ground.phase }, { on := 3, ground := Ground.phase }, { on := 4, ground := Ground.phase }, { on := 5, ground := Ground.phase }, { on := 6, ground := Ground.phase }, { on := 7, ground := Ground.phase }], guard := none }) rfl (fun KQ hK => ?_) AllReadyH.nil)
      rw [if_pos (by rfl)]
      refine wp_store_row8 26 _ _ rfl gA KY rfl rfl BA_w7.out (by rw [hVl]; exact size26) (by rw [hVl, hKl]) ?_
      refine hK.out _ _ (Below.trans B7 ((but_setRow _ _ _).below zA B7.size)) (fun hHeld => ?_)
      clear hK KQ
      simp only [Act.put]
      refine wpAnyH_done (by kernel_rfl) ?_ _
      have HEND : Hid (Below X.heap.size X (w7.setRow gA (List.map (Value.int IntKind.u32) KY).toArray)) := (Below.trans B7 ((but_setRow _ _ _).below zA B7.size))
      clear hHeld
      go_wp2_with fail
      go_meet
      exact ⟨gA, rfl, zA, BA_w7.out.setRow _, HEND.out⟩
  case rest =>
    obtain ⟨g3, rfl, hg3, bk, hbc⟩ := hcut
    have KB : Hid (KBase W wc W.heap.size g3 cs KY) := ⟨(FX.out wc hbc).2.1, (FX.out wc hbc).1, (FX.out wc hbc).2.2, bk⟩
    clear bk hbc FX HLX CX HB TX
    have FB : Hid (∀ w, Below wc.heap.size wc w → KBase W w W.heap.size g3 cs KY) := fun w hb => KB.out.on hb
    have HL : Hid (∀ w w', Below wc.heap.size wc w → Below w.heap.size w w' → Below wc.heap.size wc w') := fun w w' h h' => h.trans (h'.mono h.size)
    have CB0 : Hid (∀ w, Below wc.heap.size wc w → w.cell? ⟨W.heap.size, 0, none⟩ = some (.slice sa sn sc)) := fun w hb => by rw [(FB.out w hb).box.cell]; exact HC.out.1
    have CB1 : Hid (∀ w, Below wc.heap.size wc w → w.cell? ⟨W.heap.size, 1, none⟩ = some (.slice ea en ec)) := fun w hb => by rw [(FB.out w hb).box.cell]; exact HC.out.2.1
    have CB2 : Hid (∀ w, Below wc.heap.size wc w → w.cell? ⟨W.heap.size, 2, none⟩ = some (.slice ia il ic)) := fun w hb => by rw [(FB.out w hb).box.cell]; exact HC.out.2.2.1
    have RK : Hid (∀ w, Below wc.heap.size wc w → w.rangeAt g3 0 (KY.map (Value.int .u32))) := fun w hb => (FB.out w hb).kb.row.range
    have e1 := eq26 KY KY hKl hKl
    rw [decide_eq_true rfl] at e1
    have i5 : (il : Int) ≤ 140737488351232 := by omega
    by_cases hlong : 4096 < il
    · have i6 : (4096 : Int) < (il : Int) := by omega
      go_wp2_with fail
      refine wp_region_held_drew (S := fun w => Below wc.heap.size wc w) (by kernel_rfl) (Below.refl _ _).drew (fun hHeld => ?_)
      refine wpAnyH_ready (rs := [0]) (by kernel_rfl) (by simp) (AllReadyH.cons (o := { dst := some 23, op := Op.call { callee := Callee.value (Operand.func 9), args := #[], argTypes := #[] }, type := 4, pos := "outright.go:92", after := #[], guard := none }) rfl (fun KQ hK => ?_) AllReadyH.nil)
      go_simp
      refine (first_law _ (FB.out _ (Below.refl _ _).drew).tabs).mono ?_
      rintro e w5 ⟨rfl, hb5⟩
      have B5 : Below wc.heap.size wc w5 := HL.out _ _ (Below.refl _ _).drew hb5
      go_wp2_with fail
      refine hK.out _ _ B5 (fun hHeld => ?_)
      clear hK KQ
      try simp only [Act.put, List.setIfInBounds_toArray, List.set_cons_zero, List.set_cons_succ]
      refine wpAnyH_take (i := 1) (oi := { dst := some 24, op := Op.unOp UnOp.not 4 (Operand.tmp 23), type := 4, pos := "outright.go:92", after := #[{ on := 0, ground := Ground.data }], guard := none }) (v := .bool false) rfl (by kernel_rfl) (by kernel_rfl) (by kernel_rfl) (fun _ _ _ h => h) (Or.inl ⟨by rfl, by intro w hSw; go_simp⟩) (by assumption) ?_
      simp only [Act.put, List.setIfInBounds_toArray, List.set_cons_zero, List.set_cons_succ]
      refine wpAnyH_take (i := 2) (oi := { dst := some 25, op := Op.move (Operand.tmp 24), type := 4, pos := "outright.go:92", after := #[{ on := 1, ground := Ground.data }, { on := 0, ground := Ground.chain }], guard := none }) (v := .bool false) rfl (by kernel_rfl) (by kernel_rfl) (by kernel_rfl) (fun _ _ _ h => h) (Or.inl ⟨by rfl, by intro w hSw; go_simp⟩) (by assumption) ?_
      simp only [Act.put, List.setIfInBounds_toArray, List.set_cons_zero, List.set_cons_succ]
      refine wpAnyH_take (i := 3) (oi := { dst := some 26, op := Op.load 26 (Operand.tmp 3), type := 26, pos := "outright.go:92", after := #[{ on := 2, ground := Ground.guard }], guard := some (2, false) }) (v := .agg (KY.map (Value.int .u32)).toArray) rfl (by kernel_rfl) (by kernel_rfl) (by kernel_rfl) (fun _ _ _ h => h) (yieldsIf_load_mid (by rfl) _ _ rfl _ _ rfl _ _ (fun w hSw => RK.out w hSw) Tryd.underlying26 rfl (by rw [List.length_map]; exact hsK)) (by assumption) ?_
      simp only [Act.put, List.setIfInBounds_toArray, List.set_cons_zero, List.set_cons_succ]
      refine wpAnyH_take (i := 4) (oi := { dst := some 27, op := Op.fieldAddr 24 (Operand.tmp 1) 0, type := 0, pos := "outright.go:92", after := #[{ on := 2, ground := Ground.guard }], guard := some (2, false) }) (v := .pointer (some ⟨W.heap.size, 0, none⟩)) rfl (by kernel_rfl) (by kernel_rfl) (by kernel_rfl) (fun _ _ _ h => h) (Or.inl ⟨by rfl, by intro w hSw; go_simp⟩) (by assumption) ?_
      simp only [Act.put, List.setIfInBounds_toArray, List.set_cons_zero, List.set_cons_succ]
      refine wpAnyH_take (i := 5) (oi := { dst := some 28, op := Op.load 22 (Operand.tmp 27), type := 22, pos := "outright.go:92", after := #[{ on := 4, ground := Ground.data }, { on := 2, ground := Ground.guard }], guard := some (2, false) }) (v := .slice sa sn sc) rfl (by kernel_rfl) (by kernel_rfl) (by kernel_rfl) (fun _ _ _ h => h) (Or.inl ⟨by rfl, by intro w hSw; have hcc := CB0.out w hSw; go_simp⟩) (by assumption) ?_
      simp only [Act.put, List.setIfInBounds_toArray, List.set_cons_zero, List.set_cons_succ]
      refine wpAnyH_take (i := 6) (oi := { dst := some 29, op := Op.fieldAddr 24 (Operand.tmp 1) 1, type := 0, pos := "outright.go:92", after := #[{ on := 2, ground := Ground.guard }], guard := some (2, false) }) (v := .pointer (some ⟨W.heap.size, 1, none⟩)) rfl (by kernel_rfl) (by kernel_rfl) (by kernel_rfl) (fun _ _ _ h => h) (Or.inl ⟨by rfl, by intro w hSw; go_simp⟩) (by assumption) ?_
      simp only [Act.put, List.setIfInBounds_toArray, List.set_cons_zero, List.set_cons_succ]
      refine wpAnyH_take (i := 7) (oi := { dst := some 30, op := Op.load 22 (Operand.tmp 29), type := 22, pos := "outright.go:92", after := #[{ on := 6, ground := Ground.data }, { on := 2, ground := Ground.guard }], guard := some (2, false) }) (v := .slice ea en ec) rfl (by kernel_rfl) (by kernel_rfl) (by kernel_rfl) (fun _ _ _ h => h) (Or.inl ⟨by rfl, by intro w hSw; have hcc := CB1.out w hSw; go_simp⟩) (by assumption) ?_
      simp only [Act.put, List.setIfInBounds_toArray, List.set_cons_zero, List.set_cons_succ]
      refine wpAnyH_ready (rs := [8]) (by kernel_rfl) (by simp) (AllReadyH.cons (o := { dst := some 31, op := Op.call { callee := Callee.value (Operand.func 10), args := #[Operand.tmp 28, Operand.tmp 30], argTypes := #[22, 22] }, type := 26, pos := "outright.go:92", after := #[{ on := 5, ground := Ground.data }, { on := 7, ground := Ground.data }, { on := 2, ground := Ground.chain }, { on := 2, ground := Ground.guard }], guard := some (2, false) }) rfl (fun KQ hK => ?_) AllReadyH.nil)
      go_simp
      refine (tag_law _ (FB.out _ B5).tabs sa sn sc ss hsl ps (AS.out _ (FB.out _ B5).below) hsc (by omega) ea en ec es hel pe (AE.out _ (FB.out _ B5).below) S2.out (by omega)).mono ?_
      rintro e w6 ⟨rfl, hb6⟩
      rw [HK.out]
      have B6 : Below wc.heap.size wc w6 := HL.out _ _ B5 hb6
      go_wp2_with fail
      refine hK.out _ _ B6 (fun hHeld => ?_)
      clear hK KQ
      try simp only [Act.put, List.setIfInBounds_toArray, List.set_cons_zero, List.set_cons_succ]
      refine wpAnyH_take (i := 9) (oi := { dst := some 32, op := Op.binOp BinOp.neq 26 (Operand.tmp 26) (Operand.tmp 31) 26, type := 4, pos := "outright.go:92", after := #[{ on := 3, ground := Ground.data }, { on := 8, ground := Ground.data }, { on := 2, ground := Ground.guard }], guard := some (2, false) }) (v := .bool false) rfl (by kernel_rfl) (by kernel_rfl) (by kernel_rfl) (fun _ _ _ h => h) (Or.inl ⟨by rfl, by intro w hSw; simp only [Ag]; go_simp⟩) (by assumption) ?_
      simp only [Act.put, List.setIfInBounds_toArray, List.set_cons_zero, List.set_cons_succ]
      refine wpAnyH_take (i := 10) (oi := { dst := some 33, op := Op.pick (Operand.tmp 25) (Operand.const (Value.bool true)) (Operand.tmp 32), type := 4, pos := "outright.go:92", after := #[{ on := 2, ground := Ground.data }, { on := 9, ground := Ground.data }], guard := none }) (v := .bool false) rfl (by kernel_rfl) (by kernel_rfl) (by kernel_rfl) (fun _ _ _ h => h) (Or.inl ⟨by rfl, by intro w hSw; go_simp⟩) (by assumption) ?_
      simp only [Act.put, List.setIfInBounds_toArray, List.set_cons_zero, List.set_cons_succ]
      refine wpAnyH_take (i := 11) (oi := { dst := some 34, op := Op.move (Operand.tmp 33), type := 4, pos := "outright.go:92", after := #[{ on := 10, ground := Ground.data }, { on := 8, ground := Ground.chain }], guard := none }) (v := .bool false) rfl (by kernel_rfl) (by kernel_rfl) (by kernel_rfl) (fun _ _ _ h => h) (Or.inl ⟨by rfl, by intro w hSw; go_simp⟩) (by assumption) ?_
      simp only [Act.put, List.setIfInBounds_toArray, List.set_cons_zero, List.set_cons_succ]
      refine wpAnyH_take (i := 12) (oi := { dst := some 35, op := Op.fieldAddr 24 (Operand.tmp 1) 2, type := 0, pos := "outright.go:92", after := #[{ on := 11, ground := Ground.guard }], guard := some (11, false) }) (v := .pointer (some ⟨W.heap.size, 2, none⟩)) rfl (by kernel_rfl) (by kernel_rfl) (by kernel_rfl) (fun _ _ _ h => h) (Or.inl ⟨by rfl, by intro w hSw; go_simp⟩) (by assumption) ?_
      simp only [Act.put, List.setIfInBounds_toArray, List.set_cons_zero, List.set_cons_succ]
      refine wpAnyH_take (i := 13) (oi := { dst := some 36, op := Op.load 22 (Operand.tmp 35), type := 22, pos := "outright.go:92", after := #[{ on := 12, ground := Ground.data }, { on := 11, ground := Ground.guard }], guard := some (11, false) }) (v := .slice ia il ic) rfl (by kernel_rfl) (by kernel_rfl) (by kernel_rfl) (fun _ _ _ h => h) (Or.inl ⟨by rfl, by intro w hSw; have hcc := CB2.out w hSw; go_simp⟩) (by assumption) ?_
      simp only [Act.put, List.setIfInBounds_toArray, List.set_cons_zero, List.set_cons_succ]
      refine wpAnyH_take (i := 14) (oi := { dst := some 37, op := Op.call { callee := Callee.builtin Builtin.len, args := #[Operand.tmp 36], argTypes := #[22] }, type := 3, pos := "outright.go:92", after := #[{ on := 13, ground := Ground.data }, { on := 11, ground := Ground.guard }], guard := some (11, false) }) (v := .int .i64 (il : Int)) rfl (by kernel_rfl) (by kernel_rfl) (by kernel_rfl) (fun _ _ _ h => h) (Or.inl ⟨by rfl, by intro w hSw; go_simp⟩) (by assumption) ?_
      simp only [Act.put, List.setIfInBounds_toArray, List.set_cons_zero, List.set_cons_succ]
      refine wpAnyH_take (i := 15) (oi := { dst := some 38, op := Op.binOp BinOp.gtr 3 (Operand.tmp 37) (Operand.const (Value.int IntKind.i64 4096)) 3, type := 4, pos := "outright.go:92", after := #[{ on := 14, ground := Ground.data }, { on := 11, ground := Ground.guard }], guard := some (11, false) }) (v := .bool true) rfl (by kernel_rfl) (by kernel_rfl) (by kernel_rfl) (fun _ _ _ h => h) (Or.inl ⟨by rfl, by intro w hSw; go_simp⟩) (by assumption) ?_
      simp only [Act.put, List.setIfInBounds_toArray, List.set_cons_zero, List.set_cons_succ]
      refine wpAnyH_take (i := 16) (oi := { dst := some 39, op := Op.pick (Operand.tmp 34) (Operand.const (Value.bool true)) (Operand.tmp 38), type := 4, pos := "outright.go:92", after := #[{ on := 11, ground := Ground.data }, { on := 15, ground := Ground.data }], guard := none }) (v := .bool true) rfl (by kernel_rfl) (by kernel_rfl) (by kernel_rfl) (fun _ _ _ h => h) (Or.inl ⟨by rfl, by intro w hSw; go_simp⟩) (by assumption) ?_
      simp only [Act.put, List.setIfInBounds_toArray, List.set_cons_zero, List.set_cons_succ]
      refine wpAnyH_done (by kernel_rfl) ?_ _
      clear hHeld
      go_wp2_with fail
      refine wp_region_held_drew (S := fun w => Below wc.heap.size wc w) (by kernel_rfl) B6.drew (fun hHeld => ?_)
      refine wpAnyH_ready (rs := [0]) (by kernel_rfl) (by simp) (AllReadyH.cons (o := { dst := some 40, op := Op.call { callee := Callee.value (Operand.func 9), args := #[], argTypes := #[] }, type := 4, pos := "outright.go:93", after := #[], guard := none }) rfl (fun KQ hK => ?_) AllReadyH.nil)
      go_simp
      refine (first_law _ (FB.out _ B6.drew).tabs).mono ?_
      rintro e w7 ⟨rfl, hb7⟩
      have B7 : Below wc.heap.size wc w7 := HL.out _ _ B6.drew hb7
      go_wp2_with fail
      refine hK.out _ _ B7 (fun hHeld => ?_)
      clear hK KQ
      try simp only [Act.put, List.setIfInBounds_toArray, List.set_cons_zero, List.set_cons_succ]
      refine wpAnyH_take (i := 1) (oi := { dst := some 41, op := Op.move (Operand.tmp 40), type := 4, pos := "outright.go:93", after := #[{ on := 0, ground := Ground.data }, { on := 0, ground := Ground.chain }], guard := none }) (v := .bool true) rfl (by kernel_rfl) (by kernel_rfl) (by kernel_rfl) (fun _ _ _ h => h) (Or.inl ⟨by rfl, by intro w hSw; go_simp⟩) (by assumption) ?_
      simp only [Act.put, List.setIfInBounds_toArray, List.set_cons_zero, List.set_cons_succ]
      refine wpAnyH_take (i := 2) (oi := { dst := some 42, op := Op.load 26 (Operand.tmp 3), type := 26, pos := "outright.go:93", after := #[{ on := 1, ground := Ground.guard }], guard := some (1, true) }) (v := .agg (KY.map (Value.int .u32)).toArray) rfl (by kernel_rfl) (by kernel_rfl) (by kernel_rfl) (fun _ _ _ h => h) (yieldsIf_load_mid (by rfl) _ _ rfl _ _ rfl _ _ (fun w hSw => RK.out w hSw) Tryd.underlying26 rfl (by rw [List.length_map]; exact hsK)) (by assumption) ?_
      simp only [Act.put, List.setIfInBounds_toArray, List.set_cons_zero, List.set_cons_succ]
      refine wpAnyH_take (i := 3) (oi := { dst := some 43, op := Op.fieldAddr 24 (Operand.tmp 1) 0, type := 0, pos := "outright.go:93", after := #[{ on := 1, ground := Ground.guard }], guard := some (1, true) }) (v := .pointer (some ⟨W.heap.size, 0, none⟩)) rfl (by kernel_rfl) (by kernel_rfl) (by kernel_rfl) (fun _ _ _ h => h) (Or.inl ⟨by rfl, by intro w hSw; go_simp⟩) (by assumption) ?_
      simp only [Act.put, List.setIfInBounds_toArray, List.set_cons_zero, List.set_cons_succ]
      refine wpAnyH_take (i := 4) (oi := { dst := some 44, op := Op.load 22 (Operand.tmp 43), type := 22, pos := "outright.go:93", after := #[{ on := 3, ground := Ground.data }, { on := 1, ground := Ground.guard }], guard := some (1, true) }) (v := .slice sa sn sc) rfl (by kernel_rfl) (by kernel_rfl) (by kernel_rfl) (fun _ _ _ h => h) (Or.inl ⟨by rfl, by intro w hSw; have hcc := CB0.out w hSw; go_simp⟩) (by assumption) ?_
      simp only [Act.put, List.setIfInBounds_toArray, List.set_cons_zero, List.set_cons_succ]
      refine wpAnyH_take (i := 5) (oi := { dst := some 45, op := Op.fieldAddr 24 (Operand.tmp 1) 1, type := 0, pos := "outright.go:93", after := #[{ on := 1, ground := Ground.guard }], guard := some (1, true) }) (v := .pointer (some ⟨W.heap.size, 1, none⟩)) rfl (by kernel_rfl) (by kernel_rfl) (by kernel_rfl) (fun _ _ _ h => h) (Or.inl ⟨by rfl, by intro w hSw; go_simp⟩) (by assumption) ?_
      simp only [Act.put, List.setIfInBounds_toArray, List.set_cons_zero, List.set_cons_succ]
      refine wpAnyH_take (i := 6) (oi := { dst := some 46, op := Op.load 22 (Operand.tmp 45), type := 22, pos := "outright.go:93", after := #[{ on := 5, ground := Ground.data }, { on := 1, ground := Ground.guard }], guard := some (1, true) }) (v := .slice ea en ec) rfl (by kernel_rfl) (by kernel_rfl) (by kernel_rfl) (fun _ _ _ h => h) (Or.inl ⟨by rfl, by intro w hSw; have hcc := CB1.out w hSw; go_simp⟩) (by assumption) ?_
      simp only [Act.put, List.setIfInBounds_toArray, List.set_cons_zero, List.set_cons_succ]
      refine wpAnyH_ready (rs := [7]) (by kernel_rfl) (by simp) (AllReadyH.cons (o := { dst := some 47, op := Op.call { callee := Callee.value (Operand.func 10), args := #[Operand.tmp 44, Operand.tmp 46], argTypes := #[22, 22] }, type := 26, pos := "outright.go:93", after := #[{ on := 4, ground := Ground.data }, { on := 6, ground := Ground.data }, { on := 1, ground := Ground.chain }, { on := 1, ground := Ground.guard }], guard := some (1, true) }) rfl (fun KQ hK => ?_) AllReadyH.nil)
      go_simp
      refine (tag_law _ (FB.out _ B7).tabs sa sn sc ss hsl ps (AS.out _ (FB.out _ B7).below) hsc (by omega) ea en ec es hel pe (AE.out _ (FB.out _ B7).below) S2.out (by omega)).mono ?_
      rintro e w8 ⟨rfl, hb8⟩
      rw [HK.out]
      have B8 : Below wc.heap.size wc w8 := HL.out _ _ B7 hb8
      go_wp2_with fail
      refine hK.out _ _ B8 (fun hHeld => ?_)
      clear hK KQ
      try simp only [Act.put, List.setIfInBounds_toArray, List.set_cons_zero, List.set_cons_succ]
      refine wpAnyH_take (i := 8) (oi := { dst := some 48, op := Op.binOp BinOp.eql 26 (Operand.tmp 42) (Operand.tmp 47) 26, type := 4, pos := "outright.go:93", after := #[{ on := 2, ground := Ground.data }, { on := 7, ground := Ground.data }, { on := 1, ground := Ground.guard }], guard := some (1, true) }) (v := .bool true) rfl (by kernel_rfl) (by kernel_rfl) (by kernel_rfl) (fun _ _ _ h => h) (Or.inl ⟨by rfl, by intro w hSw; simp only [Ag]; go_simp⟩) (by assumption) ?_
      simp only [Act.put, List.setIfInBounds_toArray, List.set_cons_zero, List.set_cons_succ]
      refine wpAnyH_take (i := 9) (oi := { dst := some 49, op := Op.pick (Operand.tmp 41) (Operand.tmp 48) (Operand.const (Value.bool false)), type := 4, pos := "outright.go:93", after := #[{ on := 1, ground := Ground.data }, { on := 8, ground := Ground.data }], guard := none }) (v := .bool true) rfl (by kernel_rfl) (by kernel_rfl) (by kernel_rfl) (fun _ _ _ h => h) (Or.inl ⟨by rfl, by intro w hSw; go_simp⟩) (by assumption) ?_
      simp only [Act.put, List.setIfInBounds_toArray, List.set_cons_zero, List.set_cons_succ]
      refine wpAnyH_ready (rs := [10]) (by kernel_rfl) (by simp) (AllReadyH.cons (o := { dst := some 2, op := Op.assign (Operand.tmp 49), type := 4, pos := "outright.go:93", after := #[{ on := 9, ground := Ground.data }, { on := 7, ground := Ground.chain }, { on := 0, ground := Ground.phase }, { on := 1, ground := Ground.phase }, { on := 2, ground := Ground.phase }, { on := 3, ground := Ground.phase }, { on := 4, ground := Ground.phase }, { on := 5, ground := Ground.phase }, { on := 6, ground := Ground.phase }, { on := 7, ground := Ground.phase }, { on := 8, ground := Ground.phase }, { on := 9, ground := Ground.phase }], guard := none }) rfl (fun KQ hK => ?_) AllReadyH.nil)
      go_simp
      refine hK.out _ _ B8 (fun hHeld => ?_)
      clear hK KQ
      try simp only [Act.put, List.setIfInBounds_toArray, List.set_cons_zero, List.set_cons_succ]
      refine wpAnyH_done (by kernel_rfl) ?_ _
      have HE : Hid (Below W.heap.size W w8) := (FB.out _ B8).below
      clear hHeld B5 B6 B7 B8 hb5 hb6 hb7 hb8
      go_wp2_with fail
      go_ret
      exact ⟨rfl, HE.out⟩
    · have i6 : (il : Int) ≤ 4096 := by omega
      go_wp2_with fail
      refine wp_region_held_drew (S := fun w => Below wc.heap.size wc w) (by kernel_rfl) (Below.refl _ _).drew (fun hHeld => ?_)
      refine wpAnyH_ready (rs := [0]) (by kernel_rfl) (by simp) (AllReadyH.cons (o := { dst := some 23, op := Op.call { callee := Callee.value (Operand.func 9), args := #[], argTypes := #[] }, type := 4, pos := "outright.go:92", after := #[], guard := none }) rfl (fun KQ hK => ?_) AllReadyH.nil)
      go_simp
      refine (first_law _ (FB.out _ (Below.refl _ _).drew).tabs).mono ?_
      rintro e w5 ⟨rfl, hb5⟩
      have B5 : Below wc.heap.size wc w5 := HL.out _ _ (Below.refl _ _).drew hb5
      go_wp2_with fail
      refine hK.out _ _ B5 (fun hHeld => ?_)
      clear hK KQ
      try simp only [Act.put, List.setIfInBounds_toArray, List.set_cons_zero, List.set_cons_succ]
      refine wpAnyH_take (i := 1) (oi := { dst := some 24, op := Op.unOp UnOp.not 4 (Operand.tmp 23), type := 4, pos := "outright.go:92", after := #[{ on := 0, ground := Ground.data }], guard := none }) (v := .bool false) rfl (by kernel_rfl) (by kernel_rfl) (by kernel_rfl) (fun _ _ _ h => h) (Or.inl ⟨by rfl, by intro w hSw; go_simp⟩) (by assumption) ?_
      simp only [Act.put, List.setIfInBounds_toArray, List.set_cons_zero, List.set_cons_succ]
      refine wpAnyH_take (i := 2) (oi := { dst := some 25, op := Op.move (Operand.tmp 24), type := 4, pos := "outright.go:92", after := #[{ on := 1, ground := Ground.data }, { on := 0, ground := Ground.chain }], guard := none }) (v := .bool false) rfl (by kernel_rfl) (by kernel_rfl) (by kernel_rfl) (fun _ _ _ h => h) (Or.inl ⟨by rfl, by intro w hSw; go_simp⟩) (by assumption) ?_
      simp only [Act.put, List.setIfInBounds_toArray, List.set_cons_zero, List.set_cons_succ]
      refine wpAnyH_take (i := 3) (oi := { dst := some 26, op := Op.load 26 (Operand.tmp 3), type := 26, pos := "outright.go:92", after := #[{ on := 2, ground := Ground.guard }], guard := some (2, false) }) (v := .agg (KY.map (Value.int .u32)).toArray) rfl (by kernel_rfl) (by kernel_rfl) (by kernel_rfl) (fun _ _ _ h => h) (yieldsIf_load_mid (by rfl) _ _ rfl _ _ rfl _ _ (fun w hSw => RK.out w hSw) Tryd.underlying26 rfl (by rw [List.length_map]; exact hsK)) (by assumption) ?_
      simp only [Act.put, List.setIfInBounds_toArray, List.set_cons_zero, List.set_cons_succ]
      refine wpAnyH_take (i := 4) (oi := { dst := some 27, op := Op.fieldAddr 24 (Operand.tmp 1) 0, type := 0, pos := "outright.go:92", after := #[{ on := 2, ground := Ground.guard }], guard := some (2, false) }) (v := .pointer (some ⟨W.heap.size, 0, none⟩)) rfl (by kernel_rfl) (by kernel_rfl) (by kernel_rfl) (fun _ _ _ h => h) (Or.inl ⟨by rfl, by intro w hSw; go_simp⟩) (by assumption) ?_
      simp only [Act.put, List.setIfInBounds_toArray, List.set_cons_zero, List.set_cons_succ]
      refine wpAnyH_take (i := 5) (oi := { dst := some 28, op := Op.load 22 (Operand.tmp 27), type := 22, pos := "outright.go:92", after := #[{ on := 4, ground := Ground.data }, { on := 2, ground := Ground.guard }], guard := some (2, false) }) (v := .slice sa sn sc) rfl (by kernel_rfl) (by kernel_rfl) (by kernel_rfl) (fun _ _ _ h => h) (Or.inl ⟨by rfl, by intro w hSw; have hcc := CB0.out w hSw; go_simp⟩) (by assumption) ?_
      simp only [Act.put, List.setIfInBounds_toArray, List.set_cons_zero, List.set_cons_succ]
      refine wpAnyH_take (i := 6) (oi := { dst := some 29, op := Op.fieldAddr 24 (Operand.tmp 1) 1, type := 0, pos := "outright.go:92", after := #[{ on := 2, ground := Ground.guard }], guard := some (2, false) }) (v := .pointer (some ⟨W.heap.size, 1, none⟩)) rfl (by kernel_rfl) (by kernel_rfl) (by kernel_rfl) (fun _ _ _ h => h) (Or.inl ⟨by rfl, by intro w hSw; go_simp⟩) (by assumption) ?_
      simp only [Act.put, List.setIfInBounds_toArray, List.set_cons_zero, List.set_cons_succ]
      refine wpAnyH_take (i := 7) (oi := { dst := some 30, op := Op.load 22 (Operand.tmp 29), type := 22, pos := "outright.go:92", after := #[{ on := 6, ground := Ground.data }, { on := 2, ground := Ground.guard }], guard := some (2, false) }) (v := .slice ea en ec) rfl (by kernel_rfl) (by kernel_rfl) (by kernel_rfl) (fun _ _ _ h => h) (Or.inl ⟨by rfl, by intro w hSw; have hcc := CB1.out w hSw; go_simp⟩) (by assumption) ?_
      simp only [Act.put, List.setIfInBounds_toArray, List.set_cons_zero, List.set_cons_succ]
      refine wpAnyH_ready (rs := [8]) (by kernel_rfl) (by simp) (AllReadyH.cons (o := { dst := some 31, op := Op.call { callee := Callee.value (Operand.func 10), args := #[Operand.tmp 28, Operand.tmp 30], argTypes := #[22, 22] }, type := 26, pos := "outright.go:92", after := #[{ on := 5, ground := Ground.data }, { on := 7, ground := Ground.data }, { on := 2, ground := Ground.chain }, { on := 2, ground := Ground.guard }], guard := some (2, false) }) rfl (fun KQ hK => ?_) AllReadyH.nil)
      go_simp
      refine (tag_law _ (FB.out _ B5).tabs sa sn sc ss hsl ps (AS.out _ (FB.out _ B5).below) hsc (by omega) ea en ec es hel pe (AE.out _ (FB.out _ B5).below) S2.out (by omega)).mono ?_
      rintro e w6 ⟨rfl, hb6⟩
      rw [HK.out]
      have B6 : Below wc.heap.size wc w6 := HL.out _ _ B5 hb6
      go_wp2_with fail
      refine hK.out _ _ B6 (fun hHeld => ?_)
      clear hK KQ
      try simp only [Act.put, List.setIfInBounds_toArray, List.set_cons_zero, List.set_cons_succ]
      refine wpAnyH_take (i := 9) (oi := { dst := some 32, op := Op.binOp BinOp.neq 26 (Operand.tmp 26) (Operand.tmp 31) 26, type := 4, pos := "outright.go:92", after := #[{ on := 3, ground := Ground.data }, { on := 8, ground := Ground.data }, { on := 2, ground := Ground.guard }], guard := some (2, false) }) (v := .bool false) rfl (by kernel_rfl) (by kernel_rfl) (by kernel_rfl) (fun _ _ _ h => h) (Or.inl ⟨by rfl, by intro w hSw; simp only [Ag]; go_simp⟩) (by assumption) ?_
      simp only [Act.put, List.setIfInBounds_toArray, List.set_cons_zero, List.set_cons_succ]
      refine wpAnyH_take (i := 10) (oi := { dst := some 33, op := Op.pick (Operand.tmp 25) (Operand.const (Value.bool true)) (Operand.tmp 32), type := 4, pos := "outright.go:92", after := #[{ on := 2, ground := Ground.data }, { on := 9, ground := Ground.data }], guard := none }) (v := .bool false) rfl (by kernel_rfl) (by kernel_rfl) (by kernel_rfl) (fun _ _ _ h => h) (Or.inl ⟨by rfl, by intro w hSw; go_simp⟩) (by assumption) ?_
      simp only [Act.put, List.setIfInBounds_toArray, List.set_cons_zero, List.set_cons_succ]
      refine wpAnyH_take (i := 11) (oi := { dst := some 34, op := Op.move (Operand.tmp 33), type := 4, pos := "outright.go:92", after := #[{ on := 10, ground := Ground.data }, { on := 8, ground := Ground.chain }], guard := none }) (v := .bool false) rfl (by kernel_rfl) (by kernel_rfl) (by kernel_rfl) (fun _ _ _ h => h) (Or.inl ⟨by rfl, by intro w hSw; go_simp⟩) (by assumption) ?_
      simp only [Act.put, List.setIfInBounds_toArray, List.set_cons_zero, List.set_cons_succ]
      refine wpAnyH_take (i := 12) (oi := { dst := some 35, op := Op.fieldAddr 24 (Operand.tmp 1) 2, type := 0, pos := "outright.go:92", after := #[{ on := 11, ground := Ground.guard }], guard := some (11, false) }) (v := .pointer (some ⟨W.heap.size, 2, none⟩)) rfl (by kernel_rfl) (by kernel_rfl) (by kernel_rfl) (fun _ _ _ h => h) (Or.inl ⟨by rfl, by intro w hSw; go_simp⟩) (by assumption) ?_
      simp only [Act.put, List.setIfInBounds_toArray, List.set_cons_zero, List.set_cons_succ]
      refine wpAnyH_take (i := 13) (oi := { dst := some 36, op := Op.load 22 (Operand.tmp 35), type := 22, pos := "outright.go:92", after := #[{ on := 12, ground := Ground.data }, { on := 11, ground := Ground.guard }], guard := some (11, false) }) (v := .slice ia il ic) rfl (by kernel_rfl) (by kernel_rfl) (by kernel_rfl) (fun _ _ _ h => h) (Or.inl ⟨by rfl, by intro w hSw; have hcc := CB2.out w hSw; go_simp⟩) (by assumption) ?_
      simp only [Act.put, List.setIfInBounds_toArray, List.set_cons_zero, List.set_cons_succ]
      refine wpAnyH_take (i := 14) (oi := { dst := some 37, op := Op.call { callee := Callee.builtin Builtin.len, args := #[Operand.tmp 36], argTypes := #[22] }, type := 3, pos := "outright.go:92", after := #[{ on := 13, ground := Ground.data }, { on := 11, ground := Ground.guard }], guard := some (11, false) }) (v := .int .i64 (il : Int)) rfl (by kernel_rfl) (by kernel_rfl) (by kernel_rfl) (fun _ _ _ h => h) (Or.inl ⟨by rfl, by intro w hSw; go_simp⟩) (by assumption) ?_
      simp only [Act.put, List.setIfInBounds_toArray, List.set_cons_zero, List.set_cons_succ]
      refine wpAnyH_take (i := 15) (oi := { dst := some 38, op := Op.binOp BinOp.gtr 3 (Operand.tmp 37) (Operand.const (Value.int IntKind.i64 4096)) 3, type := 4, pos := "outright.go:92", after := #[{ on := 14, ground := Ground.data }, { on := 11, ground := Ground.guard }], guard := some (11, false) }) (v := .bool false) rfl (by kernel_rfl) (by kernel_rfl) (by kernel_rfl) (fun _ _ _ h => h) (Or.inl ⟨by rfl, by intro w hSw; go_simp⟩) (by assumption) ?_
      simp only [Act.put, List.setIfInBounds_toArray, List.set_cons_zero, List.set_cons_succ]
      refine wpAnyH_take (i := 16) (oi := { dst := some 39, op := Op.pick (Operand.tmp 34) (Operand.const (Value.bool true)) (Operand.tmp 38), type := 4, pos := "outright.go:92", after := #[{ on := 11, ground := Ground.data }, { on := 15, ground := Ground.data }], guard := none }) (v := .bool false) rfl (by kernel_rfl) (by kernel_rfl) (by kernel_rfl) (fun _ _ _ h => h) (Or.inl ⟨by rfl, by intro w hSw; go_simp⟩) (by assumption) ?_
      simp only [Act.put, List.setIfInBounds_toArray, List.set_cons_zero, List.set_cons_succ]
      refine wpAnyH_done (by kernel_rfl) ?_ _
      have K6 : Hid (KBase W w6 W.heap.size g3 cs KY) := FB.out _ B6
      clear hHeld B5 B6 hb5 hb6 FB HL CB0 CB1 CB2 RK KB e1
      have c3 : w6.cell? ⟨W.heap.size, 3, none⟩ = some (.int .i64 N) := by rw [K6.out.box.cell]; exact HC.out.2.2.2.1
      have c4 : w6.cell? ⟨W.heap.size, 4, none⟩ = some (.int .i64 M) := by rw [K6.out.box.cell]; exact HC.out.2.2.2.2
      go_wp2_with fail
      refine (within_any _ N 0 200 (by decide) (by decide) (by decide)).mono ?_
      rintro e w7 ⟨⟨r, hr1, hr2, rfl⟩, rfl⟩
      obtain ⟨n, rfl⟩ := Int.eq_ofNat_of_zero_le hr1
      have n1 : (n : Int) ≤ 200 := hr2
      clear hr1 hr2
      go_wp2_with fail
      refine (within_any _ M 0 (n : Int) (by decide) (by omega) (by omega)).mono ?_
      rintro e w7 ⟨⟨r, hr1, hr2, rfl⟩, rfl⟩
      obtain ⟨m, rfl⟩ := Int.eq_ofNat_of_zero_le hr1
      have m1 : (m : Int) ≤ (n : Int) := hr2
      clear hr1 hr2 c3 c4
      go_wp2_with fail
      obtain ⟨kb, hkb⟩ : ∃ kb, bytesD KY = kb := ⟨_, rfl⟩
      have HKB : Hid (bytesD KY = kb) := hkb
      clear hkb
      have FB : Hid (∀ w, Below w6.heap.size w6 w → KBase W w W.heap.size g3 cs KY) := fun w hb => K6.out.on hb
      have HL : Hid (∀ x x', Below w6.heap.size w6 x → Below x.heap.size x x' → Below w6.heap.size w6 x') := fun x x' h h' => h.trans (h'.mono h.size)
      have CB2 : Hid (∀ w, Below w6.heap.size w6 w → w.cell? ⟨W.heap.size, 2, none⟩ = some (.slice ia il ic)) := fun w hb => by rw [(FB.out w hb).box.cell]; exact HC.out.2.2.1
      have RK : Hid (∀ w, Below w6.heap.size w6 w → w.rangeAt g3 0 (KY.map (Value.int .u32))) := fun w hb => (FB.out w hb).kb.row.range
      refine wp_region_held_drew (S := fun w => Below w6.heap.size w6 w) (by kernel_rfl) (Below.refl _ _).drew (fun hHeld => ?_)
      refine wpAnyH_take (i := 0) (oi := { dst := some 58, op := Op.load 26 (Operand.tmp 3), type := 26, pos := "outright.go:97", after := #[], guard := none }) (v := .agg (KY.map (Value.int .u32)).toArray) rfl (by kernel_rfl) (by kernel_rfl) (by kernel_rfl) (fun _ _ _ h => h) (yieldsIf_load_mid (by rfl) _ _ rfl _ _ rfl _ _ (fun w hSw => RK.out w hSw) Tryd.underlying26 rfl (by rw [List.length_map]; exact hsK)) (by assumption) ?_
      simp only [Act.put, List.setIfInBounds_toArray, List.set_cons_zero, List.set_cons_succ]
      refine wpAnyH_take (i := 1) (oi := { dst := some 59, op := Op.fieldAddr 24 (Operand.tmp 1) 2, type := 0, pos := "outright.go:97", after := #[], guard := none }) (v := .pointer (some ⟨W.heap.size, 2, none⟩)) rfl (by kernel_rfl) (by kernel_rfl) (by kernel_rfl) (fun _ _ _ h => h) (Or.inl ⟨by rfl, by intro w hSw; go_simp⟩) (by assumption) ?_
      simp only [Act.put, List.setIfInBounds_toArray, List.set_cons_zero, List.set_cons_succ]
      refine wpAnyH_take (i := 2) (oi := { dst := some 60, op := Op.load 22 (Operand.tmp 59), type := 22, pos := "outright.go:97", after := #[{ on := 1, ground := Ground.data }], guard := none }) (v := .slice ia il ic) rfl (by kernel_rfl) (by kernel_rfl) (by kernel_rfl) (fun _ _ _ h => h) (Or.inl ⟨by rfl, by intro w hSw; have hcc := CB2.out w hSw; go_simp⟩) (by assumption) ?_
      simp only [Act.put, List.setIfInBounds_toArray, List.set_cons_zero, List.set_cons_succ]
      refine wpAnyH_take (i := 4) (oi := { dst := some 62, op := Op.move (Operand.tmp 4), type := 3, pos := "outright.go:97", after := #[], guard := none }) (v := .int .i64 (n : Int)) rfl (by kernel_rfl) (by kernel_rfl) (by kernel_rfl) (fun _ _ _ h => h) (Or.inl ⟨by rfl, by intro w hSw; go_simp⟩) (by assumption) ?_
      simp only [Act.put, List.setIfInBounds_toArray, List.set_cons_zero, List.set_cons_succ]
      refine wpAnyH_ready (rs := [3]) (by kernel_rfl) (by simp) (AllReadyH.cons (o := { dst := some 61, op := Op.call { callee := Callee.value (Operand.func 8), args := #[Operand.tmp 60], argTypes := #[22] }, type := 22, pos := "outright.go:97", after := #[{ on := 2, ground := Ground.data }], guard := none }) rfl (fun KQ hK => ?_) AllReadyH.nil)
      go_simp
      refine (bytes_own _ ia il ic is hil (AI.out _ (FB.out _ (Below.refl _ _).drew).below) S3.out (by omega)).mono ?_
      rintro e vba ⟨vo7, vc7, rfl, h7, a7, s7, hb7⟩
      have B7 : Below w6.heap.size w6 vba := HL.out _ _ (Below.refl _ _).drew hb7
      go_wp2_with fail
      refine hK.out _ _ B7 (fun hHeld => ?_)
      clear hK KQ
      try simp only [Act.put, List.setIfInBounds_toArray, List.set_cons_zero, List.set_cons_succ]
      refine wpAnyH_ready (rs := [5]) (by kernel_rfl) (by simp) (AllReadyH.cons (o := { dst := some 63, op := Op.call { callee := Callee.value (Operand.func 12), args := #[Operand.tmp 58, Operand.tmp 61, Operand.tmp 62], argTypes := #[26, 22, 3] }, type := 32, pos := "outright.go:97", after := #[{ on := 0, ground := Ground.data }, { on := 3, ground := Ground.data }, { on := 4, ground := Ground.data }, { on := 3, ground := Ground.chain }], guard := none }) rfl (fun KQ hK => ?_) AllReadyH.nil)
      go_simp
      refine (expand_any _ (FB.out _ B7).tabs KY hKl hKw vo7 il vc7 is hil pi a7 s7 (by omega) n (by omega)).mono ?_
      rintro e vbb ⟨vb, rfl, vbO, hb8⟩
      rw [HKB.out] at vbO
      have vbB : Below w6.heap.size w6 vbb := HL.out _ _ B7 hb8
      go_wp2_with fail
      refine hK.out _ _ vbB (fun hHeld => ?_)
      clear hK KQ
      try simp only [Act.put, List.setIfInBounds_toArray, List.set_cons_zero, List.set_cons_succ]
      refine wpAnyH_take (i := 6) (oi := { dst := some 57, op := Op.move (Operand.tmp 63), type := 32, pos := "outright.go:97", after := #[{ on := 5, ground := Ground.data }], guard := none }) (v := .tuple #[.slice vb n n, .int .i64 0]) rfl (by kernel_rfl) (by kernel_rfl) (by kernel_rfl) (fun _ _ _ h => h) (Or.inl ⟨by rfl, by intro w hSw; go_simp⟩) (by assumption) ?_
      simp only [Act.put, List.setIfInBounds_toArray, List.set_cons_zero, List.set_cons_succ]
      refine wpAnyH_take (i := 7) (oi := { dst := some 64, op := Op.extract (Operand.tmp 57) 0, type := 22, pos := "outright.go:97", after := #[{ on := 6, ground := Ground.data }], guard := none }) (v := .slice vb n n) rfl (by kernel_rfl) (by kernel_rfl) (by kernel_rfl) (fun _ _ _ h => h) (Or.inl ⟨by rfl, by intro w hSw; go_simp⟩) (by assumption) ?_
      simp only [Act.put, List.setIfInBounds_toArray, List.set_cons_zero, List.set_cons_succ]
      refine wpAnyH_take (i := 8) (oi := { dst := some 65, op := Op.extract (Operand.tmp 57) 1, type := 31, pos := "outright.go:97", after := #[{ on := 6, ground := Ground.data }, { on := 9, ground := Ground.gcOnly Departure.lateStores }], guard := none }) (v := .int .i64 0) rfl (by kernel_rfl) (by kernel_rfl) (by kernel_rfl) (fun _ _ _ h => h) (Or.inl ⟨by rfl, by intro w hSw; go_simp⟩) (by assumption) ?_
      simp only [Act.put, List.setIfInBounds_toArray, List.set_cons_zero, List.set_cons_succ]
      refine wpAnyH_ready (rs := [9]) (by kernel_rfl) (by simp) (AllReadyH.cons (o := { dst := some 6, op := Op.assign (Operand.tmp 64), type := 22, pos := "outright.go:97", after := #[{ on := 7, ground := Ground.data }, { on := 5, ground := Ground.chain }, { on := 0, ground := Ground.phase }, { on := 1, ground := Ground.phase }, { on := 2, ground := Ground.phase }, { on := 3, ground := Ground.phase }, { on := 4, ground := Ground.phase }, { on := 5, ground := Ground.phase }, { on := 6, ground := Ground.phase }, { on := 7, ground := Ground.phase }, { on := 8, ground := Ground.textOnly Departure.lateStores }], guard := none }) rfl (fun KQ hK => ?_) AllReadyH.nil)
      go_simp
      refine hK.out _ _ vbB (fun hHeld => ?_)
      clear hK KQ
      try simp only [Act.put, List.setIfInBounds_toArray, List.set_cons_zero, List.set_cons_succ]
      refine wpAnyH_ready (rs := [10]) (by kernel_rfl) (by simp) (AllReadyH.cons (o := { dst := some 7, op := Op.assign (Operand.tmp 65), type := 31, pos := "outright.go:97", after := #[{ on := 8, ground := Ground.data }, { on := 9, ground := Ground.chain }, { on := 0, ground := Ground.phase }, { on := 1, ground := Ground.phase }, { on := 2, ground := Ground.phase }, { on := 3, ground := Ground.phase }, { on := 4, ground := Ground.phase }, { on := 5, ground := Ground.phase }, { on := 6, ground := Ground.phase }, { on := 7, ground := Ground.phase }, { on := 8, ground := Ground.phase }, { on := 9, ground := Ground.phase }], guard := none }) rfl (fun KQ hK => ?_) AllReadyH.nil)
      go_simp
      refine hK.out _ _ vbB (fun hHeld => ?_)
      clear hK KQ
      try simp only [Act.put, List.setIfInBounds_toArray, List.set_cons_zero, List.set_cons_succ]
      refine wpAnyH_done (by kernel_rfl) ?_ _
      have vbK : Hid (KBase W vbb W.heap.size g3 cs KY) := FB.out _ vbB
      have vbA : Hid (At vbb .u8 vb (okm kb is n)) := vbO.at
      have vbF := vbO.form
      clear hHeld FB HL CB2 RK B7 hb7 hb8 a7 s7 h7 vbO vbB
      clear K6
      go_wp2_with fail
      have FB : Hid (∀ w, Below vbb.heap.size vbb w → KBase W w W.heap.size g3 cs KY) := fun w hb => vbK.out.on hb
      have HL : Hid (∀ x x', Below vbb.heap.size vbb x → Below x.heap.size x x' → Below vbb.heap.size vbb x') := fun x x' h h' => h.trans (h'.mono h.size)
      have CB2 : Hid (∀ w, Below vbb.heap.size vbb w → w.cell? ⟨W.heap.size, 2, none⟩ = some (.slice ia il ic)) := fun w hb => by rw [(FB.out w hb).box.cell]; exact HC.out.2.2.1
      have RK : Hid (∀ w, Below vbb.heap.size vbb w → w.rangeAt g3 0 (KY.map (Value.int .u32))) := fun w hb => (FB.out w hb).kb.row.range
      refine wp_region_held_drew (S := fun w => Below vbb.heap.size vbb w) (by kernel_rfl) (Below.refl _ _).drew (fun hHeld => ?_)
      refine wpAnyH_take (i := 0) (oi := { dst := some 67, op := Op.load 26 (Operand.tmp 3), type := 26, pos := "outright.go:98", after := #[], guard := none }) (v := .agg (KY.map (Value.int .u32)).toArray) rfl (by kernel_rfl) (by kernel_rfl) (by kernel_rfl) (fun _ _ _ h => h) (yieldsIf_load_mid (by rfl) _ _ rfl _ _ rfl _ _ (fun w hSw => RK.out w hSw) Tryd.underlying26 rfl (by rw [List.length_map]; exact hsK)) (by assumption) ?_
      simp only [Act.put, List.setIfInBounds_toArray, List.set_cons_zero, List.set_cons_succ]
      refine wpAnyH_take (i := 1) (oi := { dst := some 68, op := Op.fieldAddr 24 (Operand.tmp 1) 2, type := 0, pos := "outright.go:98", after := #[], guard := none }) (v := .pointer (some ⟨W.heap.size, 2, none⟩)) rfl (by kernel_rfl) (by kernel_rfl) (by kernel_rfl) (fun _ _ _ h => h) (Or.inl ⟨by rfl, by intro w hSw; go_simp⟩) (by assumption) ?_
      simp only [Act.put, List.setIfInBounds_toArray, List.set_cons_zero, List.set_cons_succ]
      refine wpAnyH_take (i := 2) (oi := { dst := some 69, op := Op.load 22 (Operand.tmp 68), type := 22, pos := "outright.go:98", after := #[{ on := 1, ground := Ground.data }], guard := none }) (v := .slice ia il ic) rfl (by kernel_rfl) (by kernel_rfl) (by kernel_rfl) (fun _ _ _ h => h) (Or.inl ⟨by rfl, by intro w hSw; have hcc := CB2.out w hSw; go_simp⟩) (by assumption) ?_
      simp only [Act.put, List.setIfInBounds_toArray, List.set_cons_zero, List.set_cons_succ]
      refine wpAnyH_take (i := 4) (oi := { dst := some 71, op := Op.move (Operand.tmp 5), type := 3, pos := "outright.go:98", after := #[], guard := none }) (v := .int .i64 (m : Int)) rfl (by kernel_rfl) (by kernel_rfl) (by kernel_rfl) (fun _ _ _ h => h) (Or.inl ⟨by rfl, by intro w hSw; go_simp⟩) (by assumption) ?_
      simp only [Act.put, List.setIfInBounds_toArray, List.set_cons_zero, List.set_cons_succ]
      refine wpAnyH_ready (rs := [3]) (by kernel_rfl) (by simp) (AllReadyH.cons (o := { dst := some 70, op := Op.call { callee := Callee.value (Operand.func 8), args := #[Operand.tmp 69], argTypes := #[22] }, type := 22, pos := "outright.go:98", after := #[{ on := 2, ground := Ground.data }], guard := none }) rfl (fun KQ hK => ?_) AllReadyH.nil)
      go_simp
      refine (bytes_own _ ia il ic is hil (AI.out _ (FB.out _ (Below.refl _ _).drew).below) S3.out (by omega)).mono ?_
      rintro e vla ⟨vo7, vc7, rfl, h7, a7, s7, hb7⟩
      have B7 : Below vbb.heap.size vbb vla := HL.out _ _ (Below.refl _ _).drew hb7
      go_wp2_with fail
      refine hK.out _ _ B7 (fun hHeld => ?_)
      clear hK KQ
      try simp only [Act.put, List.setIfInBounds_toArray, List.set_cons_zero, List.set_cons_succ]
      refine wpAnyH_ready (rs := [5]) (by kernel_rfl) (by simp) (AllReadyH.cons (o := { dst := some 72, op := Op.call { callee := Callee.value (Operand.func 12), args := #[Operand.tmp 67, Operand.tmp 70, Operand.tmp 71], argTypes := #[26, 22, 3] }, type := 32, pos := "outright.go:98", after := #[{ on := 0, ground := Ground.data }, { on := 3, ground := Ground.data }, { on := 4, ground := Ground.data }, { on := 3, ground := Ground.chain }], guard := none }) rfl (fun KQ hK => ?_) AllReadyH.nil)
      go_simp
      refine (expand_any _ (FB.out _ B7).tabs KY hKl hKw vo7 il vc7 is hil pi a7 s7 (by omega) m (by omega)).mono ?_
      rintro e vlb ⟨vl, rfl, vlO, hb8⟩
      rw [HKB.out] at vlO
      have vlB : Below vbb.heap.size vbb vlb := HL.out _ _ B7 hb8
      go_wp2_with fail
      refine hK.out _ _ vlB (fun hHeld => ?_)
      clear hK KQ
      try simp only [Act.put, List.setIfInBounds_toArray, List.set_cons_zero, List.set_cons_succ]
      refine wpAnyH_take (i := 6) (oi := { dst := some 66, op := Op.move (Operand.tmp 72), type := 32, pos := "outright.go:98", after := #[{ on := 5, ground := Ground.data }], guard := none }) (v := .tuple #[.slice vl m m, .int .i64 0]) rfl (by kernel_rfl) (by kernel_rfl) (by kernel_rfl) (fun _ _ _ h => h) (Or.inl ⟨by rfl, by intro w hSw; go_simp⟩) (by assumption) ?_
      simp only [Act.put, List.setIfInBounds_toArray, List.set_cons_zero, List.set_cons_succ]
      refine wpAnyH_take (i := 7) (oi := { dst := some 73, op := Op.extract (Operand.tmp 66) 0, type := 22, pos := "outright.go:98", after := #[{ on := 6, ground := Ground.data }], guard := none }) (v := .slice vl m m) rfl (by kernel_rfl) (by kernel_rfl) (by kernel_rfl) (fun _ _ _ h => h) (Or.inl ⟨by rfl, by intro w hSw; go_simp⟩) (by assumption) ?_
      simp only [Act.put, List.setIfInBounds_toArray, List.set_cons_zero, List.set_cons_succ]
      refine wpAnyH_take (i := 8) (oi := { dst := some 74, op := Op.extract (Operand.tmp 66) 1, type := 31, pos := "outright.go:98", after := #[{ on := 6, ground := Ground.data }, { on := 9, ground := Ground.gcOnly Departure.lateStores }], guard := none }) (v := .int .i64 0) rfl (by kernel_rfl) (by kernel_rfl) (by kernel_rfl) (fun _ _ _ h => h) (Or.inl ⟨by rfl, by intro w hSw; go_simp⟩) (by assumption) ?_
      simp only [Act.put, List.setIfInBounds_toArray, List.set_cons_zero, List.set_cons_succ]
      refine wpAnyH_ready (rs := [9]) (by kernel_rfl) (by simp) (AllReadyH.cons (o := { dst := some 8, op := Op.assign (Operand.tmp 73), type := 22, pos := "outright.go:98", after := #[{ on := 7, ground := Ground.data }, { on := 5, ground := Ground.chain }, { on := 0, ground := Ground.phase }, { on := 1, ground := Ground.phase }, { on := 2, ground := Ground.phase }, { on := 3, ground := Ground.phase }, { on := 4, ground := Ground.phase }, { on := 5, ground := Ground.phase }, { on := 6, ground := Ground.phase }, { on := 7, ground := Ground.phase }, { on := 8, ground := Ground.textOnly Departure.lateStores }], guard := none }) rfl (fun KQ hK => ?_) AllReadyH.nil)
      go_simp
      refine hK.out _ _ vlB (fun hHeld => ?_)
      clear hK KQ
      try simp only [Act.put, List.setIfInBounds_toArray, List.set_cons_zero, List.set_cons_succ]
      refine wpAnyH_ready (rs := [10]) (by kernel_rfl) (by simp) (AllReadyH.cons (o := { dst := some 9, op := Op.assign (Operand.tmp 74), type := 31, pos := "outright.go:98", after := #[{ on := 8, ground := Ground.data }, { on := 9, ground := Ground.chain }, { on := 0, ground := Ground.phase }, { on := 1, ground := Ground.phase }, { on := 2, ground := Ground.phase }, { on := 3, ground := Ground.phase }, { on := 4, ground := Ground.phase }, { on := 5, ground := Ground.phase }, { on := 6, ground := Ground.phase }, { on := 7, ground := Ground.phase }, { on := 8, ground := Ground.phase }, { on := 9, ground := Ground.phase }], guard := none }) rfl (fun KQ hK => ?_) AllReadyH.nil)
      go_simp
      refine hK.out _ _ vlB (fun hHeld => ?_)
      clear hK KQ
      try simp only [Act.put, List.setIfInBounds_toArray, List.set_cons_zero, List.set_cons_succ]
      refine wpAnyH_done (by kernel_rfl) ?_ _
      have vlK : Hid (KBase W vlb W.heap.size g3 cs KY) := FB.out _ vlB
      have vlA : Hid (At vlb .u8 vl (okm kb is m)) := vlO.at
      have vlF := vlO.form
      have vbA2 : Hid (At vlb .u8 vb (okm kb is n)) := vbA.out.below vlB
      clear hHeld FB HL CB2 RK B7 hb7 hb8 a7 s7 h7 vlO vlB
      clear vbK vbA
      have HTk := okm_take kb is n m (by omega)
      have hkn := okm_length kb is n
      have hkm := okm_length kb is m
      have CV1 : Hid (∀ w, Below vlb.heap.size vlb w → (convert 22 9 (.slice vb m n)).run Tryd.prog w = .ok (.string (strOfNums (okm kb is m))) w) := fun w hb => by
        have := (vbA2.out.below hb).head m
        rw [HTk] at this
        exact conv_at w vb m n _ hkm this vbF
      have CV2 : Hid (∀ w, Below vlb.heap.size vlb w → (convert 22 9 (.slice vl m m)).run Tryd.prog w = .ok (.string (strOfNums (okm kb is m))) w) := fun w hb => conv_at w vl m m _ hkm (vlA.out.below hb) vlF
      generalize strOfNums (okm kb is m) = str at *
      clear HTk hkm vlA
      go_wp2_with fail
      refine wp_region_held_drew (S := fun w => Below vlb.heap.size vlb w) (by kernel_rfl) (Below.refl _ _).drew (fun hHeld => ?_)
      refine wpAnyH_take (i := 0) (oi := { dst := some 75, op := Op.move (Operand.tmp 7), type := 31, pos := "outright.go:99", after := #[], guard := none }) (v := .int .i64 0) rfl (by kernel_rfl) (by kernel_rfl) (by kernel_rfl) (fun _ _ _ h => h) (Or.inl ⟨by rfl, by intro w hSw; go_simp⟩) (by assumption) ?_
      simp only [Act.put, List.setIfInBounds_toArray, List.set_cons_zero, List.set_cons_succ]
      refine wpAnyH_take (i := 1) (oi := { dst := some 76, op := Op.binOp BinOp.neq 3 (Operand.tmp 75) (Operand.const (Value.int IntKind.i64 0)) 3, type := 4, pos := "outright.go:99", after := #[{ on := 0, ground := Ground.data }], guard := none }) (v := .bool false) rfl (by kernel_rfl) (by kernel_rfl) (by kernel_rfl) (fun _ _ _ h => h) (Or.inl ⟨by rfl, by intro w hSw; go_simp⟩) (by assumption) ?_
      simp only [Act.put, List.setIfInBounds_toArray, List.set_cons_zero, List.set_cons_succ]
      refine wpAnyH_take (i := 2) (oi := { dst := some 77, op := Op.move (Operand.tmp 76), type := 4, pos := "outright.go:99", after := #[{ on := 1, ground := Ground.data }], guard := none }) (v := .bool false) rfl (by kernel_rfl) (by kernel_rfl) (by kernel_rfl) (fun _ _ _ h => h) (Or.inl ⟨by rfl, by intro w hSw; go_simp⟩) (by assumption) ?_
      simp only [Act.put, List.setIfInBounds_toArray, List.set_cons_zero, List.set_cons_succ]
      refine wpAnyH_take (i := 3) (oi := { dst := some 78, op := Op.move (Operand.tmp 9), type := 31, pos := "outright.go:99", after := #[{ on := 2, ground := Ground.guard }], guard := some (2, false) }) (v := .int .i64 0) rfl (by kernel_rfl) (by kernel_rfl) (by kernel_rfl) (fun _ _ _ h => h) (Or.inl ⟨by rfl, by intro w hSw; go_simp⟩) (by assumption) ?_
      simp only [Act.put, List.setIfInBounds_toArray, List.set_cons_zero, List.set_cons_succ]
      refine wpAnyH_take (i := 4) (oi := { dst := some 79, op := Op.binOp BinOp.neq 3 (Operand.tmp 78) (Operand.const (Value.int IntKind.i64 0)) 3, type := 4, pos := "outright.go:99", after := #[{ on := 3, ground := Ground.data }, { on := 2, ground := Ground.guard }], guard := some (2, false) }) (v := .bool false) rfl (by kernel_rfl) (by kernel_rfl) (by kernel_rfl) (fun _ _ _ h => h) (Or.inl ⟨by rfl, by intro w hSw; go_simp⟩) (by assumption) ?_
      simp only [Act.put, List.setIfInBounds_toArray, List.set_cons_zero, List.set_cons_succ]
      refine wpAnyH_take (i := 5) (oi := { dst := some 80, op := Op.pick (Operand.tmp 77) (Operand.const (Value.bool true)) (Operand.tmp 79), type := 4, pos := "outright.go:99", after := #[{ on := 2, ground := Ground.data }, { on := 4, ground := Ground.data }], guard := none }) (v := .bool false) rfl (by kernel_rfl) (by kernel_rfl) (by kernel_rfl) (fun _ _ _ h => h) (Or.inl ⟨by rfl, by intro w hSw; go_simp⟩) (by assumption) ?_
      simp only [Act.put, List.setIfInBounds_toArray, List.set_cons_zero, List.set_cons_succ]
      refine wpAnyH_take (i := 6) (oi := { dst := some 81, op := Op.move (Operand.tmp 80), type := 4, pos := "outright.go:99", after := #[{ on := 5, ground := Ground.data }, { on := 2, ground := Ground.chain }], guard := none }) (v := .bool false) rfl (by kernel_rfl) (by kernel_rfl) (by kernel_rfl) (fun _ _ _ h => h) (Or.inl ⟨by rfl, by intro w hSw; go_simp⟩) (by assumption) ?_
      simp only [Act.put, List.setIfInBounds_toArray, List.set_cons_zero, List.set_cons_succ]
      refine wpAnyH_take (i := 7) (oi := { dst := some 82, op := Op.move (Operand.tmp 6), type := 22, pos := "outright.go:99", after := #[{ on := 6, ground := Ground.guard }], guard := some (6, false) }) (v := .slice vb n n) rfl (by kernel_rfl) (by kernel_rfl) (by kernel_rfl) (fun _ _ _ h => h) (Or.inl ⟨by rfl, by intro w hSw; go_simp⟩) (by assumption) ?_
      simp only [Act.put, List.setIfInBounds_toArray, List.set_cons_zero, List.set_cons_succ]
      refine wpAnyH_take (i := 8) (oi := { dst := some 83, op := Op.call { callee := Callee.builtin Builtin.len, args := #[Operand.tmp 82], argTypes := #[22] }, type := 3, pos := "outright.go:99", after := #[{ on := 7, ground := Ground.data }, { on := 6, ground := Ground.guard }], guard := some (6, false) }) (v := .int .i64 (n : Int)) rfl (by kernel_rfl) (by kernel_rfl) (by kernel_rfl) (fun _ _ _ h => h) (Or.inl ⟨by rfl, by intro w hSw; go_simp⟩) (by assumption) ?_
      simp only [Act.put, List.setIfInBounds_toArray, List.set_cons_zero, List.set_cons_succ]
      refine wpAnyH_take (i := 9) (oi := { dst := some 84, op := Op.move (Operand.tmp 4), type := 3, pos := "outright.go:99", after := #[{ on := 6, ground := Ground.guard }], guard := some (6, false) }) (v := .int .i64 (n : Int)) rfl (by kernel_rfl) (by kernel_rfl) (by kernel_rfl) (fun _ _ _ h => h) (Or.inl ⟨by rfl, by intro w hSw; go_simp⟩) (by assumption) ?_
      simp only [Act.put, List.setIfInBounds_toArray, List.set_cons_zero, List.set_cons_succ]
      refine wpAnyH_take (i := 10) (oi := { dst := some 85, op := Op.binOp BinOp.neq 3 (Operand.tmp 83) (Operand.tmp 84) 3, type := 4, pos := "outright.go:99", after := #[{ on := 8, ground := Ground.data }, { on := 9, ground := Ground.data }, { on := 6, ground := Ground.guard }], guard := some (6, false) }) (v := .bool false) rfl (by kernel_rfl) (by kernel_rfl) (by kernel_rfl) (fun _ _ _ h => h) (Or.inl ⟨by rfl, by intro w hSw; go_simp⟩) (by assumption) ?_
      simp only [Act.put, List.setIfInBounds_toArray, List.set_cons_zero, List.set_cons_succ]
      refine wpAnyH_take (i := 11) (oi := { dst := some 86, op := Op.pick (Operand.tmp 81) (Operand.const (Value.bool true)) (Operand.tmp 85), type := 4, pos := "outright.go:99", after := #[{ on := 6, ground := Ground.data }, { on := 10, ground := Ground.data }], guard := none }) (v := .bool false) rfl (by kernel_rfl) (by kernel_rfl) (by kernel_rfl) (fun _ _ _ h => h) (Or.inl ⟨by rfl, by intro w hSw; go_simp⟩) (by assumption) ?_
      simp only [Act.put, List.setIfInBounds_toArray, List.set_cons_zero, List.set_cons_succ]
      refine wpAnyH_take (i := 12) (oi := { dst := some 87, op := Op.move (Operand.tmp 86), type := 4, pos := "outright.go:99", after := #[{ on := 11, ground := Ground.data }, { on := 6, ground := Ground.chain }], guard := none }) (v := .bool false) rfl (by kernel_rfl) (by kernel_rfl) (by kernel_rfl) (fun _ _ _ h => h) (Or.inl ⟨by rfl, by intro w hSw; go_simp⟩) (by assumption) ?_
      simp only [Act.put, List.setIfInBounds_toArray, List.set_cons_zero, List.set_cons_succ]
      refine wpAnyH_take (i := 13) (oi := { dst := some 88, op := Op.move (Operand.tmp 8), type := 22, pos := "outright.go:99", after := #[{ on := 12, ground := Ground.guard }], guard := some (12, false) }) (v := .slice vl m m) rfl (by kernel_rfl) (by kernel_rfl) (by kernel_rfl) (fun _ _ _ h => h) (Or.inl ⟨by rfl, by intro w hSw; go_simp⟩) (by assumption) ?_
      simp only [Act.put, List.setIfInBounds_toArray, List.set_cons_zero, List.set_cons_succ]
      refine wpAnyH_take (i := 14) (oi := { dst := some 89, op := Op.call { callee := Callee.builtin Builtin.len, args := #[Operand.tmp 88], argTypes := #[22] }, type := 3, pos := "outright.go:99", after := #[{ on := 13, ground := Ground.data }, { on := 12, ground := Ground.guard }], guard := some (12, false) }) (v := .int .i64 (m : Int)) rfl (by kernel_rfl) (by kernel_rfl) (by kernel_rfl) (fun _ _ _ h => h) (Or.inl ⟨by rfl, by intro w hSw; go_simp⟩) (by assumption) ?_
      simp only [Act.put, List.setIfInBounds_toArray, List.set_cons_zero, List.set_cons_succ]
      refine wpAnyH_take (i := 15) (oi := { dst := some 90, op := Op.move (Operand.tmp 5), type := 3, pos := "outright.go:99", after := #[{ on := 12, ground := Ground.guard }], guard := some (12, false) }) (v := .int .i64 (m : Int)) rfl (by kernel_rfl) (by kernel_rfl) (by kernel_rfl) (fun _ _ _ h => h) (Or.inl ⟨by rfl, by intro w hSw; go_simp⟩) (by assumption) ?_
      simp only [Act.put, List.setIfInBounds_toArray, List.set_cons_zero, List.set_cons_succ]
      refine wpAnyH_take (i := 16) (oi := { dst := some 91, op := Op.binOp BinOp.neq 3 (Operand.tmp 89) (Operand.tmp 90) 3, type := 4, pos := "outright.go:99", after := #[{ on := 14, ground := Ground.data }, { on := 15, ground := Ground.data }, { on := 12, ground := Ground.guard }], guard := some (12, false) }) (v := .bool false) rfl (by kernel_rfl) (by kernel_rfl) (by kernel_rfl) (fun _ _ _ h => h) (Or.inl ⟨by rfl, by intro w hSw; go_simp⟩) (by assumption) ?_
      simp only [Act.put, List.setIfInBounds_toArray, List.set_cons_zero, List.set_cons_succ]
      refine wpAnyH_take (i := 17) (oi := { dst := some 92, op := Op.pick (Operand.tmp 87) (Operand.const (Value.bool true)) (Operand.tmp 91), type := 4, pos := "outright.go:99", after := #[{ on := 12, ground := Ground.data }, { on := 16, ground := Ground.data }], guard := none }) (v := .bool false) rfl (by kernel_rfl) (by kernel_rfl) (by kernel_rfl) (fun _ _ _ h => h) (Or.inl ⟨by rfl, by intro w hSw; go_simp⟩) (by assumption) ?_
      simp only [Act.put, List.setIfInBounds_toArray, List.set_cons_zero, List.set_cons_succ]
      refine wpAnyH_take (i := 18) (oi := { dst := some 93, op := Op.move (Operand.tmp 92), type := 4, pos := "outright.go:99", after := #[{ on := 17, ground := Ground.data }, { on := 12, ground := Ground.chain }], guard := none }) (v := .bool false) rfl (by kernel_rfl) (by kernel_rfl) (by kernel_rfl) (fun _ _ _ h => h) (Or.inl ⟨by rfl, by intro w hSw; go_simp⟩) (by assumption) ?_
      simp only [Act.put, List.setIfInBounds_toArray, List.set_cons_zero, List.set_cons_succ]
      refine wpAnyH_take (i := 19) (oi := { dst := some 94, op := Op.move (Operand.tmp 6), type := 22, pos := "outright.go:99", after := #[{ on := 18, ground := Ground.guard }], guard := some (18, false) }) (v := .slice vb n n) rfl (by kernel_rfl) (by kernel_rfl) (by kernel_rfl) (fun _ _ _ h => h) (Or.inl ⟨by rfl, by intro w hSw; go_simp⟩) (by assumption) ?_
      simp only [Act.put, List.setIfInBounds_toArray, List.set_cons_zero, List.set_cons_succ]
      refine wpAnyH_take (i := 20) (oi := { dst := some 95, op := Op.move (Operand.tmp 5), type := 3, pos := "outright.go:99", after := #[{ on := 18, ground := Ground.guard }], guard := some (18, false) }) (v := .int .i64 (m : Int)) rfl (by kernel_rfl) (by kernel_rfl) (by kernel_rfl) (fun _ _ _ h => h) (Or.inl ⟨by rfl, by intro w hSw; go_simp⟩) (by assumption) ?_
      simp only [Act.put, List.setIfInBounds_toArray, List.set_cons_zero, List.set_cons_succ]
      refine wpAnyH_take (i := 21) (oi := { dst := some 96, op := Op.slice 22 (Operand.tmp 94) none (some (Operand.tmp 95)) none, type := 22, pos := "outright.go:99", after := #[{ on := 19, ground := Ground.data }, { on := 20, ground := Ground.data }, { on := 18, ground := Ground.guard }], guard := some (18, false) }) (v := .slice vb m n) rfl (by kernel_rfl) (by kernel_rfl) (by kernel_rfl) (fun _ _ _ h => h) (Or.inl ⟨by rfl, by intro w hSw; have q3 : ¬ (n < m) := (by omega); go_simp⟩) (by assumption) ?_
      simp only [Act.put, List.setIfInBounds_toArray, List.set_cons_zero, List.set_cons_succ]
      refine wpAnyH_take (i := 22) (oi := { dst := some 97, op := Op.convert 22 9 (Operand.tmp 96), type := 9, pos := "outright.go:99", after := #[{ on := 21, ground := Ground.data }, { on := 18, ground := Ground.guard }], guard := some (18, false) }) (v := .string str) rfl (by kernel_rfl) (by kernel_rfl) (by kernel_rfl) (fun _ _ _ h => h) (Or.inl ⟨by rfl, by intro w hSw; have hcc := CV1.out w hSw; go_simp⟩) (by assumption) ?_
      simp only [Act.put, List.setIfInBounds_toArray, List.set_cons_zero, List.set_cons_succ]
      refine wpAnyH_take (i := 23) (oi := { dst := some 98, op := Op.move (Operand.tmp 8), type := 22, pos := "outright.go:99", after := #[{ on := 18, ground := Ground.guard }], guard := some (18, false) }) (v := .slice vl m m) rfl (by kernel_rfl) (by kernel_rfl) (by kernel_rfl) (fun _ _ _ h => h) (Or.inl ⟨by rfl, by intro w hSw; go_simp⟩) (by assumption) ?_
      simp only [Act.put, List.setIfInBounds_toArray, List.set_cons_zero, List.set_cons_succ]
      refine wpAnyH_take (i := 24) (oi := { dst := some 99, op := Op.convert 22 9 (Operand.tmp 98), type := 9, pos := "outright.go:99", after := #[{ on := 23, ground := Ground.data }, { on := 18, ground := Ground.guard }], guard := some (18, false) }) (v := .string str) rfl (by kernel_rfl) (by kernel_rfl) (by kernel_rfl) (fun _ _ _ h => h) (Or.inl ⟨by rfl, by intro w hSw; have hcc := CV2.out w hSw; go_simp⟩) (by assumption) ?_
      simp only [Act.put, List.setIfInBounds_toArray, List.set_cons_zero, List.set_cons_succ]
      refine wpAnyH_take (i := 25) (oi := { dst := some 100, op := Op.binOp BinOp.neq 9 (Operand.tmp 97) (Operand.tmp 99) 9, type := 4, pos := "outright.go:99", after := #[{ on := 22, ground := Ground.data }, { on := 24, ground := Ground.data }, { on := 18, ground := Ground.guard }], guard := some (18, false) }) (v := .bool false) rfl (by kernel_rfl) (by kernel_rfl) (by kernel_rfl) (fun _ _ _ h => h) (Or.inl ⟨by rfl, by intro w hSw; go_simp⟩) (by assumption) ?_
      simp only [Act.put, List.setIfInBounds_toArray, List.set_cons_zero, List.set_cons_succ]
      refine wpAnyH_take (i := 26) (oi := { dst := some 101, op := Op.pick (Operand.tmp 93) (Operand.const (Value.bool true)) (Operand.tmp 100), type := 4, pos := "outright.go:99", after := #[{ on := 18, ground := Ground.data }, { on := 25, ground := Ground.data }], guard := none }) (v := .bool false) rfl (by kernel_rfl) (by kernel_rfl) (by kernel_rfl) (fun _ _ _ h => h) (Or.inl ⟨by rfl, by intro w hSw; go_simp⟩) (by assumption) ?_
      simp only [Act.put, List.setIfInBounds_toArray, List.set_cons_zero, List.set_cons_succ]
      refine wpAnyH_done (by kernel_rfl) ?_ _
      have hD : Below vlb.heap.size vlb vlb.drew := (Below.refl _ _).drew
      have KD : Hid (KBase W vlb.drew W.heap.size g3 cs KY) := vlK.out.on hD
      have AD : Hid (At vlb.drew .u8 vb (okm kb is n)) := vbA2.out.below hD
      clear hHeld hD vlK vbA2 CV1 CV2
      generalize vlb.drew = v1 at *
      go_wp2_with fail
      refine (bytes_blk v1 KD.out.tabs _ 8 8 KY hKl hKw KD.out.kb.at (by decide)).mono ?_
      rintro e v2 ⟨rfl, b2, hb2⟩
      rw [HKB.out] at b2
      have K2 : Hid (KBase W v2 W.heap.size g3 cs KY) := KD.out.on hb2
      have A2 : Hid (At v2 .u8 vb (okm kb is n)) := AD.out.below hb2
      have B2 : Hid (Blk v2 v1.heap.size .u8 5 kb) := b2
      have pkb : Bts kb := by rw [← HKB.out]; exact bytesD_bts _
      have hkbl : kb.length = 32 := by rw [← HKB.out, bytesD_length, hKl]
      clear b2 hb2 KD AD
      generalize v1.heap.size = gk at *
      have CB2 : Hid (∀ w, Below v2.heap.size v2 w → w.cell? ⟨W.heap.size, 2, none⟩ = some (.slice ia il ic)) := fun w hb => by rw [(K2.out.on hb).box.cell]; exact HC.out.2.2.1
      have T2 : Hid (∀ w, Below v2.heap.size v2 w → Tabs w ∧ Below W.heap.size W w) := fun w hb => ⟨(K2.out.on hb).tabs, (K2.out.on hb).below⟩
      have HW2 : Hid (Below W.heap.size W v2) := K2.out.below
      have n2 : n ≤ 200 := by omega
      clear K2 m1 vlF hsK hKw
      go_wp2_with fail
      go_loopw [11, 12] (fun l i wr => ∃ (t : Nat) (lo : Option Addr) (lc : Nat), t ≤ 10 ∧ i = .int .i64 (t : Int) ∧ l = .slice lo (tk kb is t).length lc ∧ At wr .u8 lo (tk kb is t) ∧ Sl lo lc ∧ Below v2.heap.size v2 wr) (fun _ i _ => 11 - (intOf i).toNat)
      case atStart => exact ⟨0, none, 0, Nat.zero_le _, rfl, rfl, .inl rfl, fun _ => rfl, Below.refl _ _⟩
      case round =>
        obtain ⟨t, lo, lc, ht, rfl, rfl, hla, hls, hbw⟩ := hrel
        have t1 : (t : Int) ≤ 10 := by omega
        have hll : (tk kb is t).length ≤ 32 := by
          cases t with
          | zero => exact Nat.zero_le _
          | succ t => rw [tk_length]; exact Nat.le_refl _
        by_cases hlt : 32 * t < n
        · have i7 : 32 * (t : Int) < (n : Int) := by omega
          have t9 : t < 7 := by omega
          have HT2 : Hid (tk kb is (t + 1) = bytesD (hmac kb (tk kb is t ++ (is ++ [((t + 1 : Nat) : Int) % 256])))) := rfl
          have pl := tk_bts kb is t
          have pT : Bts (tk kb is t ++ (is ++ [((t + 1 : Nat) : Int) % 256])) := bts_append pl (bts_append pi (fun i => by
            match i with
            | 0 => show 0 ≤ ((t + 1 : Nat) : Int) % 256 ∧ ((t + 1 : Nat) : Int) % 256 < 256; omega
            | i + 1 => simp))
          have hTl := tk_length kb is t
          have hkat := fun j hj h => okm_at kb is n t j hj h
          have hz : ((t + 1 : Nat) : Int) % 256 = (t : Int) + 1 := by omega
          rw [hz] at HT2 pT
          clear hz pl
          have lenT : (tk kb is t ++ (is ++ [(t : Int) + 1])).length ≤ 5000 := by simp only [List.length_append, List.length_singleton]; omega
          obtain ⟨ll, hlle⟩ : ∃ ll, (tk kb is t).length = ll := ⟨_, rfl⟩
          have HLe : Hid ((tk kb is t).length = ll) := hlle
          rw [hlle] at hll ⊢
          clear hlle
          obtain ⟨T0, hT0⟩ : ∃ T0, tk kb is t = T0 := ⟨_, rfl⟩
          rw [hT0] at HT2 pT lenT HLe hla
          clear hT0
          obtain ⟨T1, hT1⟩ : ∃ T1, tk kb is (t + 1) = T1 := ⟨_, rfl⟩
          have HT1 : Hid (tk kb is (t + 1) = T1) := hT1
          rw [hT1] at HT2 hTl hkat
          clear hT1
          have h63a : ([] : List Int).length + ll ≤ maxLen := by unfold maxLen; simp; omega
          have hbya : (([] : List Int).length + ll) * 1 ≤ 140737488355328 := by simp; omega
          have h63b : T0.length + il ≤ maxLen := by rw [HLe.out]; unfold maxLen; omega
          have hbyb : (T0.length + il) * 1 ≤ 140737488355328 := by rw [HLe.out]; omega
          have lc1 : (T0 ++ is).length = ll + il := by rw [List.length_append, HLe.out, hil]
          have h63c : (T0 ++ is).length + 1 ≤ maxLen := by rw [lc1]; unfold maxLen; omega
          have hbyc : ((T0 ++ is).length + 1) * 1 ≤ 140737488355328 := by rw [lc1]; omega
          have F0 : Hid (Holds wr wr .u8 5 (.slice none 0 0) []) := Holds.start _ _ _
          have ALo : Hid (At wr .u8 lo T0) := hla
          have SLo : Hid (Sl lo lc) := hls
          have BW : Hid (Below v2.heap.size v2 wr) := hbw
          have HIl : Hid (is.length = il) := hil
          have AIw : Hid (∀ w, Below wr.heap.size wr w → At w .u8 ia is ∧ w.cell? ⟨W.heap.size, 2, none⟩ = some (.slice ia il ic)) := fun w hb => ⟨AI.out _ (T2.out w (BW.out.trans (hb.mono BW.out.size))).2, CB2.out _ (BW.out.trans (hb.mono BW.out.size))⟩
          clear hla hls hbw lc1
          go_wp2_with (first | (at_builtin; refine wpList_append_at (W := wr) rfl _ _ 22 rfl .u8 5 i0 (.int .u8 0) 1 Tryd.underlying22 hi hz0 hz1 hz2 rfl (.slice none 0 0) [] rfl F0.out lo ll lc T0 rfl HLe.out ALo.out SLo.out h63a hbya ?_; intro va wa Ga; have Ga' : Hid (Holds wr wa .u8 5 va T0) := Ga; have c2 := (AIw.out wa Ga.below).2; clear Ga F0) | (at_builtin; refine wpList_append_at (W := wr) rfl _ _ 22 rfl .u8 5 i0 (.int .u8 0) 1 Tryd.underlying22 hi hz0 hz1 hz2 rfl va T0 rfl Ga'.out ia il ic is rfl HIl.out (AIw.out wa Ga'.out.below).1 S3.out h63b hbyb ?_; intro vb2 wb Gb; have Gb' : Hid (Holds wr wb .u8 5 vb2 (T0 ++ is)) := Gb; clear Gb c2) | (at_builtin; refine wpList_append_at (W := wr) rfl _ _ 22 rfl .u8 5 i0 (.int .u8 0) 1 Tryd.underlying22 hi hz0 hz1 hz2 rfl vb2 (T0 ++ is) rfl (Gb'.out.alloc _) (some ⟨wb.heap.size, 0, none⟩) 1 1 [(t : Int) + 1] rfl rfl (Blk.new wb .u8 5 [(t : Int) + 1]).at (fun h => by cases h) h63c hbyc ?_; intro vc2 wd Gd; have Gd' : Hid (Holds wr wd .u8 5 vc2 (T0 ++ (is ++ [(t : Int) + 1]))) := (by rw [List.append_assoc] at Gd; exact Gd); clear Gd))
          clear ALo SLo AIw Ga' Gb' h63a hbya h63b hbyb h63c hbyc HIl
          obtain ⟨MM, hMM⟩ : ∃ MM, T0 ++ (is ++ [(t : Int) + 1]) = MM := ⟨_, rfl⟩
          rw [hMM] at HT2 pT lenT Gd'
          obtain ⟨vo, vc, hv2, hvc, hva, hvn⟩ := Gd'.out.at'
          subst hv2
          obtain ⟨l, hl⟩ : ∃ l, MM.length = l := ⟨_, rfl⟩
          have HLL : Hid (MM.length = l) := hl
          rw [hl] at hvc lenT ⊢
          have BD : Hid (Below v2.heap.size v2 wd) := BW.out.trans (Gd'.out.below.mono BW.out.size)
          have SV : Hid (Sl vo vc) := fun h => (hvn h).1
          clear hl hMM Gd' hvn BW HLe
          refine (tag_law wd (T2.out wd BD.out).1 _ 32 32 kb hkbl pkb (B2.out.on BD.out).at (by decide) (by decide) vo l vc MM HLL.out pT hva SV.out (by omega)).mono ?_
          rintro e we ⟨rfl, hbe⟩
          obtain ⟨R, hR⟩ : ∃ R, hmac kb MM = R := ⟨_, rfl⟩
          have hRl : R.length = 8 := by rw [← hR]; exact hmac_length _ _
          have hRw : Wds R := by rw [← hR]; exact sumB_wds _
          have hsR : (Tryd.prog.info? 26).map (·.size) = some R.length := by rw [hRl]; exact size26
          rw [hR] at HT2 ⊢
          have BE : Hid (Below v2.heap.size v2 we) := BD.out.trans (hbe.mono BD.out.size)
          clear hbe hva hvc SV HLL pT hR BD
          go_wp2_with (first | (refine wpList_store_but rfl 26 _ _ rfl we.heap.size R rfl rfl (Blk.new we .u32 26 V) hsR (hVl.trans hRl.symm) ?_; intro wf bf hwf hsf))
          have hbef : Below we.heap.size we wf := (below_one we _).trans (hwf.below (Nat.le_refl _) (by simp))
          have BF : Hid (Below v2.heap.size v2 wf) := BE.out.trans (hbef.mono BE.out.size)
          have BR : Hid (Blk wf we.heap.size .u32 26 R) := bf
          clear hbef hwf hsf bf BE
          refine (bytes_blk wf (T2.out wf BF.out).1 _ 8 8 R hRl hRw BR.out.at (by decide)).mono ?_
          rintro e wg ⟨rfl, bg, hbg⟩
          rw [← HT2.out] at bg
          have BG : Hid (Below v2.heap.size v2 wg) := BF.out.trans (hbg.mono BF.out.size)
          have AG1 : Hid (Blk wg wf.heap.size .u8 5 T1) := bg
          clear bg hbg BF BR HT2 hRl hRw hsR
          generalize wf.heap.size = gq at *
          go_wp2_with fail
          go_loopw [15] (fun j wr => ∃ s : Nat, s ≤ 32 ∧ j = .int .i64 (s : Int) ∧ Below v2.heap.size v2 wr ∧ Blk wr gq .u8 5 T1) (fun j _ => 32 - (intOf j).toNat)
          case atStart => exact ⟨0, Nat.zero_le _, rfl, BG.out, AG1.out⟩
          case round =>
            clear BG AG1
            obtain ⟨s, hs, rfl, hbg, hag⟩ := hrel
            have s1 : (s : Int) ≤ 32 := by omega
            have BG' : Hid (Below v2.heap.size v2 wr) := hbg
            have AG' : Hid (Blk wr gq .u8 5 T1) := hag
            clear hbg hag
            by_cases hs2 : s < 32
            · have j1 : (s : Int) < 32 := by omega
              by_cases hs3 : 32 * t + s < n
              · have j2 : 32 * (t : Int) + (s : Int) < (n : Int) := by omega
                obtain ⟨vbb, voff, rfl, hvlt, hvrow⟩ : ∃ b off, vb = some ⟨b, off, none⟩ ∧ b < v2.heap.size ∧ Row v2 .u8 b off (okm kb is n) := by
                  rcases A2.out with h0 | h0
                  · rw [h0] at hkn; simp at hkn; omega
                  · exact h0
                have hq := hkat s hs2 hs3
                have CV : Hid (∀ w, Below wr.heap.size wr w → w.cell? ⟨vbb, voff + (32 * t + s), none⟩ = some (.int .u8 (T1.getD s 0))) := fun w hb => by
                  have := (hvrow.below (BG'.out.trans (hb.mono BG'.out.size)) hvlt) (32 * t + s) (by omega)
                  rw [hq] at this
                  exact this
                have CL : Hid (∀ w, Below wr.heap.size wr w → w.cell? ⟨gq, s, none⟩ = some (.int .u8 (T1.getD s 0))) := fun w hb => (AG'.out.on hb).cell s (by omega)
                generalize T1.getD s 0 = x at *
                clear hkat hvrow hq
                have et : (32 * (t : Int) + (s : Int)).toNat = 32 * t + s := by omega
                have en1 : 32 * t + s < n := hs3
                have ew1 : IntKind.i64.wrap (32 * (t : Int)) = 32 * (t : Int) := by rw [IntKind.wrap_i64]; omega
                have ew2 : IntKind.i64.wrap (32 * (t : Int) + (s : Int)) = 32 * (t : Int) + (s : Int) := by rw [IntKind.wrap_i64]; omega
                have en2 : ¬ (32 * (t : Int) + (s : Int) < 0) := by omega
                clear hs2 hs3
                go_wp2_with fail
                refine wp_region_held_drew (S := fun w => Below wr.heap.size wr w) (by kernel_rfl) (Below.refl _ _).drew (fun hHeld => ?_)
                refine wpAnyH_take (i := 0) (oi := { dst := some 140, op := Op.move (Operand.tmp 6), type := 22, pos := "outright.go:112", after := #[], guard := none }) (v := .slice (some ⟨vbb, voff, none⟩) n n) rfl (by kernel_rfl) (by kernel_rfl) (by kernel_rfl) (fun _ _ _ h => h) (Or.inl ⟨by rfl, by intro w hSw; go_simp⟩) (by assumption) ?_
                simp only [Act.put, List.setIfInBounds_toArray, List.set_cons_zero, List.set_cons_succ]
                refine wpAnyH_take (i := 1) (oi := { dst := some 141, op := Op.move (Operand.tmp 12), type := 3, pos := "outright.go:112", after := #[], guard := none }) (v := .int .i64 (t : Int)) rfl (by kernel_rfl) (by kernel_rfl) (by kernel_rfl) (fun _ _ _ h => h) (Or.inl ⟨by rfl, by intro w hSw; go_simp⟩) (by assumption) ?_
                simp only [Act.put, List.setIfInBounds_toArray, List.set_cons_zero, List.set_cons_succ]
                refine wpAnyH_take (i := 2) (oi := { dst := some 142, op := Op.binOp BinOp.mul 3 (Operand.const (Value.int IntKind.i64 32)) (Operand.tmp 141) 3, type := 3, pos := "outright.go:112", after := #[{ on := 1, ground := Ground.data }], guard := none }) (v := .int .i64 (32 * (t : Int))) rfl (by kernel_rfl) (by kernel_rfl) (by kernel_rfl) (fun _ _ _ h => h) (Or.inl ⟨by rfl, by intro w hSw; go_simp⟩) (by assumption) ?_
                simp only [Act.put, List.setIfInBounds_toArray, List.set_cons_zero, List.set_cons_succ]
                refine wpAnyH_take (i := 3) (oi := { dst := some 143, op := Op.move (Operand.tmp 15), type := 3, pos := "outright.go:112", after := #[], guard := none }) (v := .int .i64 (s : Int)) rfl (by kernel_rfl) (by kernel_rfl) (by kernel_rfl) (fun _ _ _ h => h) (Or.inl ⟨by rfl, by intro w hSw; go_simp⟩) (by assumption) ?_
                simp only [Act.put, List.setIfInBounds_toArray, List.set_cons_zero, List.set_cons_succ]
                refine wpAnyH_take (i := 4) (oi := { dst := some 144, op := Op.binOp BinOp.add 3 (Operand.tmp 142) (Operand.tmp 143) 3, type := 3, pos := "outright.go:112", after := #[{ on := 2, ground := Ground.data }, { on := 3, ground := Ground.data }], guard := none }) (v := .int .i64 (32 * (t : Int) + (s : Int))) rfl (by kernel_rfl) (by kernel_rfl) (by kernel_rfl) (fun _ _ _ h => h) (Or.inl ⟨by rfl, by intro w hSw; go_simp⟩) (by assumption) ?_
                simp only [Act.put, List.setIfInBounds_toArray, List.set_cons_zero, List.set_cons_succ]
                refine wpAnyH_take (i := 5) (oi := { dst := some 145, op := Op.indexAddr 22 (Operand.tmp 140) (Operand.tmp 144), type := 0, pos := "outright.go:112", after := #[{ on := 0, ground := Ground.data }, { on := 4, ground := Ground.data }], guard := none }) (v := .pointer (some ⟨vbb, voff + (32 * t + s), none⟩)) rfl (by kernel_rfl) (by kernel_rfl) (by kernel_rfl) (fun _ _ _ h => h) (Or.inl ⟨by rfl, by intro w hSw; go_simp⟩) (by assumption) ?_
                simp only [Act.put, List.setIfInBounds_toArray, List.set_cons_zero, List.set_cons_succ]
                refine wpAnyH_take (i := 6) (oi := { dst := some 146, op := Op.load 5 (Operand.tmp 145), type := 5, pos := "outright.go:112", after := #[{ on := 5, ground := Ground.data }], guard := none }) (v := .int .u8 x) rfl (by kernel_rfl) (by kernel_rfl) (by kernel_rfl) (fun _ _ _ h => h) (Or.inl ⟨by rfl, by intro w hSw; have hcc := CV.out w hSw; go_simp⟩) (by assumption) ?_
                simp only [Act.put, List.setIfInBounds_toArray, List.set_cons_zero, List.set_cons_succ]
                refine wpAnyH_take (i := 7) (oi := { dst := some 147, op := Op.move (Operand.tmp 11), type := 22, pos := "outright.go:112", after := #[], guard := none }) (v := .slice (some ⟨gq, 0, none⟩) 32 32) rfl (by kernel_rfl) (by kernel_rfl) (by kernel_rfl) (fun _ _ _ h => h) (Or.inl ⟨by rfl, by intro w hSw; go_simp⟩) (by assumption) ?_
                simp only [Act.put, List.setIfInBounds_toArray, List.set_cons_zero, List.set_cons_succ]
                refine wpAnyH_take (i := 8) (oi := { dst := some 148, op := Op.move (Operand.tmp 15), type := 3, pos := "outright.go:112", after := #[], guard := none }) (v := .int .i64 (s : Int)) rfl (by kernel_rfl) (by kernel_rfl) (by kernel_rfl) (fun _ _ _ h => h) (Or.inl ⟨by rfl, by intro w hSw; go_simp⟩) (by assumption) ?_
                simp only [Act.put, List.setIfInBounds_toArray, List.set_cons_zero, List.set_cons_succ]
                refine wpAnyH_take (i := 9) (oi := { dst := some 149, op := Op.indexAddr 22 (Operand.tmp 147) (Operand.tmp 148), type := 0, pos := "outright.go:112", after := #[{ on := 7, ground := Ground.data }, { on := 8, ground := Ground.data }], guard := none }) (v := .pointer (some ⟨gq, s, none⟩)) rfl (by kernel_rfl) (by kernel_rfl) (by kernel_rfl) (fun _ _ _ h => h) (Or.inl ⟨by rfl, by intro w hSw; go_simp⟩) (by assumption) ?_
                simp only [Act.put, List.setIfInBounds_toArray, List.set_cons_zero, List.set_cons_succ]
                refine wpAnyH_take (i := 10) (oi := { dst := some 150, op := Op.load 5 (Operand.tmp 149), type := 5, pos := "outright.go:112", after := #[{ on := 9, ground := Ground.data }], guard := none }) (v := .int .u8 x) rfl (by kernel_rfl) (by kernel_rfl) (by kernel_rfl) (fun _ _ _ h => h) (Or.inl ⟨by rfl, by intro w hSw; have hcc := CL.out w hSw; go_simp⟩) (by assumption) ?_
                simp only [Act.put, List.setIfInBounds_toArray, List.set_cons_zero, List.set_cons_succ]
                refine wpAnyH_take (i := 11) (oi := { dst := some 151, op := Op.binOp BinOp.neq 5 (Operand.tmp 146) (Operand.tmp 150) 5, type := 4, pos := "outright.go:112", after := #[{ on := 6, ground := Ground.data }, { on := 10, ground := Ground.data }], guard := none }) (v := .bool false) rfl (by kernel_rfl) (by kernel_rfl) (by kernel_rfl) (fun _ _ _ h => h) (Or.inl ⟨by rfl, by intro w hSw; go_simp⟩) (by assumption) ?_
                simp only [Act.put, List.setIfInBounds_toArray, List.set_cons_zero, List.set_cons_succ]
                refine wpAnyH_done (by kernel_rfl) ?_ _
                have hD : Below wr.heap.size wr wr.drew := (Below.refl _ _).drew
                have BH : Hid (Below v2.heap.size v2 wr.drew) := BG'.out.trans (hD.mono BG'.out.size)
                have AH : Hid (Blk wr.drew gq .u8 5 T1) := AG'.out.on hD
                clear hHeld hD BG' AG' CV CL et ew1 ew2 en2
                generalize wr.drew = y at *
                go_wp2_with fail
                go_roundw
                case rel => exact ⟨s + 1, by omega, by go_num, BH.out, AH.out⟩
                case measure => simp [intOf]; omega
              · have j2 : (n : Int) ≤ 32 * (t : Int) + (s : Int) := by omega
                have HE : Hid (At wr .u8 (some ⟨gq, 0, none⟩) (tk kb is (t + 1))) := by rw [HT1.out]; exact AG'.out.at
                have HLn : Hid ((tk kb is (t + 1)).length = 32) := by rw [HT1.out]; exact hTl
                clear hkat AG'
                go_wp2_with fail
                go_roundw
                case rel => exact ⟨t + 1, some ⟨gq, 0, none⟩, 32, by omega, by go_num, by rw [HLn.out], HE.out, (fun h => by cases h), BG'.out⟩
                case measure => simp [intOf]; omega
            · have j1 : (32 : Int) ≤ (s : Int) := by omega
              have HE : Hid (At wr .u8 (some ⟨gq, 0, none⟩) (tk kb is (t + 1))) := by rw [HT1.out]; exact AG'.out.at
              have HLn : Hid ((tk kb is (t + 1)).length = 32) := by rw [HT1.out]; exact hTl
              clear hkat AG'
              go_wp2_with fail
              go_roundw
              case rel => exact ⟨t + 1, some ⟨gq, 0, none⟩, 32, by omega, by go_num, by rw [HLn.out], HE.out, (fun h => by cases h), BG'.out⟩
              case measure => simp [intOf]; omega
        · have i7 : (n : Int) ≤ 32 * (t : Int) := by omega
          have HE : Hid (Below W.heap.size W wr) := HW2.out.trans (hbw.mono HW2.out.size)
          clear hla hls hbw hll
          go_wp2_with fail
          go_ret
          exact ⟨rfl, HE.out⟩
end Go.Proofs.YtialckmoigcdeaaDoor
