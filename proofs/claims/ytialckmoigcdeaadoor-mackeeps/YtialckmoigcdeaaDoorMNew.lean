/- Package mac: New, (*Mac).Tag. -/
import Derived.Test.YtialckmoigcdeaaDoorMKb
import Derived.Test.YtialckmoigcdeaaDoorCat
namespace Go.Proofs.YtialckmoigcdeaaDoor
open Go.RowKit

theorem wp_store_row8 {P : Program} {op : Oper} {a : Act} {w : World} {K : Act → World → Prop} {Q : Exit → Act → World → Prop} (ty : TypeId) (x y : Operand) (ho : op.op = .store ty x y)
    (g : Nat) (L' : List Int) (hx : a.eval x = .pointer (some ⟨g, 0, none⟩)) (hy : a.eval y = Ag L') {e : TypeId} {L : List Int} (hg : Blk w g .u32 e L) (hi : (P.info? ty).map (·.size) = some L.length) (hl : L.length = L'.length)
    (h : K (a.put op.dst undef) (w.setRow g (L'.map (Value.int .u32)).toArray)) : op.wp P a w K Q := by
  have hs : (Instr.storeAt ty (.pointer (some ⟨g, 0, none⟩)) (Ag L')).run P w = .ok () (w.setRow g (L'.map (Value.int .u32)).toArray) := store_blk hg hi hl
  unfold Oper.wp execOp
  simp only [ho, hx, hy, Sem.run_bind, Sem.run_pure, hs, Result.andThen_ok]
  exact h

theorem But.skip {g h : Nat} {X w w' : World} (a : But g X w) (b : But h w w') (hh : X.heap.size ≤ h) : But g X w' := ⟨b.os.trans a.os, b.tape.trans a.tape, b.output.trans a.output, Nat.le_trans a.size b.size, fun k hk hg => (b.block k (by have := a.size; omega) (by omega)).trans (a.block k hk hg)⟩
theorem But.more {g : Nat} {X w w' : World} (a : But g X w) (b : Below w.heap.size w w') : But g X w' := a.trans (Below.but b)
/-- A message on its way: the block of the handle, of what is inside, of what goes ahead of the outer words. -/
structure MacH (W : World) (gm gi go : Nat) (K L : List Int) : Prop where
  cel : Cel W gm 47 [.pointer (some ⟨gi, 0, none⟩), .pointer (some ⟨go, 0, none⟩)]
  inner : DigL W gi (xorL 909522486 K ++ L)
  outer : DigL W go (xorL 1549556828 K)
  kl : K.length = 16
  mi : gm ≠ gi
  mo : gm ≠ go
  io : gi ≠ go
  lm : 3 ≤ gm
  li : 3 ≤ gi
  lo : 3 ≤ go
theorem MacH.on {W w : World} {gm gi go : Nat} {K L : List Int} (h : MacH W gm gi go K L) (hb : Below W.heap.size W w) : MacH w gm gi go K L := ⟨h.cel.below hb h.cel.lt, h.inner.below hb, h.outer.below hb, h.kl, h.mi, h.mo, h.io, h.lm, h.li, h.lo⟩
theorem MacH.but {W w : World} {g gm gi go : Nat} {K L : List Int} (h : MacH W gm gi go K L) (hb : But g W w) (h1 : gm ≠ g) (h2 : gi ≠ g) (h3 : go ≠ g) : MacH w gm gi go K L := ⟨h.cel.but hb h1, h.inner.but hb h2, h.outer.but hb h3, h.kl, h.mi, h.mo, h.io, h.lm, h.li, h.lo⟩
/-- More words inside. -/
theorem MacH.turn {W w : World} {gm gi go : Nat} {K L L' : List Int} (h : MacH W gm gi go K L) (hb : But gi W w) (D : DigL w gi (xorL 909522486 K ++ L')) : MacH w gm gi go K L' := ⟨h.cel.but hb h.mi, D, h.outer.but hb (Ne.symm h.io), h.kl, h.mi, h.mo, h.io, h.lm, h.li, h.lo⟩

attribute [-simp] Tryd.isAgg26 Tryd.sizeOf26 Tryd.zeroValue26 Tryd.isAgg64 Tryd.sizeOf64 Tryd.zeroValue64
set_option maxRecDepth 20000 in
set_option maxHeartbeats 1000000 in
theorem new_mac (W : World) (hT : Tabs W) (ao : Option Addr) (n c : Nat) (xs : List Int) (hx : xs.length = n) (wx : Wds xs) (hat : At W .u32 ao xs) (hn : 4 * n ≤ 140737488351232) :
    Calls Tryd.prog 17 #[.slice ao n c] W fun e W' => ∃ gm gi go, W.heap.size ≤ gm ∧ W.heap.size ≤ gi ∧ W.heap.size ≤ go ∧ e = .returned (.pointer (some ⟨gm, 0, none⟩)) ∧ MacH W' gm gi go (keyW (bytesD xs)) [] ∧ Below W.heap.size W W' := by
  obtain ⟨Z, hZ⟩ : ∃ Z : List Int, Z = List.replicate 16 0 := ⟨_, rfl⟩
  have hZl : Z.length = 16 := by rw [hZ]; simp
  have hz : ∀ w, (zeroValue 64).run Tryd.prog w = .ok (.agg (Z.map (Value.int .u32)).toArray) w := fun w => by rw [Tryd.zeroValue64, hZ]; rfl
  clear hZ
  have hsz := hT.sz
  go_enter Tryd.func17, Tryd.ntmps17
  go_wp2_with fail
  refine (bytes_at W hT.lows ao n c xs hx wx hat hn (by omega)).mono ?_
  rintro e w1 ⟨rfl, O1⟩
  have T1 : Hid (Tabs w1) := hT.on O1.below
  have HB : Hid (Below W.heap.size W w1) := O1.below
  have A1 : Hid (At w1 .u8 (some ⟨W.heap.size, 0, none⟩) (bytesD xs)) := O1.at
  have hl : (bytesD xs).length = 4 * n := by rw [bytesD_length, hx]
  have KB := bytesD_bts xs
  obtain ⟨bs, hbs⟩ : ∃ bs, bytesD xs = bs := ⟨_, rfl⟩
  rw [hbs] at A1 hl KB
  clear O1 wx hat hx
  go_wp2_with fail
  refine (keyBlock_any w1 T1.out _ (4 * n) (4 * n) bs hl KB A1.out (Nat.le_refl _) (by omega)).mono ?_
  rintro e w2 ⟨rfl, hb2⟩
  have hk := keyW_length bs
  obtain ⟨K, hK⟩ : ∃ K, keyW bs = K := ⟨_, rfl⟩
  have HK : Hid (keyW (bytesD xs) = K) := by rw [hbs]; exact hK
  rw [hK] at hk ⊢
  clear hK hbs
  have hs : (Tryd.prog.info? 64).map (·.size) = some K.length := by rw [hk]; exact size64
  replace T1 : Hid (Tabs w2) := T1.out.on hb2
  replace HB : Hid (Below W.heap.size W w2) := HB.out.trans (hb2.mono HB.out.size)
  have z2 := HB.out.size
  clear hb2 A1 KB hl
  go_wp2_with (first | (refine wpList_store_but rfl 64 _ _ rfl w2.heap.size K rfl rfl (Blk.new w2 .u32 64 Z) hs (hZl.trans hk.symm) ?_; intro w3 b3 hw3 hs3))
  have BK : Hid (Blk w3 w2.heap.size .u32 64 K) := b3
  replace T1 : Hid (Tabs w3) := (T1.out.on (below_one w2 _)).but hw3 (by omega)
  replace HB : Hid (Below W.heap.size W w3) := (HB.out.alloc z2 _).trans (hw3.below z2 (by simp; omega))
  have z3 : w2.heap.size < w3.heap.size := b3.lt
  clear b3 hw3 hs3 hn
  generalize w2.heap.size = gk at *
  have LK : Hid (∀ w, Below w3.heap.size w3 w → w.rangeAt gk 0 (K.map (Value.int .u32))) := fun w hb => (BK.out.row.below hb z3).range
  have ST : Hid (∀ w p, Below w3.heap.size w3 w → Calls Tryd.prog 32 #[.agg (K.map (Value.int .u32)).toArray, .int .u32 p] w fun e W' => ∃ g, w.heap.size ≤ g ∧ e = .returned (.pointer (some ⟨g, 0, none⟩)) ∧ DigL W' g (xorL p K) ∧ Below w.heap.size w W') := fun w p hb => started_any w (T1.out.on hb) K hk p
  refine wp_region_held_drew (S := fun w => Below w3.heap.size w3 w) (by kernel_rfl) (Below.refl _ _).drew (fun hHeld => ?_)
  refine wpAnyH_take (i := 0) (oi := { dst := some 7, op := Op.load 64 (Operand.tmp 3), type := 64, pos := "mac.go:45", after := #[], guard := none }) (v := .agg (K.map (Value.int .u32)).toArray) rfl (by kernel_rfl) (by kernel_rfl) (by kernel_rfl) (fun _ _ _ h => h) (yieldsIf_load_mid (by rfl) _ _ rfl _ _ rfl _ _ (fun w hSw => LK.out w hSw) Tryd.underlying64 rfl (by rw [List.length_map]; exact hs)) (by assumption) ?_
  simp only [Act.put, List.setIfInBounds_toArray, List.set_cons_zero, List.set_cons_succ]
  refine wpAnyH_take (i := 2) (oi := { dst := some 9, op := Op.load 64 (Operand.tmp 3), type := 64, pos := "mac.go:45", after := #[], guard := none }) (v := .agg (K.map (Value.int .u32)).toArray) rfl (by kernel_rfl) (by kernel_rfl) (by kernel_rfl) (fun _ _ _ h => h) (yieldsIf_load_mid (by rfl) _ _ rfl _ _ rfl _ _ (fun w hSw => LK.out w hSw) Tryd.underlying64 rfl (by rw [List.length_map]; exact hs)) (by assumption) ?_
  simp only [Act.put, List.setIfInBounds_toArray, List.set_cons_zero, List.set_cons_succ]
  refine wpAnyH_ready (rs := [1]) (by kernel_rfl) (by simp) (AllReadyH.cons (o := { dst := some 8, op := Op.call { callee := Callee.value (Operand.func 32), args := #[Operand.tmp 7, Operand.const (Value.int IntKind.u32 909522486)], argTypes := #[64, 25] }, type := 45, pos := "mac.go:45", after := #[{ on := 0, ground := Ground.data }], guard := none }) rfl (fun KQ hK => ?_) AllReadyH.nil)
  go_simp
  refine (ST.out _ 909522486 (Below.refl _ _).drew).mono ?_
  rintro e w4 ⟨gi, hgi, rfl, Di, hb4⟩
  have HB4 : Below w3.heap.size w3 w4 := (Below.refl _ _).drew.trans (hb4.mono (by simp))
  go_wp2_with fail
  refine hK.out _ _ HB4 (fun hHeld => ?_)
  clear hK KQ
  try simp only [Act.put, List.setIfInBounds_toArray, List.set_cons_zero, List.set_cons_succ]
  refine wpAnyH_ready (rs := [3]) (by kernel_rfl) (by simp) (AllReadyH.cons (o := { dst := some 10, op := Op.call { callee := Callee.value (Operand.func 32), args := #[Operand.tmp 9, Operand.const (Value.int IntKind.u32 1549556828)], argTypes := #[64, 25] }, type := 45, pos := "mac.go:45", after := #[{ on := 2, ground := Ground.data }, { on := 1, ground := Ground.chain }], guard := none }) rfl (fun KQ hK => ?_) AllReadyH.nil)
  go_simp
  refine (ST.out _ 1549556828 HB4).mono ?_
  rintro e w5 ⟨go, hgo, rfl, Do, hb5⟩
  have HB5 : Below w3.heap.size w3 w5 := HB4.trans (hb5.mono HB4.size)
  go_wp2_with fail
  refine hK.out _ _ HB5 (fun hHeld => ?_)
  clear hK KQ
  try simp only [Act.put, List.setIfInBounds_toArray, List.set_cons_zero, List.set_cons_succ]
  refine wpAnyH_take (i := 4) (oi := { dst := some 11, op := Op.build 47 #[(0, Operand.tmp 8), (1, Operand.tmp 10)], type := 47, pos := "mac.go:45", after := #[{ on := 1, ground := Ground.data }, { on := 3, ground := Ground.data }], guard := none }) (v := .agg #[.pointer (some ⟨gi, 0, none⟩), .pointer (some ⟨go, 0, none⟩)]) rfl (by kernel_rfl) (by kernel_rfl) (by kernel_rfl) (fun _ _ _ h => h) (Or.inl ⟨by rfl, by intro w hSw; go_simp⟩) (by assumption) ?_
  simp only [Act.put, List.setIfInBounds_toArray, List.set_cons_zero, List.set_cons_succ]
  refine wpAnyH_ready (rs := [5]) (by kernel_rfl) (by simp) (AllReadyH.cons (o := { dst := some 12, op := Op.box 47 (Operand.tmp 11), type := 42, pos := "mac.go:45", after := #[{ on := 4, ground := Ground.data }], guard := none }) rfl (fun KQ hK => ?_) AllReadyH.nil)
  go_simp
  have HB6 : Below w3.heap.size w3 (w5.alloc (Obj.cells #[.pointer (some ⟨gi, 0, none⟩), .pointer (some ⟨go, 0, none⟩)] 47)) := HB5.alloc HB5.size _
  refine hK.out _ _ HB6 (fun hHeld => ?_)
  clear hK KQ
  try simp only [Act.put, List.setIfInBounds_toArray, List.set_cons_zero, List.set_cons_succ]
  refine wpAnyH_ready (rs := [6]) (by kernel_rfl) (by simp) (AllReadyH.cons (o := { dst := some 2, op := Op.assign (Operand.tmp 12), type := 42, pos := "mac.go:45", after := #[{ on := 5, ground := Ground.data }, { on := 3, ground := Ground.chain }, { on := 0, ground := Ground.phase }, { on := 1, ground := Ground.phase }, { on := 2, ground := Ground.phase }, { on := 3, ground := Ground.phase }, { on := 4, ground := Ground.phase }, { on := 5, ground := Ground.phase }], guard := none }) rfl (fun KQ hK => ?_) AllReadyH.nil)
  go_simp
  refine hK.out _ _ HB6 (fun hHeld => ?_)
  clear hK KQ
  try simp only [Act.put, List.setIfInBounds_toArray, List.set_cons_zero, List.set_cons_succ]
  refine wpAnyH_done (by kernel_rfl) ?_ _
  have H3 := HB5.size
  have H4 := Di.lt
  have H5 := Do.lt
  replace hgi : w3.heap.size ≤ gi := by simpa using hgi
  have MH : Hid (MacH (w5.alloc (Obj.cells #[.pointer (some ⟨gi, 0, none⟩), .pointer (some ⟨go, 0, none⟩)] 47)) w5.heap.size gi go K []) := by
    refine ⟨heap_alloc_new _ _, ?_, Do.below (below_one _ _), hk, by have := hb5.size; omega, by omega, by omega, by omega, by omega, by omega⟩
    rw [List.append_nil]
    exact (Di.below hb5).below (below_one _ _)
  have HE : Hid (Below W.heap.size W (w5.alloc (Obj.cells #[.pointer (some ⟨gi, 0, none⟩), .pointer (some ⟨go, 0, none⟩)] 47))) := HB.out.trans (HB6.mono HB.out.size)
  have zi : W.heap.size ≤ gi := by have := HB.out.size; omega
  have zo : W.heap.size ≤ go := by have := HB.out.size; have := HB4.size; omega
  have zm : W.heap.size ≤ w5.heap.size := by have := HB.out.size; omega
  clear Di Do hb4 hb5 HB4 HB5 HB6 hHeld H3 H4 H5 hgi hgo
  go_wp2_with fail
  go_ret
  rw [HK.out]
  exact ⟨w5.heap.size, gi, go, zm, zi, zo, rfl, MH.out, HE.out⟩

theorem tag_math (K : List Int) (k bs : List Int) (hk : Bts k) (hK : K = keyW k) (hw : Wds bs) : sumW (xorL 1549556828 K ++ sumW (xorL 909522486 K ++ bs)) = hmac k (bytesD bs) := by
  subst hK
  have h0 := xorL_wds 909522486 (by decide) (by decide) (keyW_wds hk)
  have h1 := xorL_wds 1549556828 (by decide) (by decide) (keyW_wds hk)
  rw [sumW_eq _ (wds_append h1 (sumW_wds _)), sumW_eq _ (wds_append h0 hw), bytesD_append, bytesD_append, bytes_inner hk, bytes_outer hk]
  rfl
theorem tag_bytes (k m : List Int) (hk : Bts k) : sumW (xorL 1549556828 (keyW k) ++ sumB (xorB 54 (key64 k) ++ m)) = hmac k m := by
  have h1 := xorL_wds 1549556828 (by decide) (by decide) (keyW_wds hk)
  rw [sumW_eq _ (wds_append h1 (sumB_wds _)), bytesD_append, bytes_outer hk]
  rfl
set_option maxRecDepth 20000 in
set_option maxHeartbeats 1000000 in
theorem tag_mac (W : World) (hT : Tabs W) (gm gi go : Nat) (K L : List Int) (M : MacH W gm gi go K L) :
    Calls Tryd.prog 19 #[.pointer (some ⟨gm, 0, none⟩)] W fun e W' => e = .returned (Ag (sumW (xorL 1549556828 K ++ sumW (xorL 909522486 K ++ L)))) ∧ Below W.heap.size W W' := by
  obtain ⟨Z, hZ⟩ : ∃ Z : List Int, Z = List.replicate 8 0 := ⟨_, rfl⟩
  have hZl : Z.length = 8 := by rw [hZ]; simp
  have hz : ∀ w, (zeroValue 26).run Tryd.prog w = .ok (.agg (Z.map (Value.int .u32)).toArray) w := fun w => by rw [Tryd.zeroValue26, hZ]; rfl
  clear hZ
  have hsz := hT.sz
  obtain ⟨X, hX⟩ : ∃ X, X = W.alloc (Obj.cells (List.map (Value.int IntKind.u32) Z).toArray 26) := ⟨_, rfl⟩
  have BZ : Hid (Blk X W.heap.size .u32 26 Z) := by rw [hX]; exact Blk.new W .u32 26 Z
  have HB : Hid (Below W.heap.size W X) := by rw [hX]; exact below_one W _
  have zX : X.heap.size = W.heap.size + 1 := by rw [hX]; simp
  have MX : Hid (MacH X gm gi go K L) := by rw [hX]; exact M.on (below_one W _)
  have TX : Hid (Tabs X) := hT.on HB.out
  have lm := M.cel.lt
  have li := M.inner.lt
  have lo := M.outer.lt
  have kl := M.kl
  clear M
  have CP : Hid (∀ w, But W.heap.size X w → w.cell? ⟨gm, 1, none⟩ = some (.pointer (some ⟨go, 0, none⟩))) := fun w hb => by
    rw [(MX.out.cel.but hb (by omega)).cell]; rfl
  have CI : Hid (∀ w, But W.heap.size X w → w.cell? ⟨gm, 0, none⟩ = some (.pointer (some ⟨gi, 0, none⟩))) := fun w hb => by
    rw [(MX.out.cel.but hb (by omega)).cell]; rfl
  obtain ⟨I, hI⟩ : ∃ I, sumW (xorL 909522486 K ++ L) = I := ⟨_, rfl⟩
  have hIl : I.length = 8 := by rw [← hI]; exact sumW_length _
  obtain ⟨R, hR⟩ : ∃ R, sumW (xorL 1549556828 K ++ I) = R := ⟨_, rfl⟩
  have hRl : R.length = 8 := by rw [← hR]; exact sumW_length _
  have hsR : (Tryd.prog.info? 26).map (·.size) = some R.length := by rw [hRl]; exact size26
  have CO : Hid (∀ w, But W.heap.size X w → Calls Tryd.prog 35 #[.pointer (some ⟨go, 0, none⟩)] w fun e W' => ∃ g', w.heap.size ≤ g' ∧ e = .returned (.pointer (some ⟨g', 0, none⟩)) ∧ DigL W' g' (xorL 1549556828 K) ∧ Below w.heap.size w W') := fun w hb => copyL_any w go _ (MX.out.outer.but hb (by omega))
  have SU : Hid (∀ w, But W.heap.size X w → Calls Tryd.prog 36 #[.pointer (some ⟨gi, 0, none⟩)] w fun e W' => e = .returned (.agg (I.map (Value.int .u32)).toArray) ∧ Below w.heap.size w W') := fun w hb => by
    have T' := TX.out.but hb (by omega)
    have := sumL_any w T'.sha T'.sz gi _ (MX.out.inner.but hb (by omega))
    rw [hI] at this
    exact this
  have OS : Hid (∀ w g', But W.heap.size X w → X.heap.size ≤ g' → DigL w g' (xorL 1549556828 K) → Calls Tryd.prog 31 #[.pointer (some ⟨g', 0, none⟩), .agg (I.map (Value.int .u32)).toArray] w fun e W' => e = .returned (.agg (R.map (Value.int .u32)).toArray) ∧ But g' w W') := fun w g' hb hg D => by
    have := outerSum_any w (TX.out.but hb (by omega)) g' _ D (by rw [xorL_length, kl]; decide) (by omega) I hIl
    rw [hR] at this
    exact this
  have HF : Hid (sumW (xorL 1549556828 K ++ sumW (xorL 909522486 K ++ L)) = R) := by rw [hI]; exact hR
  clear hI hR MX TX kl hT
  go_enter Tryd.func19, Tryd.ntmps19
  go_wp2_with fail
  rw [← hX]
  clear hX
  refine wp_region_held_drew (S := fun w => But W.heap.size X w) (by kernel_rfl) (Below.but (Below.refl _ _).drew) (fun hHeld => ?_)
  refine wpAnyH_take (i := 0) (oi := { dst := some 3, op := Op.move (Operand.tmp 0), type := 42, pos := "mac.go:49", after := #[], guard := none }) (v := .pointer (some ⟨gm, 0, none⟩)) rfl (by kernel_rfl) (by kernel_rfl) (by kernel_rfl) (fun _ _ _ h => h) (Or.inl ⟨by rfl, by intro w hSw; go_simp⟩) (by assumption) ?_
  simp only [Act.put, List.setIfInBounds_toArray, List.set_cons_zero, List.set_cons_succ]
  refine wpAnyH_take (i := 5) (oi := { dst := some 8, op := Op.move (Operand.tmp 0), type := 42, pos := "mac.go:49", after := #[], guard := none }) (v := .pointer (some ⟨gm, 0, none⟩)) rfl (by kernel_rfl) (by kernel_rfl) (by kernel_rfl) (fun _ _ _ h => h) (Or.inl ⟨by rfl, by intro w hSw; go_simp⟩) (by assumption) ?_
  simp only [Act.put, List.setIfInBounds_toArray, List.set_cons_zero, List.set_cons_succ]
  refine wpAnyH_take (i := 1) (oi := { dst := some 4, op := Op.nilCheck (Operand.tmp 3), type := 0, pos := "mac.go:49", after := #[{ on := 0, ground := Ground.data }], guard := none }) (v := .pointer (some ⟨gm, 0, none⟩)) rfl (by kernel_rfl) (by kernel_rfl) (by kernel_rfl) (fun _ _ _ h => h) (Or.inl ⟨by rfl, by intro w hSw; go_simp⟩) (by assumption) ?_
  simp only [Act.put, List.setIfInBounds_toArray, List.set_cons_zero, List.set_cons_succ]
  refine wpAnyH_take (i := 6) (oi := { dst := some 9, op := Op.nilCheck (Operand.tmp 8), type := 0, pos := "mac.go:49", after := #[{ on := 5, ground := Ground.data }], guard := none }) (v := .pointer (some ⟨gm, 0, none⟩)) rfl (by kernel_rfl) (by kernel_rfl) (by kernel_rfl) (fun _ _ _ h => h) (Or.inl ⟨by rfl, by intro w hSw; go_simp⟩) (by assumption) ?_
  simp only [Act.put, List.setIfInBounds_toArray, List.set_cons_zero, List.set_cons_succ]
  refine wpAnyH_take (i := 2) (oi := { dst := some 5, op := Op.fieldAddr 47 (Operand.tmp 4) 1, type := 0, pos := "mac.go:49", after := #[{ on := 1, ground := Ground.data }], guard := none }) (v := .pointer (some ⟨gm, 1, none⟩)) rfl (by kernel_rfl) (by kernel_rfl) (by kernel_rfl) (fun _ _ _ h => h) (Or.inl ⟨by rfl, by intro w hSw; go_simp⟩) (by assumption) ?_
  simp only [Act.put, List.setIfInBounds_toArray, List.set_cons_zero, List.set_cons_succ]
  refine wpAnyH_take (i := 7) (oi := { dst := some 10, op := Op.fieldAddr 47 (Operand.tmp 9) 0, type := 0, pos := "mac.go:49", after := #[{ on := 6, ground := Ground.data }], guard := none }) (v := .pointer (some ⟨gm, 0, none⟩)) rfl (by kernel_rfl) (by kernel_rfl) (by kernel_rfl) (fun _ _ _ h => h) (Or.inl ⟨by rfl, by intro w hSw; go_simp⟩) (by assumption) ?_
  simp only [Act.put, List.setIfInBounds_toArray, List.set_cons_zero, List.set_cons_succ]
  refine wpAnyH_take (i := 3) (oi := { dst := some 6, op := Op.load 45 (Operand.tmp 5), type := 45, pos := "mac.go:49", after := #[{ on := 2, ground := Ground.data }], guard := none }) (v := .pointer (some ⟨go, 0, none⟩)) rfl (by kernel_rfl) (by kernel_rfl) (by kernel_rfl) (fun _ _ _ h => h) (Or.inl ⟨by rfl, by intro w hSw; have hcc := CP.out w hSw; go_simp⟩) (by assumption) ?_
  simp only [Act.put, List.setIfInBounds_toArray, List.set_cons_zero, List.set_cons_succ]
  refine wpAnyH_take (i := 8) (oi := { dst := some 11, op := Op.load 45 (Operand.tmp 10), type := 45, pos := "mac.go:49", after := #[{ on := 7, ground := Ground.data }], guard := none }) (v := .pointer (some ⟨gi, 0, none⟩)) rfl (by kernel_rfl) (by kernel_rfl) (by kernel_rfl) (fun _ _ _ h => h) (Or.inl ⟨by rfl, by intro w hSw; have hcc := CI.out w hSw; go_simp⟩) (by assumption) ?_
  simp only [Act.put, List.setIfInBounds_toArray, List.set_cons_zero, List.set_cons_succ]
  refine wpAnyH_ready (rs := [4]) (by kernel_rfl) (by simp) (AllReadyH.cons (o := { dst := some 7, op := Op.call { callee := Callee.value (Operand.func 35), args := #[Operand.tmp 6], argTypes := #[45] }, type := 45, pos := "mac.go:49", after := #[{ on := 3, ground := Ground.data }], guard := none }) rfl (fun KQ hK => ?_) AllReadyH.nil)
  go_simp
  refine (CO.out _ (Below.but (Below.refl _ _).drew)).mono ?_
  rintro e w4 ⟨g4, hg4, rfl, D4, hb4⟩
  have HB4 : But W.heap.size X w4 := But.more (Below.but (Below.refl _ _).drew) hb4
  have hx4 : Below X.heap.size X w4 := (Below.refl X.heap.size X).drew.trans (hb4.mono (by simp))
  go_wp2_with fail
  refine hK.out _ _ HB4 (fun hHeld => ?_)
  clear hK KQ
  try simp only [Act.put, List.setIfInBounds_toArray, List.set_cons_zero, List.set_cons_succ]
  refine wpAnyH_ready (rs := [9]) (by kernel_rfl) (by simp) (AllReadyH.cons (o := { dst := some 12, op := Op.call { callee := Callee.value (Operand.func 36), args := #[Operand.tmp 11], argTypes := #[45] }, type := 26, pos := "mac.go:49", after := #[{ on := 8, ground := Ground.data }, { on := 4, ground := Ground.chain }], guard := none }) rfl (fun KQ hK => ?_) AllReadyH.nil)
  go_simp
  refine (SU.out _ HB4).mono ?_
  rintro e w5 ⟨rfl, hb5⟩
  have HB5 : But W.heap.size X w5 := HB4.more hb5
  replace hg4 : X.heap.size ≤ g4 := by simpa using hg4
  have D5 : Hid (DigL w5 g4 (xorL 1549556828 K)) := D4.below hb5
  go_wp2_with fail
  refine hK.out _ _ HB5 (fun hHeld => ?_)
  clear hK KQ
  try simp only [Act.put, List.setIfInBounds_toArray, List.set_cons_zero, List.set_cons_succ]
  refine wpAnyH_ready (rs := [10]) (by kernel_rfl) (by simp) (AllReadyH.cons (o := { dst := some 13, op := Op.call { callee := Callee.value (Operand.func 31), args := #[Operand.tmp 7, Operand.tmp 12], argTypes := #[45, 26] }, type := 26, pos := "mac.go:49", after := #[{ on := 4, ground := Ground.data }, { on := 9, ground := Ground.data }, { on := 9, ground := Ground.chain }], guard := none }) rfl (fun KQ hK => ?_) AllReadyH.nil)
  go_simp
  refine (OS.out _ g4 HB5 hg4 D5.out).mono ?_
  rintro e w6 ⟨rfl, bt6⟩
  have HB6 : But W.heap.size X w6 := HB5.skip bt6 hg4
  have BZ6 : Hid (Blk w6 W.heap.size .u32 26 Z) := bt6.blk ((BZ.out.on hx4).on hb5) (by omega)
  go_wp2_with fail
  refine hK.out _ _ HB6 (fun hHeld => ?_)
  clear hK KQ
  try simp only [Act.put, List.setIfInBounds_toArray, List.set_cons_zero, List.set_cons_succ]
  refine wpAnyH_ready (rs := [11]) (by kernel_rfl) (by simp) (AllReadyH.cons (o := { dst := none, op := Op.store 26 (Operand.tmp 2) (Operand.tmp 13), type := 0, pos := "mac.go:49", after := #[{ on := 10, ground := Ground.data }, { on := 10, ground := Ground.chain }, { on := 0, ground := Ground.phase }, { on := 1, ground := Ground.phase }, { on := 2, ground := Ground.phase }, { on := 3, ground := Ground.phase }, { on := 4, ground := Ground.phase }, { on := 5, ground := Ground.phase }, { on := 6, ground := Ground.phase }, { on := 7, ground := Ground.phase }, { on := 8, ground := Ground.phase }, { on := 9, ground := Ground.phase }, { on := 10, ground := Ground.phase }], guard := none }) rfl (fun KQ hK => ?_) AllReadyH.nil)
  rw [if_pos (by rfl)]
  refine wp_store_row8 26 _ _ rfl W.heap.size R rfl rfl BZ6.out (by rw [hZl]; exact size26) (by rw [hZl, hRl]) ?_
  refine hK.out _ _ (HB6.trans (but_setRow _ _ _)) (fun hHeld => ?_)
  clear hK KQ
  simp only [Act.put]
  refine wpAnyH_done (by kernel_rfl) ?_ _
  have HL : Hid (Below W.heap.size W w6) := HB.out.trans (HB6.below (Nat.le_refl _) (by omega))
  clear HB6 HB5 HB4 D4 D5 hb4 hb5 bt6 hHeld
  go_wp2_with fail
  refine ret_cell rfl rfl W.heap.size R rfl (BZ6.out.setRow _) Tryd.underlying26 hsR ⟨?_, below_setRow HL.out (Nat.le_refl _) _⟩
  rw [HF.out]
end Go.Proofs.YtialckmoigcdeaaDoor
