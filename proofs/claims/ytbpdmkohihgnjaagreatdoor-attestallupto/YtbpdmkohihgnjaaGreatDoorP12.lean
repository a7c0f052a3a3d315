import Derived.Test.YtbpdmkohihgnjaaGreatDoorP11
import Derived.Lib.AppendZeros
import Derived.Test.YtbpdmkohihgnjaaGreatDoorP01
namespace Go.Proofs.YtbpdmkohihgnjaaGreatDoor
open Go.RowKit

theorem Holds.alloc {W wr : World} {k : IntKind} {e : TypeId} {v : Value} {L : List Int} (h : Holds W wr k e v L) (o : Obj) : Holds W (wr.alloc o) k e v L := ⟨h.own.alloc o, h.below.alloc h.below.size o⟩
theorem Holds.drew {W wr : World} {k : IntKind} {e : TypeId} {v : Value} {L : List Int} (h : Holds W wr k e v L) : Holds W wr.drew k e v L := ⟨h.own, h.below.drew⟩
theorem wpList_append_at {P : Program} {W w : World} {ops : Array Oper} {rest : List Oper} {o : Oper} {a : Act} {Q : Exit → Act → World → Prop} (hgd : o.guard = none) (s x : Operand) (t : TypeId)
    (ho : o.op = .call { callee := .builtin .append, args := #[s, x], argTypes := #[t, t] }) (k : IntKind) (e : TypeId) (i : TypeInfo) (z : Value) (bytes : Nat) (ht : P.underlying t = some (.slice e)) (hi : P.info? e = some i) (hz : i.zero = some z) (hsize : i.size = 1) (hby : i.bytes = bytes) (hzs : z.cells.size = 1)
    (v : Value) (L : List Int) (hs : a.eval s = v) (H : Holds W w k e v L) (ao : Option Addr) (m c : Nat) (xs : List Int) (hx : a.eval x = .slice ao m c) (hl : xs.length = m) (hat : At w k ao xs) (hn : ao = none → c = 0) (h63 : L.length + m ≤ maxLen) (hbytes : (L.length + m) * bytes ≤ 140737488355328)
    (h : ∀ v' w', Holds W w' k e v' (L ++ xs) → wpList P ops Q rest (a.put o.dst v') w') : wpList P ops Q (o :: rest) a w := by
  cases ao with
  | none =>
    have hx0 : xs = [] := by
      rcases hat with h0 | ⟨b, off, h1, _⟩
      · exact h0
      · cases h1
    subst hx0
    simp at hl
    subst hl
    obtain rfl := hn rfl
    refine wpList_append_own_none hgd s x t ho W.heap.size e i 1 ht hi v L.length _ hs H.own hx ?_
    have := h v w
    rw [List.append_nil] at this
    exact this H
  | some ad =>
    obtain ⟨v', w', hr, h1, h2, _⟩ := run_append_own (P := P) w W.heap.size t o.type e i z 1 bytes ht hi hz hsize hby hzs (by decide) v L.length _ H.own ad m c (xs.map (Value.int k)) (by simp [hl]) hat.cells (ints_oneCell k xs) h63 hbytes H.below.size
    have hH : Holds W w' k e v' (L ++ xs) := Holds.grow H.below (fun g hg => (H.own.lt g hg).1) h1 h2 (by simp [hl]) (by simp)
    refine wpList_plain hgd fun K hK => ?_
    unfold Oper.wp execOp
    simp only [ho, resolve, invoke, builtin, Sem.run_bind, Sem.run_pure, Result.andThen_ok, List.map_toArray, List.map_cons, List.map_nil, hs, hx, hr]
    exact hK _ _ (h _ _ hH)
def Sl (ao : Option Addr) (c : Nat) : Prop := ao = none → c = 0

def joinX (X : Nat → List Int) : Nat → List Int
  | 0 => []
  | t + 1 => joinX X t ++ X t
theorem joinX_le (X : Nat → List Int) (t : Nat) : ∀ d, (joinX X t).length ≤ (joinX X (t + d)).length
  | 0 => Nat.le_refl _
  | d + 1 => by
    have := joinX_le X t d
    show _ ≤ (joinX X (t + d) ++ X (t + d)).length
    rw [List.length_append]
    omega

end Go.Proofs.YtbpdmkohihgnjaaGreatDoor
namespace Go.Proofs.YtbpdmkohihgnjaaGreatDoor
open Go.RowKit

theorem wp_store_row8 {P : Program} {op : Oper} {a : Act} {w : World} {K : Act → World → Prop} {Q : Exit → Act → World → Prop} (ty : TypeId) (x y : Operand) (ho : op.op = .store ty x y)
    (g : Nat) (L' : List Int) (hx : a.eval x = .pointer (some ⟨g, 0, none⟩)) (hy : a.eval y = Ag L') {e : TypeId} {L : List Int} (hg : Blk w g .u32 e L) (hi : (P.info? ty).map (·.size) = some L.length) (hl : L.length = L'.length)
    (h : K (a.put op.dst undef) (w.setRow g (L'.map (Value.int .u32)).toArray)) : op.wp P a w K Q := by
  have hs : (Instr.storeAt ty (.pointer (some ⟨g, 0, none⟩)) (Ag L')).run P w = .ok () (w.setRow g (L'.map (Value.int .u32)).toArray) := store_blk hg hi hl
  unfold Oper.wp execOp
  simp only [ho, hx, hy, Sem.run_bind, Sem.run_pure, hs, Result.andThen_ok]
  exact h

theorem But.skip {g h : Nat} {X w w' : World} (a : But g X w) (b : But h w w') (hh : X.heap.size ≤ h) : But g X w' := ⟨b.os.trans a.os, b.tape.trans a.tape, b.output.trans a.output, Nat.le_trans a.size b.size, fun k hk hg => (b.block k (by have := a.size; omega) (by omega)).trans (a.block k hk hg)⟩
theorem But.more {g : Nat} {X w w' : World} (a : But g X w) (b : Below w.heap.size w w') : But g X w' := a.trans (Below.but b)
structure MacH (W : World) (gm gi go : Nat) (K L : List Int) : Prop where
  cel : Cel W gm 215 [.pointer (some ⟨gi, 0, none⟩), .pointer (some ⟨go, 0, none⟩)]
  inner : DigL W gi (xorL 909522486 K ++ L)
  outer : DigL W go (xorL 1549556828 K)
  kl : K.length = 16
  mi : gm ≠ gi
  mo : gm ≠ go
  io : gi ≠ go
  lm : 13 ≤ gm
  li : 13 ≤ gi
  lo : 13 ≤ go
theorem MacH.on {W w : World} {gm gi go : Nat} {K L : List Int} (h : MacH W gm gi go K L) (hb : Below W.heap.size W w) : MacH w gm gi go K L := ⟨h.cel.below hb h.cel.lt, h.inner.below hb, h.outer.below hb, h.kl, h.mi, h.mo, h.io, h.lm, h.li, h.lo⟩
theorem MacH.but {W w : World} {g gm gi go : Nat} {K L : List Int} (h : MacH W gm gi go K L) (hb : But g W w) (h1 : gm ≠ g) (h2 : gi ≠ g) (h3 : go ≠ g) : MacH w gm gi go K L := ⟨h.cel.but hb h1, h.inner.but hb h2, h.outer.but hb h3, h.kl, h.mi, h.mo, h.io, h.lm, h.li, h.lo⟩
theorem MacH.turn {W w : World} {gm gi go : Nat} {K L L' : List Int} (h : MacH W gm gi go K L) (hb : But gi W w) (D : DigL w gi (xorL 909522486 K ++ L')) : MacH w gm gi go K L' := ⟨h.cel.but hb h.mi, D, h.outer.but hb (Ne.symm h.io), h.kl, h.mi, h.mo, h.io, h.lm, h.li, h.lo⟩

attribute [-simp] Tryz.isAgg26 Tryz.sizeOf26 Tryz.zeroValue26 Tryz.isAgg197 Tryz.sizeOf197 Tryz.zeroValue197
set_option maxRecDepth 20000 in
set_option maxHeartbeats 1000000 in
theorem new_mac (W : World) (hT : Tabs W) (ao : Option Addr) (n c : Nat) (xs : List Int) (hx : xs.length = n) (wx : Wds xs) (hat : At W .u32 ao xs) (hn : 4 * n ≤ 140737488351232) :
    Calls Tryz.prog 129 #[.slice ao n c] W fun e W' => ∃ gm gi go, W.heap.size ≤ gm ∧ W.heap.size ≤ gi ∧ W.heap.size ≤ go ∧ e = .returned (.pointer (some ⟨gm, 0, none⟩)) ∧ MacH W' gm gi go (keyW (bytesD xs)) [] ∧ Below W.heap.size W W' := by
  obtain ⟨Z, hZ⟩ : ∃ Z : List Int, Z = List.replicate 16 0 := ⟨_, rfl⟩
  have hZl : Z.length = 16 := by rw [hZ]; simp
  have hz : ∀ w, (zeroValue 197).run Tryz.prog w = .ok (.agg (Z.map (Value.int .u32)).toArray) w := fun w => by rw [Tryz.zeroValue197, hZ]; rfl
  clear hZ
  have hsz := hT.sz
  go_enter Tryz.func129, Tryz.ntmps129
  go_wp2_with fail
  refine (bytes_at W hT.lows ao n c xs hx wx hat hn (by omega)).mono ?_
  rintro e w1 ⟨rfl, O1⟩
  have T1 : Hid (Tabs w1) := hT.on O1.below
  have HB : Hid (Below W.heap.size W w1) := O1.below
  have A1 : Hid (At w1 .u8 (some ⟨W.heap.size, 0, none⟩) (bytesD xs)) := O1.at
  have hl : (bytesD xs).length = 4 * n := by rw [bytesD_length, hx]
  have KB := bytesD_bts xs
  obtain ⟨bs, hbs⟩ : ∃ bs, bytesD xs = bs := ⟨_, rfl⟩
  rw [hbs] at A1 hl KB
  clear O1 wx hat hx
  go_wp2_with fail
  refine (keyBlock_any w1 T1.out _ (4 * n) (4 * n) bs hl KB A1.out (Nat.le_refl _) (by omega)).mono ?_
  rintro e w2 ⟨rfl, hb2⟩
  have hk := keyW_length bs
  obtain ⟨K, hK⟩ : ∃ K, keyW bs = K := ⟨_, rfl⟩
  have HK : Hid (keyW (bytesD xs) = K) := by rw [hbs]; exact hK
  rw [hK] at hk ⊢
  clear hK hbs
  have hs : (Tryz.prog.info? 197).map (·.size) = some K.length := by rw [hk]; exact size64
  replace T1 : Hid (Tabs w2) := T1.out.on hb2
  replace HB : Hid (Below W.heap.size W w2) := HB.out.trans (hb2.mono HB.out.size)
  have z2 := HB.out.size
  clear hb2 A1 KB hl
  go_wp2_with (first | (refine wpList_store_but rfl 197 _ _ rfl w2.heap.size K rfl rfl (Blk.new w2 .u32 197 Z) hs (hZl.trans hk.symm) ?_; intro w3 b3 hw3 hs3))
  have BK : Hid (Blk w3 w2.heap.size .u32 197 K) := b3
  replace T1 : Hid (Tabs w3) := (T1.out.on (below_one w2 _)).but hw3 (by omega)
  replace HB : Hid (Below W.heap.size W w3) := (HB.out.alloc z2 _).trans (hw3.below z2 (by simp; omega))
  have z3 : w2.heap.size < w3.heap.size := b3.lt
  clear b3 hw3 hs3 hn
  generalize w2.heap.size = gk at *
  have LK : Hid (∀ w, Below w3.heap.size w3 w → w.rangeAt gk 0 (K.map (Value.int .u32))) := fun w hb => (BK.out.row.below hb z3).range
  have ST : Hid (∀ w p, Below w3.heap.size w3 w → Calls Tryz.prog 138 #[.agg (K.map (Value.int .u32)).toArray, .int .u32 p] w fun e W' => ∃ g, w.heap.size ≤ g ∧ e = .returned (.pointer (some ⟨g, 0, none⟩)) ∧ DigL W' g (xorL p K) ∧ Below w.heap.size w W') := fun w p hb => started_any w (T1.out.on hb) K hk p
  refine wp_region_held_drew (S := fun w => Below w3.heap.size w3 w) (by kernel_rfl) (Below.refl _ _).drew (fun hHeld => ?_)
  refine tk 0 ⟨some 7, .load 197 (.tmp 3), 197, "mac.go:45", #[], none⟩ (.agg (K.map (Value.int .u32)).toArray) ?_ (hy := yieldsIf_load_mid (by rfl) _ _ rfl _ _ rfl _ _ (fun w hSw => LK.out w hSw) Tryz.underlying197 rfl (by rw [List.length_map]; exact hs))
  simp only [Act.put, List.setIfInBounds_toArray, List.set_cons_zero, List.set_cons_succ]
  refine tk 2 ⟨some 9, .load 197 (.tmp 3), 197, "mac.go:45", #[], none⟩ (.agg (K.map (Value.int .u32)).toArray) ?_ (hy := yieldsIf_load_mid (by rfl) _ _ rfl _ _ rfl _ _ (fun w hSw => LK.out w hSw) Tryz.underlying197 rfl (by rw [List.length_map]; exact hs))
  simp only [Act.put, List.setIfInBounds_toArray, List.set_cons_zero, List.set_cons_succ]
  refine wpAnyH_ready (rs := [1]) (by kernel_rfl) (by simp) (AllReadyH.cons (o := ⟨some 8, .call { callee := .value (.func 138), args := #[.tmp 7, .const (.int .u32 909522486)], argTypes := #[197, 25] }, 213, "mac.go:45", #[⟨0, .data⟩], none⟩) rfl (fun KQ hK => ?_) AllReadyH.nil)
  go_simp
  refine (ST.out _ 909522486 (Below.refl _ _).drew).mono ?_
  rintro e w4 ⟨gi, hgi, rfl, Di, hb4⟩
  have HB4 : Below w3.heap.size w3 w4 := (Below.refl _ _).drew.trans (hb4.mono (by simp))
  go_wp2_with fail
  refine hK.out _ _ HB4 (fun hHeld => ?_)
  clear hK KQ
  try simp only [Act.put, List.setIfInBounds_toArray, List.set_cons_zero, List.set_cons_succ]
  refine wpAnyH_ready (rs := [3]) (by kernel_rfl) (by simp) (AllReadyH.cons (o := ⟨some 10, .call { callee := .value (.func 138), args := #[.tmp 9, .const (.int .u32 1549556828)], argTypes := #[197, 25] }, 213, "mac.go:45", #[⟨2, .data⟩, ⟨1, .chain⟩], none⟩) rfl (fun KQ hK => ?_) AllReadyH.nil)
  go_simp
  refine (ST.out _ 1549556828 HB4).mono ?_
  rintro e w5 ⟨go, hgo, rfl, Do, hb5⟩
  have HB5 : Below w3.heap.size w3 w5 := HB4.trans (hb5.mono HB4.size)
  go_wp2_with fail
  refine hK.out _ _ HB5 (fun hHeld => ?_)
  clear hK KQ
  try simp only [Act.put, List.setIfInBounds_toArray, List.set_cons_zero, List.set_cons_succ]
  refine tk 4 ⟨some 11, .build 215 #[(0, .tmp 8), (1, .tmp 10)], 215, "mac.go:45", #[⟨1, .data⟩, ⟨3, .data⟩], none⟩ (.agg #[.pointer (some ⟨gi, 0, none⟩), .pointer (some ⟨go, 0, none⟩)]) ?_
  simp only [Act.put, List.setIfInBounds_toArray, List.set_cons_zero, List.set_cons_succ]
  refine wpAnyH_ready (rs := [5]) (by kernel_rfl) (by simp) (AllReadyH.cons (o := ⟨some 12, .box 215 (.tmp 11), 210, "mac.go:45", #[⟨4, .data⟩], none⟩) rfl (fun KQ hK => ?_) AllReadyH.nil)
  go_simp
  have HB6 : Below w3.heap.size w3 (w5.alloc (Obj.cells #[.pointer (some ⟨gi, 0, none⟩), .pointer (some ⟨go, 0, none⟩)] 215)) := HB5.alloc HB5.size _
  refine hK.out _ _ HB6 (fun hHeld => ?_)
  clear hK KQ
  try simp only [Act.put, List.setIfInBounds_toArray, List.set_cons_zero, List.set_cons_succ]
  refine wpAnyH_ready (rs := [6]) (by kernel_rfl) (by simp) (AllReadyH.cons (o := ⟨some 2, .assign (.tmp 12), 210, "mac.go:45", #[⟨5, .data⟩, ⟨3, .chain⟩, ⟨0, .phase⟩, ⟨1, .phase⟩, ⟨2, .phase⟩, ⟨3, .phase⟩, ⟨4, .phase⟩, ⟨5, .phase⟩], none⟩) rfl (fun KQ hK => ?_) AllReadyH.nil)
  go_simp
  refine hK.out _ _ HB6 (fun hHeld => ?_)
  clear hK KQ
  try simp only [Act.put, List.setIfInBounds_toArray, List.set_cons_zero, List.set_cons_succ]
  refine wpAnyH_done (by kernel_rfl) ?_ _
  have H3 := HB5.size
  have H4 := Di.lt
  have H5 := Do.lt
  replace hgi : w3.heap.size ≤ gi := by simpa using hgi
  have MH : Hid (MacH (w5.alloc (Obj.cells #[.pointer (some ⟨gi, 0, none⟩), .pointer (some ⟨go, 0, none⟩)] 215)) w5.heap.size gi go K []) := by
    refine ⟨heap_alloc_new _ _, ?_, Do.below (below_one _ _), hk, by have := hb5.size; omega, by omega, by omega, by omega, by omega, by omega⟩
    rw [List.append_nil]
    exact (Di.below hb5).below (below_one _ _)
  have HE : Hid (Below W.heap.size W (w5.alloc (Obj.cells #[.pointer (some ⟨gi, 0, none⟩), .pointer (some ⟨go, 0, none⟩)] 215))) := HB.out.trans (HB6.mono HB.out.size)
  have zi : W.heap.size ≤ gi := by have := HB.out.size; omega
  have zo : W.heap.size ≤ go := by have := HB.out.size; have := HB4.size; omega
  have zm : W.heap.size ≤ w5.heap.size := by have := HB.out.size; omega
  clear Di Do hb4 hb5 HB4 HB5 HB6 hHeld H3 H4 H5 hgi hgo
  go_wp2_with fail
  go_ret
  rw [HK.out]
  exact ⟨w5.heap.size, gi, go, zm, zi, zo, rfl, MH.out, HE.out⟩

theorem tag_math (K : List Int) (k bs : List Int) (hk : Bts k) (hK : K = keyW k) (hw : Wds bs) : sumW (xorL 1549556828 K ++ sumW (xorL 909522486 K ++ bs)) = hmac k (bytesD bs) := by
  subst hK
  have h0 := xorL_wds 909522486 (by decide) (by decide) (keyW_wds hk)
  have h1 := xorL_wds 1549556828 (by decide) (by decide) (keyW_wds hk)
  rw [sumW_eq _ (wds_append h1 (sumW_wds _)), sumW_eq _ (wds_append h0 hw), bytesD_append, bytesD_append, bytes_inner hk, bytes_outer hk]
  rfl
set_option maxRecDepth 20000 in
set_option maxHeartbeats 1000000 in
theorem tag_mac (W : World) (hT : Tabs W) (gm gi go : Nat) (K L : List Int) (M : MacH W gm gi go K L) :
    Calls Tryz.prog 131 #[.pointer (some ⟨gm, 0, none⟩)] W fun e W' => e = .returned (Ag (sumW (xorL 1549556828 K ++ sumW (xorL 909522486 K ++ L)))) ∧ Below W.heap.size W W' := by
  obtain ⟨Z, hZ⟩ : ∃ Z : List Int, Z = List.replicate 8 0 := ⟨_, rfl⟩
  have hZl : Z.length = 8 := by rw [hZ]; simp
  have hz : ∀ w, (zeroValue 26).run Tryz.prog w = .ok (.agg (Z.map (Value.int .u32)).toArray) w := fun w => by rw [Tryz.zeroValue26, hZ]; rfl
  clear hZ
  have hsz := hT.sz
  obtain ⟨X, hX⟩ : ∃ X, X = W.alloc (Obj.cells (List.map (Value.int IntKind.u32) Z).toArray 26) := ⟨_, rfl⟩
  have BZ : Hid (Blk X W.heap.size .u32 26 Z) := by rw [hX]; exact Blk.new W .u32 26 Z
  have HB : Hid (Below W.heap.size W X) := by rw [hX]; exact below_one W _
  have zX : X.heap.size = W.heap.size + 1 := by rw [hX]; simp
  have MX : Hid (MacH X gm gi go K L) := by rw [hX]; exact M.on (below_one W _)
  have TX : Hid (Tabs X) := hT.on HB.out
  have lm := M.cel.lt
  have li := M.inner.lt
  have lo := M.outer.lt
  have kl := M.kl
  clear M
  have CP : Hid (∀ w, But W.heap.size X w → w.cell? ⟨gm, 1, none⟩ = some (.pointer (some ⟨go, 0, none⟩))) := fun w hb => by
    rw [(MX.out.cel.but hb (by omega)).cell]; rfl
  have CI : Hid (∀ w, But W.heap.size X w → w.cell? ⟨gm, 0, none⟩ = some (.pointer (some ⟨gi, 0, none⟩))) := fun w hb => by
    rw [(MX.out.cel.but hb (by omega)).cell]; rfl
  obtain ⟨I, hI⟩ : ∃ I, sumW (xorL 909522486 K ++ L) = I := ⟨_, rfl⟩
  have hIl : I.length = 8 := by rw [← hI]; exact sumW_length _
  obtain ⟨R, hR⟩ : ∃ R, sumW (xorL 1549556828 K ++ I) = R := ⟨_, rfl⟩
  have hRl : R.length = 8 := by rw [← hR]; exact sumW_length _
  have hsR : (Tryz.prog.info? 26).map (·.size) = some R.length := by rw [hRl]; exact size26
  have CO : Hid (∀ w, But W.heap.size X w → Calls Tryz.prog 142 #[.pointer (some ⟨go, 0, none⟩)] w fun e W' => ∃ g', w.heap.size ≤ g' ∧ e = .returned (.pointer (some ⟨g', 0, none⟩)) ∧ DigL W' g' (xorL 1549556828 K) ∧ Below w.heap.size w W') := fun w hb => copyL_any w go _ (MX.out.outer.but hb (by omega))
  have SU : Hid (∀ w, But W.heap.size X w → Calls Tryz.prog 143 #[.pointer (some ⟨gi, 0, none⟩)] w fun e W' => e = .returned (.agg (I.map (Value.int .u32)).toArray) ∧ Below w.heap.size w W') := fun w hb => by
    have T' := TX.out.but hb (by omega)
    have := sumL_any w T'.sha T'.sz gi _ (MX.out.inner.but hb (by omega))
    rw [hI] at this
    exact this
  have OS : Hid (∀ w g', But W.heap.size X w → X.heap.size ≤ g' → DigL w g' (xorL 1549556828 K) → Calls Tryz.prog 141 #[.pointer (some ⟨g', 0, none⟩), .agg (I.map (Value.int .u32)).toArray] w fun e W' => e = .returned (.agg (R.map (Value.int .u32)).toArray) ∧ But g' w W') := fun w g' hb hg D => by
    have := outerSum_any w (TX.out.but hb (by omega)) g' _ D (by rw [xorL_length, kl]; decide) (by omega) I hIl
    rw [hR] at this
    exact this
  have HF : Hid (sumW (xorL 1549556828 K ++ sumW (xorL 909522486 K ++ L)) = R) := by rw [hI]; exact hR
  clear hI hR MX TX kl hT
  go_enter Tryz.func131, Tryz.ntmps131
  go_wp2_with fail
  rw [← hX]
  clear hX
  refine wp_region_held_drew (S := fun w => But W.heap.size X w) (by kernel_rfl) (Below.but (Below.refl _ _).drew) (fun hHeld => ?_)
  refine tk 0 ⟨some 3, .move (.tmp 0), 210, "mac.go:49", #[], none⟩ (.pointer (some ⟨gm, 0, none⟩)) ?_
  simp only [Act.put, List.setIfInBounds_toArray, List.set_cons_zero, List.set_cons_succ]
  refine tk 5 ⟨some 8, .move (.tmp 0), 210, "mac.go:49", #[], none⟩ (.pointer (some ⟨gm, 0, none⟩)) ?_
  simp only [Act.put, List.setIfInBounds_toArray, List.set_cons_zero, List.set_cons_succ]
  refine tk 1 ⟨some 4, .nilCheck (.tmp 3), 0, "mac.go:49", #[⟨0, .data⟩], none⟩ (.pointer (some ⟨gm, 0, none⟩)) ?_
  simp only [Act.put, List.setIfInBounds_toArray, List.set_cons_zero, List.set_cons_succ]
  refine tk 6 ⟨some 9, .nilCheck (.tmp 8), 0, "mac.go:49", #[⟨5, .data⟩], none⟩ (.pointer (some ⟨gm, 0, none⟩)) ?_
  simp only [Act.put, List.setIfInBounds_toArray, List.set_cons_zero, List.set_cons_succ]
  refine tk 2 ⟨some 5, .fieldAddr 215 (.tmp 4) 1, 0, "mac.go:49", #[⟨1, .data⟩], none⟩ (.pointer (some ⟨gm, 1, none⟩)) ?_
  simp only [Act.put, List.setIfInBounds_toArray, List.set_cons_zero, List.set_cons_succ]
  refine tk 7 ⟨some 10, .fieldAddr 215 (.tmp 9) 0, 0, "mac.go:49", #[⟨6, .data⟩], none⟩ (.pointer (some ⟨gm, 0, none⟩)) ?_
  simp only [Act.put, List.setIfInBounds_toArray, List.set_cons_zero, List.set_cons_succ]
  refine tk 3 ⟨some 6, .load 213 (.tmp 5), 213, "mac.go:49", #[⟨2, .data⟩], none⟩ (.pointer (some ⟨go, 0, none⟩)) ?_ (hy := Or.inl ⟨by rfl, by intro w hSw; have hcc := CP.out w hSw; go_simp⟩)
  simp only [Act.put, List.setIfInBounds_toArray, List.set_cons_zero, List.set_cons_succ]
  refine tk 8 ⟨some 11, .load 213 (.tmp 10), 213, "mac.go:49", #[⟨7, .data⟩], none⟩ (.pointer (some ⟨gi, 0, none⟩)) ?_ (hy := Or.inl ⟨by rfl, by intro w hSw; have hcc := CI.out w hSw; go_simp⟩)
  simp only [Act.put, List.setIfInBounds_toArray, List.set_cons_zero, List.set_cons_succ]
  refine wpAnyH_ready (rs := [4]) (by kernel_rfl) (by simp) (AllReadyH.cons (o := ⟨some 7, .call { callee := .value (.func 142), args := #[.tmp 6], argTypes := #[213] }, 213, "mac.go:49", #[⟨3, .data⟩], none⟩) rfl (fun KQ hK => ?_) AllReadyH.nil)
  go_simp
  refine (CO.out _ (Below.but (Below.refl _ _).drew)).mono ?_
  rintro e w4 ⟨g4, hg4, rfl, D4, hb4⟩
  have HB4 : But W.heap.size X w4 := But.more (Below.but (Below.refl _ _).drew) hb4
  have hx4 : Below X.heap.size X w4 := (Below.refl X.heap.size X).drew.trans (hb4.mono (by simp))
  go_wp2_with fail
  refine hK.out _ _ HB4 (fun hHeld => ?_)
  clear hK KQ
  try simp only [Act.put, List.setIfInBounds_toArray, List.set_cons_zero, List.set_cons_succ]
  refine wpAnyH_ready (rs := [9]) (by kernel_rfl) (by simp) (AllReadyH.cons (o := ⟨some 12, .call { callee := .value (.func 143), args := #[.tmp 11], argTypes := #[213] }, 26, "mac.go:49", #[⟨8, .data⟩, ⟨4, .chain⟩], none⟩) rfl (fun KQ hK => ?_) AllReadyH.nil)
  go_simp
  refine (SU.out _ HB4).mono ?_
  rintro e w5 ⟨rfl, hb5⟩
  have HB5 : But W.heap.size X w5 := HB4.more hb5
  replace hg4 : X.heap.size ≤ g4 := by simpa using hg4
  have D5 : Hid (DigL w5 g4 (xorL 1549556828 K)) := D4.below hb5
  go_wp2_with fail
  refine hK.out _ _ HB5 (fun hHeld => ?_)
  clear hK KQ
  try simp only [Act.put, List.setIfInBounds_toArray, List.set_cons_zero, List.set_cons_succ]
  refine wpAnyH_ready (rs := [10]) (by kernel_rfl) (by simp) (AllReadyH.cons (o := ⟨some 13, .call { callee := .value (.func 141), args := #[.tmp 7, .tmp 12], argTypes := #[213, 26] }, 26, "mac.go:49", #[⟨4, .data⟩, ⟨9, .data⟩, ⟨9, .chain⟩], none⟩) rfl (fun KQ hK => ?_) AllReadyH.nil)
  go_simp
  refine (OS.out _ g4 HB5 hg4 D5.out).mono ?_
  rintro e w6 ⟨rfl, bt6⟩
  have HB6 : But W.heap.size X w6 := HB5.skip bt6 hg4
  have BZ6 : Hid (Blk w6 W.heap.size .u32 26 Z) := bt6.blk ((BZ.out.on hx4).on hb5) (by omega)
  go_wp2_with fail
  refine hK.out _ _ HB6 (fun hHeld => ?_)
  clear hK KQ
  try simp only [Act.put, List.setIfInBounds_toArray, List.set_cons_zero, List.set_cons_succ]
  refine wpAnyH_ready (rs := [11]) (by kernel_rfl) (by simp) (AllReadyH.cons (o := ⟨none, .store 26 (.tmp 2) (.tmp 13), 0, "mac.go:49", #[⟨10, .data⟩, ⟨10, .chain⟩, ⟨0, .phase⟩, ⟨1, .phase⟩, ⟨2, .phase⟩, ⟨3, .phase⟩, ⟨4, .phase⟩, ⟨5, .phase⟩, ⟨6, .phase⟩, ⟨7, .phase⟩, ⟨8, .phase⟩, ⟨9, .phase⟩, ⟨10, .phase⟩], none⟩) rfl (fun KQ hK => ?_) AllReadyH.nil)
  rw [if_pos (by rfl)]
  refine wp_store_row8 26 _ _ rfl W.heap.size R rfl rfl BZ6.out (by rw [hZl]; exact size26) (by rw [hZl, hRl]) ?_
  refine hK.out _ _ (HB6.trans (but_setRow _ _ _)) (fun hHeld => ?_)
  clear hK KQ
  simp only [Act.put]
  refine wpAnyH_done (by kernel_rfl) ?_ _
  have HL : Hid (Below W.heap.size W w6) := HB.out.trans (HB6.below (Nat.le_refl _) (by omega))
  clear HB6 HB5 HB4 D4 D5 hb4 hb5 bt6 hHeld
  go_wp2_with fail
  refine ret_cell rfl rfl W.heap.size R rfl (BZ6.out.setRow _) Tryz.underlying26 hsR ⟨?_, below_setRow HL.out (Nat.le_refl _) _⟩
  rw [HF.out]
end Go.Proofs.YtbpdmkohihgnjaaGreatDoor
namespace Go.Proofs.YtbpdmkohihgnjaaGreatDoor
open Go.RowKit


attribute [-simp] Tryz.isAgg26 Tryz.sizeOf26 Tryz.zeroValue26 Tryz.isAgg197 Tryz.sizeOf197 Tryz.zeroValue197
end Go.Proofs.YtbpdmkohihgnjaaGreatDoor
