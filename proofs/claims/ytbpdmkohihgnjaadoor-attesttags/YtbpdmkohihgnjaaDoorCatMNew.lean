/- slices.Concat and slices.Grow over bytes; appends onto a list of the call's own. Package mac: New, (*Mac).Tag. -/
import Derived.Test.YtbpdmkohihgnjaaDoorMthWrdDigLMKey
import Derived.Lib.AppendZeros
import Derived.Test.YtbpdmkohihgnjaaDoorMKb
namespace Go.Proofs.YtbpdmkohihgnjaaDoor
open Go.RowKit

theorem Holds.alloc {W wr : World} {k : IntKind} {e : TypeId} {v : Value} {L : List Int} (h : Holds W wr k e v L) (o : Obj) : Holds W (wr.alloc o) k e v L := ⟨h.own.alloc o, h.below.alloc h.below.size o⟩
theorem Holds.drew {W wr : World} {k : IntKind} {e : TypeId} {v : Value} {L : List Int} (h : Holds W wr k e v L) : Holds W wr.drew k e v L := ⟨h.own, h.below.drew⟩
/-- append(own, x...), whatever x is. -/
theorem wpList_append_at {P : Program} {W w : World} {ops : Array Oper} {rest : List Oper} {o : Oper} {a : Act} {Q : Exit → Act → World → Prop} (hgd : o.guard = none) (s x : Operand) (t : TypeId)
    (ho : o.op = .call { callee := .builtin .append, args := #[s, x], argTypes := #[t, t] }) (k : IntKind) (e : TypeId) (i : TypeInfo) (z : Value) (bytes : Nat) (ht : P.underlying t = some (.slice e)) (hi : P.info? e = some i) (hz : i.zero = some z) (hsize : i.size = 1) (hby : i.bytes = bytes) (hzs : z.cells.size = 1)
    (v : Value) (L : List Int) (hs : a.eval s = v) (H : Holds W w k e v L) (ao : Option Addr) (m c : Nat) (xs : List Int) (hx : a.eval x = .slice ao m c) (hl : xs.length = m) (hat : At w k ao xs) (hn : ao = none → c = 0) (h63 : L.length + m ≤ maxLen) (hbytes : (L.length + m) * bytes ≤ 140737488355328)
    (h : ∀ v' w', Holds W w' k e v' (L ++ xs) → wpList P ops Q rest (a.put o.dst v') w') : wpList P ops Q (o :: rest) a w := by
  cases ao with
  | none =>
    have hx0 : xs = [] := by
      rcases hat with h0 | ⟨b, off, h1, _⟩
      · exact h0
      · cases h1
    subst hx0
    simp at hl
    subst hl
    obtain rfl := hn rfl
    refine wpList_append_own_none hgd s x t ho W.heap.size e i 1 ht hi v L.length _ hs H.own hx ?_
    have := h v w
    rw [List.append_nil] at this
    exact this H
  | some ad =>
    obtain ⟨v', w', hr, h1, h2, _⟩ := run_append_own (P := P) w W.heap.size t o.type e i z 1 bytes ht hi hz hsize hby hzs (by decide) v L.length _ H.own ad m c (xs.map (Value.int k)) (by simp [hl]) hat.cells (ints_oneCell k xs) h63 hbytes H.below.size
    have hH : Holds W w' k e v' (L ++ xs) := Holds.grow H.below (fun g hg => (H.own.lt g hg).1) h1 h2 (by simp [hl]) (by simp)
    refine wpList_plain hgd fun K hK => ?_
    unfold Oper.wp execOp
    simp only [ho, resolve, invoke, builtin, Sem.run_bind, Sem.run_pure, Result.andThen_ok, List.map_toArray, List.map_cons, List.map_nil, hs, hx, hr]
    exact hK _ _ (h _ _ hH)
/-- A slice that came in or was made: where it has no place it has no room. -/
def Sl (ao : Option Addr) (c : Nat) : Prop := ao = none → c = 0

def joinX (X : Nat → List Int) : Nat → List Int
  | 0 => []
  | t + 1 => joinX X t ++ X t
theorem joinX_le (X : Nat → List Int) (t : Nat) : ∀ d, (joinX X t).length ≤ (joinX X (t + d)).length
  | 0 => Nat.le_refl _
  | d + 1 => by
    have := joinX_le X t d
    show _ ≤ (joinX X (t + d) ++ X (t + d)).length
    rw [List.length_append]
    omega

set_option maxRecDepth 20000 in
set_option maxHeartbeats 400000 in
theorem grow_any (W : World) (n : Nat) (hn : n ≤ 140737488355328) :
    Calls Tryd.prog 69 #[.slice none 0 0, .int .i64 (n : Int)] W fun e W' => ∃ v, e = .returned v ∧ Holds W W' .u8 5 v [] := by
  obtain ⟨i0, hi, hz0, hz1, hz2⟩ := info_parts Tryd.info5
  have i1 : (n : Int) ≤ 140737488355328 := by omega
  by_cases h0 : n = 0
  · subst h0
    have HH : Hid (Holds W W .u8 5 (.slice none 0 0) []) := Holds.start _ _ _
    go_enter Tryd.func69, Tryd.ntmps69
    go_wp2
    go_ret
    exact ⟨_, rfl, HH.out⟩
  · have i2 : (0 : Int) < (n : Int) := by omega
    have hr := Lib.run_append_nil_zeros (P := Tryd.prog) W 30 3 30 5 i0 (.int .u8 0) .i64 .i64 Tryd.underlying30 Tryd.underlying3 hi hz0 n (by omega) (by omega) (by omega) (by rw [hz2]; omega)
    have hge := grownCap_ge W n 0 5
    have hle := grownCap_le_maxLen W n 0 5 (by unfold maxLen; omega)
    generalize grownCap W n 0 5 = cap at *
    have HH : Hid (Holds W (W.drew.alloc (.cells (Builtin.zeroCells (Value.cells (.int .u8 0)) n ++ Builtin.zeroCells (Value.cells (.int .u8 0)) (cap - n)) 5)) .u8 5 (.slice (some ⟨W.heap.size, 0, none⟩) 0 cap) []) := by
      refine ⟨?_, (Below.refl W.heap.size W).drew.alloc (by simp) _⟩
      have := World.ownsRow_made (base := W.heap.size) (e := 5) (size := 1) W.drew (Builtin.zeroCells (Value.cells (.int .u8 0)) n ++ Builtin.zeroCells (Value.cells (.int .u8 0)) (cap - n)) cap (by simp) hle (by simp [Builtin.zeroCells, Value.cells]; omega)
      simpa using this
    generalize (W.drew.alloc (.cells (Builtin.zeroCells (Value.cells (.int .u8 0)) n ++ Builtin.zeroCells (Value.cells (.int .u8 0)) (cap - n)) 5)) = X at *
    clear hi hz0 hz1 hz2 hn
    have c1 : (n : Int) ≤ (cap : Int) := by omega
    have c2 : (cap : Int) ≤ 9223372036854775807 := by unfold maxLen at hle; omega
    clear hge hle h0
    go_enter Tryd.func69, Tryd.ntmps69
    go_wp2_with (first | (at_builtin; refine Lib.wpList_append_run _ rfl _ _ _ _ rfl _ _ rfl rfl _ _ hr ?_))
    go_ret
    exact ⟨_, rfl, HH.out⟩
set_option maxHeartbeats 1000000 in
theorem concat_any (W : World) (gs q c : Nat) (A : Nat → Option Addr) (N C : Nat → Nat) (X : Nat → List Int) (hq : q ≤ 1000) (hc : ∀ t, t < q → W.cell? ⟨gs, t, none⟩ = some (.slice (A t) (N t) (C t))) (hg : gs < W.heap.size)
    (hX : ∀ t, t < q → (X t).length = N t) (hat : ∀ t, t < q → At W .u8 (A t) (X t)) (hs : ∀ t, t < q → Sl (A t) (C t)) (hl : (joinX X q).length ≤ 140737488355328) :
    Calls Tryd.prog 38 #[.slice (some ⟨gs, 0, none⟩) q c] W fun e W' => ∃ v, e = .returned v ∧ Holds W W' .u8 5 v (joinX X q) := by
  obtain ⟨i0, hi, hz0, hz1, hz2⟩ := info_parts Tryd.info5
  go_enter Tryd.func38, Tryd.ntmps38
  go_wp2
  go_loopw [3, 11] (fun s i wr => ∃ t : Nat, t ≤ q ∧ i = .int .i64 t ∧ s = .int .i64 ((joinX X t).length : Int) ∧ W = wr) (fun _ i _ => q - (intOf i).toNat)
  case atStart => exact ⟨0, Nat.zero_le _, rfl, rfl, rfl⟩
  case round =>
    obtain ⟨t, ht, rfl, rfl, rfl⟩ := hrel
    by_cases hlt : t < q
    · have hct := hc t hlt
      have e1 : (joinX X (t + 1)).length = (joinX X t).length + N t := by
        show (joinX X t ++ X t).length = _
        rw [List.length_append, hX t hlt]
      have hle := joinX_le X (t + 1) (q - (t + 1))
      rw [show t + 1 + (q - (t + 1)) = q by omega] at hle
      generalize (joinX X t).length = l0 at *
      generalize A t = a at *
      generalize N t = n at *
      generalize C t = cc at *
      have HE : Hid (∀ u : Int, u = (l0 : Int) + (n : Int) → u = ((joinX X (t + 1)).length : Int)) := fun u hu => by omega
      have i1 : (l0 : Int) ≤ 140737488355328 := by omega
      have i2 : (n : Int) ≤ 140737488355328 := by omega
      have i3 : (t : Int) < (q : Int) := by omega
      have i4 : (q : Int) ≤ 1000 := by omega
      clear e1 hle hl ht hq hc hX hat hs hi hz0 hz1 hz2
      go_wp2
      go_roundw
      case rel => exact ⟨t + 1, by omega, by go_num, by congr 1; exact HE.out _ rfl, trivial⟩
      case measure => simp [intOf]; omega
    · obtain rfl : t = q := by omega
      have i1 : (t : Int) ≤ 1000 := by omega
      have GR : Hid (Calls Tryd.prog 69 #[.slice none 0 0, .int .i64 ((joinX X t).length : Int)] W fun e W' => ∃ v, e = .returned v ∧ Holds W W' .u8 5 v []) := grow_any W _ hl
      go_wp2_with (first | (go_at_call 69; refine GR.out.mono ?_; rintro e w1 ⟨v0, rfl, H0⟩))
      clear GR
      go_loopw [6, 27] (fun v i wr => ∃ k : Nat, k ≤ t ∧ i = .int .i64 k ∧ Holds W wr .u8 5 v (joinX X k)) (fun _ i _ => t - (intOf i).toNat)
      case atStart => exact ⟨0, Nat.zero_le _, rfl, H0⟩
      case round =>
        clear H0
        obtain ⟨k, hk, rfl, H⟩ := hrel
        by_cases hlt' : k < t
        · have hct := hc k hlt'
          have hct' : wr.cell? ⟨gs, k, none⟩ = some (.slice (A k) (N k) (C k)) := (H.below.cell (p := ⟨gs, k, none⟩) hg).trans hct
          have hle := joinX_le X (k + 1) (t - (k + 1))
          rw [show k + 1 + (t - (k + 1)) = t by omega] at hle
          have e1 : (joinX X (k + 1)).length = (joinX X k).length + N k := by
            show (joinX X k ++ X k).length = _
            rw [List.length_append, hX k hlt']
          have h63 : (joinX X k).length + N k ≤ maxLen := by unfold maxLen; omega
          have hby : ((joinX X k).length + N k) * 1 ≤ 140737488355328 := by omega
          have i3 : (k : Int) < (t : Int) := by omega
          have HX := hX k hlt'
          have HA := (hat k hlt').below H.below
          have HS := hs k hlt'
          have HH : Hid (Holds W wr .u8 5 u6 (joinX X k)) := H
          have HN : Hid (∀ v' w', Holds W w' .u8 5 v' (joinX X k ++ X k) → Holds W w' .u8 5 v' (joinX X (k + 1))) := fun _ _ h => h
          clear hct hle e1 hl hc hX hat hs H hq
          generalize joinX X k = J at *
          generalize A k = a at *
          generalize N k = n at *
          generalize C k = cc at *
          have HS' : Hid (a = none → cc = 0) := HS
          have HA' : Hid (At wr .u8 a (X k)) := HA
          have HX' : Hid ((X k).length = n) := HX
          clear HS HA HX
          go_wp2_with (first | (at_builtin; refine wpList_append_at (W := W) rfl _ _ 30 rfl .u8 5 i0 (.int .u8 0) 1 Tryd.underlying30 hi hz0 hz1 hz2 rfl u6 J rfl HH.out a n cc (X k) rfl HX'.out HA'.out HS'.out h63 hby ?_; intro v' w3 H3; have H3' : Hid _ := HN.out _ _ H3; clear H3))
          go_roundw
          case rel => exact ⟨k + 1, by omega, by go_num, H3'.out⟩
          case measure => simp [intOf]; omega
        · obtain rfl : k = t := by omega
          have HH : Hid (Holds W wr .u8 5 u6 (joinX X k)) := H
          clear H
          go_wp2
          go_ret
          exact ⟨_, rfl, HH.out⟩
end Go.Proofs.YtbpdmkohihgnjaaDoor
namespace Go.Proofs.YtbpdmkohihgnjaaDoor
open Go.RowKit

theorem wp_store_row8 {P : Program} {op : Oper} {a : Act} {w : World} {K : Act → World → Prop} {Q : Exit → Act → World → Prop} (ty : TypeId) (x y : Operand) (ho : op.op = .store ty x y)
    (g : Nat) (L' : List Int) (hx : a.eval x = .pointer (some ⟨g, 0, none⟩)) (hy : a.eval y = Ag L') {e : TypeId} {L : List Int} (hg : Blk w g .u32 e L) (hi : (P.info? ty).map (·.size) = some L.length) (hl : L.length = L'.length)
    (h : K (a.put op.dst undef) (w.setRow g (L'.map (Value.int .u32)).toArray)) : op.wp P a w K Q := by
  have hs : (Instr.storeAt ty (.pointer (some ⟨g, 0, none⟩)) (Ag L')).run P w = .ok () (w.setRow g (L'.map (Value.int .u32)).toArray) := store_blk hg hi hl
  unfold Oper.wp execOp
  simp only [ho, hx, hy, Sem.run_bind, Sem.run_pure, hs, Result.andThen_ok]
  exact h

theorem But.skip {g h : Nat} {X w w' : World} (a : But g X w) (b : But h w w') (hh : X.heap.size ≤ h) : But g X w' := ⟨b.os.trans a.os, b.tape.trans a.tape, b.output.trans a.output, Nat.le_trans a.size b.size, fun k hk hg => (b.block k (by have := a.size; omega) (by omega)).trans (a.block k hk hg)⟩
theorem But.more {g : Nat} {X w w' : World} (a : But g X w) (b : Below w.heap.size w w') : But g X w' := a.trans (Below.but b)
/-- A message on its way: the block of the handle, of what is inside, of what goes ahead of the outer words. -/
structure MacH (W : World) (gm gi go : Nat) (K L : List Int) : Prop where
  cel : Cel W gm 72 [.pointer (some ⟨gi, 0, none⟩), .pointer (some ⟨go, 0, none⟩)]
  inner : DigL W gi (xorL 909522486 K ++ L)
  outer : DigL W go (xorL 1549556828 K)
  kl : K.length = 16
  mi : gm ≠ gi
  mo : gm ≠ go
  io : gi ≠ go
  lm : 13 ≤ gm
  li : 13 ≤ gi
  lo : 13 ≤ go
theorem MacH.on {W w : World} {gm gi go : Nat} {K L : List Int} (h : MacH W gm gi go K L) (hb : Below W.heap.size W w) : MacH w gm gi go K L := ⟨h.cel.below hb h.cel.lt, h.inner.below hb, h.outer.below hb, h.kl, h.mi, h.mo, h.io, h.lm, h.li, h.lo⟩
theorem MacH.but {W w : World} {g gm gi go : Nat} {K L : List Int} (h : MacH W gm gi go K L) (hb : But g W w) (h1 : gm ≠ g) (h2 : gi ≠ g) (h3 : go ≠ g) : MacH w gm gi go K L := ⟨h.cel.but hb h1, h.inner.but hb h2, h.outer.but hb h3, h.kl, h.mi, h.mo, h.io, h.lm, h.li, h.lo⟩
/-- More words inside. -/
theorem MacH.turn {W w : World} {gm gi go : Nat} {K L L' : List Int} (h : MacH W gm gi go K L) (hb : But gi W w) (D : DigL w gi (xorL 909522486 K ++ L')) : MacH w gm gi go K L' := ⟨h.cel.but hb h.mi, D, h.outer.but hb (Ne.symm h.io), h.kl, h.mi, h.mo, h.io, h.lm, h.li, h.lo⟩

attribute [-simp] Tryd.isAgg23 Tryd.sizeOf23 Tryd.zeroValue23 Tryd.isAgg77 Tryd.sizeOf77 Tryd.zeroValue77
set_option maxRecDepth 20000 in
set_option maxHeartbeats 1000000 in
theorem new_mac (W : World) (hT : Tabs W) (ao : Option Addr) (n c : Nat) (xs : List Int) (hx : xs.length = n) (wx : Wds xs) (hat : At W .u32 ao xs) (hn : 4 * n ≤ 140737488351232) :
    Calls Tryd.prog 30 #[.slice ao n c] W fun e W' => ∃ gm gi go, W.heap.size ≤ gm ∧ W.heap.size ≤ gi ∧ W.heap.size ≤ go ∧ e = .returned (.pointer (some ⟨gm, 0, none⟩)) ∧ MacH W' gm gi go (keyW (bytesD xs)) [] ∧ Below W.heap.size W W' := by
  obtain ⟨Z, hZ⟩ : ∃ Z : List Int, Z = List.replicate 16 0 := ⟨_, rfl⟩
  have hZl : Z.length = 16 := by rw [hZ]; simp
  have hz : ∀ w, (zeroValue 77).run Tryd.prog w = .ok (.agg (Z.map (Value.int .u32)).toArray) w := fun w => by rw [Tryd.zeroValue77, hZ]; rfl
  clear hZ
  have hsz := hT.sz
  go_enter Tryd.func30, Tryd.ntmps30
  go_wp2_with fail
  refine (bytes_at W hT.lows ao n c xs hx wx hat hn (by omega)).mono ?_
  rintro e w1 ⟨rfl, O1⟩
  have T1 : Hid (Tabs w1) := hT.on O1.below
  have HB : Hid (Below W.heap.size W w1) := O1.below
  have A1 : Hid (At w1 .u8 (some ⟨W.heap.size, 0, none⟩) (bytesD xs)) := O1.at
  have hl : (bytesD xs).length = 4 * n := by rw [bytesD_length, hx]
  have KB := bytesD_bts xs
  obtain ⟨bs, hbs⟩ : ∃ bs, bytesD xs = bs := ⟨_, rfl⟩
  rw [hbs] at A1 hl KB
  clear O1 wx hat hx
  go_wp2_with fail
  refine (keyBlock_any w1 T1.out _ (4 * n) (4 * n) bs hl KB A1.out (Nat.le_refl _) (by omega)).mono ?_
  rintro e w2 ⟨rfl, hb2⟩
  have hk := keyW_length bs
  obtain ⟨K, hK⟩ : ∃ K, keyW bs = K := ⟨_, rfl⟩
  have HK : Hid (keyW (bytesD xs) = K) := by rw [hbs]; exact hK
  rw [hK] at hk ⊢
  clear hK hbs
  have hs : (Tryd.prog.info? 77).map (·.size) = some K.length := by rw [hk]; exact size64
  replace T1 : Hid (Tabs w2) := T1.out.on hb2
  replace HB : Hid (Below W.heap.size W w2) := HB.out.trans (hb2.mono HB.out.size)
  have z2 := HB.out.size
  clear hb2 A1 KB hl
  go_wp2_with (first | (refine wpList_store_but rfl 77 _ _ rfl w2.heap.size K rfl rfl (Blk.new w2 .u32 77 Z) hs (hZl.trans hk.symm) ?_; intro w3 b3 hw3 hs3))
  have BK : Hid (Blk w3 w2.heap.size .u32 77 K) := b3
  replace T1 : Hid (Tabs w3) := (T1.out.on (below_one w2 _)).but hw3 (by omega)
  replace HB : Hid (Below W.heap.size W w3) := (HB.out.alloc z2 _).trans (hw3.below z2 (by simp; omega))
  have z3 : w2.heap.size < w3.heap.size := b3.lt
  clear b3 hw3 hs3 hn
  generalize w2.heap.size = gk at *
  have LK : Hid (∀ w, Below w3.heap.size w3 w → w.rangeAt gk 0 (K.map (Value.int .u32))) := fun w hb => (BK.out.row.below hb z3).range
  have ST : Hid (∀ w p, Below w3.heap.size w3 w → Calls Tryd.prog 40 #[.agg (K.map (Value.int .u32)).toArray, .int .u32 p] w fun e W' => ∃ g, w.heap.size ≤ g ∧ e = .returned (.pointer (some ⟨g, 0, none⟩)) ∧ DigL W' g (xorL p K) ∧ Below w.heap.size w W') := fun w p hb => started_any w (T1.out.on hb) K hk p
  refine wp_region_held_drew (S := fun w => Below w3.heap.size w3 w) (by kernel_rfl) (Below.refl _ _).drew (fun hHeld => ?_)
  refine wpAnyH_take (i := 0) (oi := { dst := some 7, op := Op.load 77 (Operand.tmp 3), type := 77, pos := "mac.go:45", after := #[], guard := none }) (v := .agg (K.map (Value.int .u32)).toArray) rfl (by kernel_rfl) (by kernel_rfl) (by kernel_rfl) (fun _ _ _ h => h) (yieldsIf_load_mid (by rfl) _ _ rfl _ _ rfl _ _ (fun w hSw => LK.out w hSw) Tryd.underlying77 rfl (by rw [List.length_map]; exact hs)) (by assumption) ?_
  simp only [Act.put, List.setIfInBounds_toArray, List.set_cons_zero, List.set_cons_succ]
  refine wpAnyH_take (i := 2) (oi := { dst := some 9, op := Op.load 77 (Operand.tmp 3), type := 77, pos := "mac.go:45", after := #[], guard := none }) (v := .agg (K.map (Value.int .u32)).toArray) rfl (by kernel_rfl) (by kernel_rfl) (by kernel_rfl) (fun _ _ _ h => h) (yieldsIf_load_mid (by rfl) _ _ rfl _ _ rfl _ _ (fun w hSw => LK.out w hSw) Tryd.underlying77 rfl (by rw [List.length_map]; exact hs)) (by assumption) ?_
  simp only [Act.put, List.setIfInBounds_toArray, List.set_cons_zero, List.set_cons_succ]
  refine wpAnyH_ready (rs := [1]) (by kernel_rfl) (by simp) (AllReadyH.cons (o := { dst := some 8, op := Op.call { callee := Callee.value (Operand.func 40), args := #[Operand.tmp 7, Operand.const (Value.int IntKind.u32 909522486)], argTypes := #[77, 22] }, type := 70, pos := "mac.go:45", after := #[{ on := 0, ground := Ground.data }], guard := none }) rfl (fun KQ hK => ?_) AllReadyH.nil)
  go_simp
  refine (ST.out _ 909522486 (Below.refl _ _).drew).mono ?_
  rintro e w4 ⟨gi, hgi, rfl, Di, hb4⟩
  have HB4 : Below w3.heap.size w3 w4 := (Below.refl _ _).drew.trans (hb4.mono (by simp))
  go_wp2_with fail
  refine hK.out _ _ HB4 (fun hHeld => ?_)
  clear hK KQ
  try simp only [Act.put, List.setIfInBounds_toArray, List.set_cons_zero, List.set_cons_succ]
  refine wpAnyH_ready (rs := [3]) (by kernel_rfl) (by simp) (AllReadyH.cons (o := { dst := some 10, op := Op.call { callee := Callee.value (Operand.func 40), args := #[Operand.tmp 9, Operand.const (Value.int IntKind.u32 1549556828)], argTypes := #[77, 22] }, type := 70, pos := "mac.go:45", after := #[{ on := 2, ground := Ground.data }, { on := 1, ground := Ground.chain }], guard := none }) rfl (fun KQ hK => ?_) AllReadyH.nil)
  go_simp
  refine (ST.out _ 1549556828 HB4).mono ?_
  rintro e w5 ⟨go, hgo, rfl, Do, hb5⟩
  have HB5 : Below w3.heap.size w3 w5 := HB4.trans (hb5.mono HB4.size)
  go_wp2_with fail
  refine hK.out _ _ HB5 (fun hHeld => ?_)
  clear hK KQ
  try simp only [Act.put, List.setIfInBounds_toArray, List.set_cons_zero, List.set_cons_succ]
  refine wpAnyH_take (i := 4) (oi := { dst := some 11, op := Op.build 72 #[(0, Operand.tmp 8), (1, Operand.tmp 10)], type := 72, pos := "mac.go:45", after := #[{ on := 1, ground := Ground.data }, { on := 3, ground := Ground.data }], guard := none }) (v := .agg #[.pointer (some ⟨gi, 0, none⟩), .pointer (some ⟨go, 0, none⟩)]) rfl (by kernel_rfl) (by kernel_rfl) (by kernel_rfl) (fun _ _ _ h => h) (Or.inl ⟨by rfl, by intro w hSw; go_simp⟩) (by assumption) ?_
  simp only [Act.put, List.setIfInBounds_toArray, List.set_cons_zero, List.set_cons_succ]
  refine wpAnyH_ready (rs := [5]) (by kernel_rfl) (by simp) (AllReadyH.cons (o := { dst := some 12, op := Op.box 72 (Operand.tmp 11), type := 67, pos := "mac.go:45", after := #[{ on := 4, ground := Ground.data }], guard := none }) rfl (fun KQ hK => ?_) AllReadyH.nil)
  go_simp
  have HB6 : Below w3.heap.size w3 (w5.alloc (Obj.cells #[.pointer (some ⟨gi, 0, none⟩), .pointer (some ⟨go, 0, none⟩)] 72)) := HB5.alloc HB5.size _
  refine hK.out _ _ HB6 (fun hHeld => ?_)
  clear hK KQ
  try simp only [Act.put, List.setIfInBounds_toArray, List.set_cons_zero, List.set_cons_succ]
  refine wpAnyH_ready (rs := [6]) (by kernel_rfl) (by simp) (AllReadyH.cons (o := { dst := some 2, op := Op.assign (Operand.tmp 12), type := 67, pos := "mac.go:45", after := #[{ on := 5, ground := Ground.data }, { on := 3, ground := Ground.chain }, { on := 0, ground := Ground.phase }, { on := 1, ground := Ground.phase }, { on := 2, ground := Ground.phase }, { on := 3, ground := Ground.phase }, { on := 4, ground := Ground.phase }, { on := 5, ground := Ground.phase }], guard := none }) rfl (fun KQ hK => ?_) AllReadyH.nil)
  go_simp
  refine hK.out _ _ HB6 (fun hHeld => ?_)
  clear hK KQ
  try simp only [Act.put, List.setIfInBounds_toArray, List.set_cons_zero, List.set_cons_succ]
  refine wpAnyH_done (by kernel_rfl) ?_ _
  have H3 := HB5.size
  have H4 := Di.lt
  have H5 := Do.lt
  replace hgi : w3.heap.size ≤ gi := by simpa using hgi
  have MH : Hid (MacH (w5.alloc (Obj.cells #[.pointer (some ⟨gi, 0, none⟩), .pointer (some ⟨go, 0, none⟩)] 72)) w5.heap.size gi go K []) := by
    refine ⟨heap_alloc_new _ _, ?_, Do.below (below_one _ _), hk, by have := hb5.size; omega, by omega, by omega, by omega, by omega, by omega⟩
    rw [List.append_nil]
    exact (Di.below hb5).below (below_one _ _)
  have HE : Hid (Below W.heap.size W (w5.alloc (Obj.cells #[.pointer (some ⟨gi, 0, none⟩), .pointer (some ⟨go, 0, none⟩)] 72))) := HB.out.trans (HB6.mono HB.out.size)
  have zi : W.heap.size ≤ gi := by have := HB.out.size; omega
  have zo : W.heap.size ≤ go := by have := HB.out.size; have := HB4.size; omega
  have zm : W.heap.size ≤ w5.heap.size := by have := HB.out.size; omega
  clear Di Do hb4 hb5 HB4 HB5 HB6 hHeld H3 H4 H5 hgi hgo
  go_wp2_with fail
  go_ret
  rw [HK.out]
  exact ⟨w5.heap.size, gi, go, zm, zi, zo, rfl, MH.out, HE.out⟩

theorem tag_math (K : List Int) (k bs : List Int) (hk : Bts k) (hK : K = keyW k) (hw : Wds bs) : sumW (xorL 1549556828 K ++ sumW (xorL 909522486 K ++ bs)) = hmac k (bytesD bs) := by
  subst hK
  have h0 := xorL_wds 909522486 (by decide) (by decide) (keyW_wds hk)
  have h1 := xorL_wds 1549556828 (by decide) (by decide) (keyW_wds hk)
  rw [sumW_eq _ (wds_append h1 (sumW_wds _)), sumW_eq _ (wds_append h0 hw), bytesD_append, bytesD_append, bytes_inner hk, bytes_outer hk]
  rfl
theorem tag_bytes (k m : List Int) (hk : Bts k) : sumW (xorL 1549556828 (keyW k) ++ sumB (xorB 54 (key64 k) ++ m)) = hmac k m := by
  have h1 := xorL_wds 1549556828 (by decide) (by decide) (keyW_wds hk)
  rw [sumW_eq _ (wds_append h1 (sumB_wds _)), bytesD_append, bytes_outer hk]
  rfl
set_option maxRecDepth 20000 in
set_option maxHeartbeats 1000000 in
theorem tag_mac (W : World) (hT : Tabs W) (gm gi go : Nat) (K L : List Int) (M : MacH W gm gi go K L) :
    Calls Tryd.prog 32 #[.pointer (some ⟨gm, 0, none⟩)] W fun e W' => e = .returned (Ag (sumW (xorL 1549556828 K ++ sumW (xorL 909522486 K ++ L)))) ∧ Below W.heap.size W W' := by
  obtain ⟨Z, hZ⟩ : ∃ Z : List Int, Z = List.replicate 8 0 := ⟨_, rfl⟩
  have hZl : Z.length = 8 := by rw [hZ]; simp
  have hz : ∀ w, (zeroValue 23).run Tryd.prog w = .ok (.agg (Z.map (Value.int .u32)).toArray) w := fun w => by rw [Tryd.zeroValue23, hZ]; rfl
  clear hZ
  have hsz := hT.sz
  obtain ⟨X, hX⟩ : ∃ X, X = W.alloc (Obj.cells (List.map (Value.int IntKind.u32) Z).toArray 23) := ⟨_, rfl⟩
  have BZ : Hid (Blk X W.heap.size .u32 23 Z) := by rw [hX]; exact Blk.new W .u32 23 Z
  have HB : Hid (Below W.heap.size W X) := by rw [hX]; exact below_one W _
  have zX : X.heap.size = W.heap.size + 1 := by rw [hX]; simp
  have MX : Hid (MacH X gm gi go K L) := by rw [hX]; exact M.on (below_one W _)
  have TX : Hid (Tabs X) := hT.on HB.out
  have lm := M.cel.lt
  have li := M.inner.lt
  have lo := M.outer.lt
  have kl := M.kl
  clear M
  have CP : Hid (∀ w, But W.heap.size X w → w.cell? ⟨gm, 1, none⟩ = some (.pointer (some ⟨go, 0, none⟩))) := fun w hb => by
    rw [(MX.out.cel.but hb (by omega)).cell]; rfl
  have CI : Hid (∀ w, But W.heap.size X w → w.cell? ⟨gm, 0, none⟩ = some (.pointer (some ⟨gi, 0, none⟩))) := fun w hb => by
    rw [(MX.out.cel.but hb (by omega)).cell]; rfl
  obtain ⟨I, hI⟩ : ∃ I, sumW (xorL 909522486 K ++ L) = I := ⟨_, rfl⟩
  have hIl : I.length = 8 := by rw [← hI]; exact sumW_length _
  obtain ⟨R, hR⟩ : ∃ R, sumW (xorL 1549556828 K ++ I) = R := ⟨_, rfl⟩
  have hRl : R.length = 8 := by rw [← hR]; exact sumW_length _
  have hsR : (Tryd.prog.info? 23).map (·.size) = some R.length := by rw [hRl]; exact size26
  have CO : Hid (∀ w, But W.heap.size X w → Calls Tryd.prog 61 #[.pointer (some ⟨go, 0, none⟩)] w fun e W' => ∃ g', w.heap.size ≤ g' ∧ e = .returned (.pointer (some ⟨g', 0, none⟩)) ∧ DigL W' g' (xorL 1549556828 K) ∧ Below w.heap.size w W') := fun w hb => copyL_any w go _ (MX.out.outer.but hb (by omega))
  have SU : Hid (∀ w, But W.heap.size X w → Calls Tryd.prog 62 #[.pointer (some ⟨gi, 0, none⟩)] w fun e W' => e = .returned (.agg (I.map (Value.int .u32)).toArray) ∧ Below w.heap.size w W') := fun w hb => by
    have T' := TX.out.but hb (by omega)
    have := sumL_any w T'.sha T'.sz gi _ (MX.out.inner.but hb (by omega))
    rw [hI] at this
    exact this
  have OS : Hid (∀ w g', But W.heap.size X w → X.heap.size ≤ g' → DigL w g' (xorL 1549556828 K) → Calls Tryd.prog 39 #[.pointer (some ⟨g', 0, none⟩), .agg (I.map (Value.int .u32)).toArray] w fun e W' => e = .returned (.agg (R.map (Value.int .u32)).toArray) ∧ But g' w W') := fun w g' hb hg D => by
    have := outerSum_any w (TX.out.but hb (by omega)) g' _ D (by rw [xorL_length, kl]; decide) (by omega) I hIl
    rw [hR] at this
    exact this
  have HF : Hid (sumW (xorL 1549556828 K ++ sumW (xorL 909522486 K ++ L)) = R) := by rw [hI]; exact hR
  clear hI hR MX TX kl hT
  go_enter Tryd.func32, Tryd.ntmps32
  go_wp2_with fail
  rw [← hX]
  clear hX
  refine wp_region_held_drew (S := fun w => But W.heap.size X w) (by kernel_rfl) (Below.but (Below.refl _ _).drew) (fun hHeld => ?_)
  refine wpAnyH_take (i := 0) (oi := { dst := some 3, op := Op.move (Operand.tmp 0), type := 67, pos := "mac.go:49", after := #[], guard := none }) (v := .pointer (some ⟨gm, 0, none⟩)) rfl (by kernel_rfl) (by kernel_rfl) (by kernel_rfl) (fun _ _ _ h => h) (Or.inl ⟨by rfl, by intro w hSw; go_simp⟩) (by assumption) ?_
  simp only [Act.put, List.setIfInBounds_toArray, List.set_cons_zero, List.set_cons_succ]
  refine wpAnyH_take (i := 5) (oi := { dst := some 8, op := Op.move (Operand.tmp 0), type := 67, pos := "mac.go:49", after := #[], guard := none }) (v := .pointer (some ⟨gm, 0, none⟩)) rfl (by kernel_rfl) (by kernel_rfl) (by kernel_rfl) (fun _ _ _ h => h) (Or.inl ⟨by rfl, by intro w hSw; go_simp⟩) (by assumption) ?_
  simp only [Act.put, List.setIfInBounds_toArray, List.set_cons_zero, List.set_cons_succ]
  refine wpAnyH_take (i := 1) (oi := { dst := some 4, op := Op.nilCheck (Operand.tmp 3), type := 0, pos := "mac.go:49", after := #[{ on := 0, ground := Ground.data }], guard := none }) (v := .pointer (some ⟨gm, 0, none⟩)) rfl (by kernel_rfl) (by kernel_rfl) (by kernel_rfl) (fun _ _ _ h => h) (Or.inl ⟨by rfl, by intro w hSw; go_simp⟩) (by assumption) ?_
  simp only [Act.put, List.setIfInBounds_toArray, List.set_cons_zero, List.set_cons_succ]
  refine wpAnyH_take (i := 6) (oi := { dst := some 9, op := Op.nilCheck (Operand.tmp 8), type := 0, pos := "mac.go:49", after := #[{ on := 5, ground := Ground.data }], guard := none }) (v := .pointer (some ⟨gm, 0, none⟩)) rfl (by kernel_rfl) (by kernel_rfl) (by kernel_rfl) (fun _ _ _ h => h) (Or.inl ⟨by rfl, by intro w hSw; go_simp⟩) (by assumption) ?_
  simp only [Act.put, List.setIfInBounds_toArray, List.set_cons_zero, List.set_cons_succ]
  refine wpAnyH_take (i := 2) (oi := { dst := some 5, op := Op.fieldAddr 72 (Operand.tmp 4) 1, type := 0, pos := "mac.go:49", after := #[{ on := 1, ground := Ground.data }], guard := none }) (v := .pointer (some ⟨gm, 1, none⟩)) rfl (by kernel_rfl) (by kernel_rfl) (by kernel_rfl) (fun _ _ _ h => h) (Or.inl ⟨by rfl, by intro w hSw; go_simp⟩) (by assumption) ?_
  simp only [Act.put, List.setIfInBounds_toArray, List.set_cons_zero, List.set_cons_succ]
  refine wpAnyH_take (i := 7) (oi := { dst := some 10, op := Op.fieldAddr 72 (Operand.tmp 9) 0, type := 0, pos := "mac.go:49", after := #[{ on := 6, ground := Ground.data }], guard := none }) (v := .pointer (some ⟨gm, 0, none⟩)) rfl (by kernel_rfl) (by kernel_rfl) (by kernel_rfl) (fun _ _ _ h => h) (Or.inl ⟨by rfl, by intro w hSw; go_simp⟩) (by assumption) ?_
  simp only [Act.put, List.setIfInBounds_toArray, List.set_cons_zero, List.set_cons_succ]
  refine wpAnyH_take (i := 3) (oi := { dst := some 6, op := Op.load 70 (Operand.tmp 5), type := 70, pos := "mac.go:49", after := #[{ on := 2, ground := Ground.data }], guard := none }) (v := .pointer (some ⟨go, 0, none⟩)) rfl (by kernel_rfl) (by kernel_rfl) (by kernel_rfl) (fun _ _ _ h => h) (Or.inl ⟨by rfl, by intro w hSw; have hcc := CP.out w hSw; go_simp⟩) (by assumption) ?_
  simp only [Act.put, List.setIfInBounds_toArray, List.set_cons_zero, List.set_cons_succ]
  refine wpAnyH_take (i := 8) (oi := { dst := some 11, op := Op.load 70 (Operand.tmp 10), type := 70, pos := "mac.go:49", after := #[{ on := 7, ground := Ground.data }], guard := none }) (v := .pointer (some ⟨gi, 0, none⟩)) rfl (by kernel_rfl) (by kernel_rfl) (by kernel_rfl) (fun _ _ _ h => h) (Or.inl ⟨by rfl, by intro w hSw; have hcc := CI.out w hSw; go_simp⟩) (by assumption) ?_
  simp only [Act.put, List.setIfInBounds_toArray, List.set_cons_zero, List.set_cons_succ]
  refine wpAnyH_ready (rs := [4]) (by kernel_rfl) (by simp) (AllReadyH.cons (o := { dst := some 7, op := Op.call { callee := Callee.value (Operand.func 61), args := #[Operand.tmp 6], argTypes := #[70] }, type := 70, pos := "mac.go:49", after := #[{ on := 3, ground := Ground.data }], guard := none }) rfl (fun KQ hK => ?_) AllReadyH.nil)
  go_simp
  refine (CO.out _ (Below.but (Below.refl _ _).drew)).mono ?_
  rintro e w4 ⟨g4, hg4, rfl, D4, hb4⟩
  have HB4 : But W.heap.size X w4 := But.more (Below.but (Below.refl _ _).drew) hb4
  have hx4 : Below X.heap.size X w4 := (Below.refl X.heap.size X).drew.trans (hb4.mono (by simp))
  go_wp2_with fail
  refine hK.out _ _ HB4 (fun hHeld => ?_)
  clear hK KQ
  try simp only [Act.put, List.setIfInBounds_toArray, List.set_cons_zero, List.set_cons_succ]
  refine wpAnyH_ready (rs := [9]) (by kernel_rfl) (by simp) (AllReadyH.cons (o := { dst := some 12, op := Op.call { callee := Callee.value (Operand.func 62), args := #[Operand.tmp 11], argTypes := #[70] }, type := 23, pos := "mac.go:49", after := #[{ on := 8, ground := Ground.data }, { on := 4, ground := Ground.chain }], guard := none }) rfl (fun KQ hK => ?_) AllReadyH.nil)
  go_simp
  refine (SU.out _ HB4).mono ?_
  rintro e w5 ⟨rfl, hb5⟩
  have HB5 : But W.heap.size X w5 := HB4.more hb5
  replace hg4 : X.heap.size ≤ g4 := by simpa using hg4
  have D5 : Hid (DigL w5 g4 (xorL 1549556828 K)) := D4.below hb5
  go_wp2_with fail
  refine hK.out _ _ HB5 (fun hHeld => ?_)
  clear hK KQ
  try simp only [Act.put, List.setIfInBounds_toArray, List.set_cons_zero, List.set_cons_succ]
  refine wpAnyH_ready (rs := [10]) (by kernel_rfl) (by simp) (AllReadyH.cons (o := { dst := some 13, op := Op.call { callee := Callee.value (Operand.func 39), args := #[Operand.tmp 7, Operand.tmp 12], argTypes := #[70, 23] }, type := 23, pos := "mac.go:49", after := #[{ on := 4, ground := Ground.data }, { on := 9, ground := Ground.data }, { on := 9, ground := Ground.chain }], guard := none }) rfl (fun KQ hK => ?_) AllReadyH.nil)
  go_simp
  refine (OS.out _ g4 HB5 hg4 D5.out).mono ?_
  rintro e w6 ⟨rfl, bt6⟩
  have HB6 : But W.heap.size X w6 := HB5.skip bt6 hg4
  have BZ6 : Hid (Blk w6 W.heap.size .u32 23 Z) := bt6.blk ((BZ.out.on hx4).on hb5) (by omega)
  go_wp2_with fail
  refine hK.out _ _ HB6 (fun hHeld => ?_)
  clear hK KQ
  try simp only [Act.put, List.setIfInBounds_toArray, List.set_cons_zero, List.set_cons_succ]
  refine wpAnyH_ready (rs := [11]) (by kernel_rfl) (by simp) (AllReadyH.cons (o := { dst := none, op := Op.store 23 (Operand.tmp 2) (Operand.tmp 13), type := 0, pos := "mac.go:49", after := #[{ on := 10, ground := Ground.data }, { on := 10, ground := Ground.chain }, { on := 0, ground := Ground.phase }, { on := 1, ground := Ground.phase }, { on := 2, ground := Ground.phase }, { on := 3, ground := Ground.phase }, { on := 4, ground := Ground.phase }, { on := 5, ground := Ground.phase }, { on := 6, ground := Ground.phase }, { on := 7, ground := Ground.phase }, { on := 8, ground := Ground.phase }, { on := 9, ground := Ground.phase }, { on := 10, ground := Ground.phase }], guard := none }) rfl (fun KQ hK => ?_) AllReadyH.nil)
  rw [if_pos (by rfl)]
  refine wp_store_row8 23 _ _ rfl W.heap.size R rfl rfl BZ6.out (by rw [hZl]; exact size26) (by rw [hZl, hRl]) ?_
  refine hK.out _ _ (HB6.trans (but_setRow _ _ _)) (fun hHeld => ?_)
  clear hK KQ
  simp only [Act.put]
  refine wpAnyH_done (by kernel_rfl) ?_ _
  have HL : Hid (Below W.heap.size W w6) := HB.out.trans (HB6.below (Nat.le_refl _) (by omega))
  clear HB6 HB5 HB4 D4 D5 hb4 hb5 bt6 hHeld
  go_wp2_with fail
  refine ret_cell rfl rfl W.heap.size R rfl (BZ6.out.setRow _) Tryd.underlying23 hsR ⟨?_, below_setRow HL.out (Nat.le_refl _) _⟩
  rw [HF.out]
end Go.Proofs.YtbpdmkohihgnjaaDoor
