/- MeasurePieces. -/
import Derived.Test.YtmomidkodjihjaaDoorMp
import Derived.Test.YtmomidkodjihjaaDoorMmMn
namespace Go.Proofs.YtmomidkodjihjaaDoor
open Go.RowKit
open H
set_option maxHeartbeats 8000000
set_option maxRecDepth 100000
attribute [-simp] Tryd.isAgg37 Tryd.sizeOf37 Tryd.zeroValue37 Tryd.isAgg44 Tryd.sizeOf44 Tryd.zeroValue44
theorem HO.range {W w : World} {b off n c : Nat} {l : List Ov} (h : HO W w (.slice (some ⟨b, off, none⟩) n c) l) {j : Nat} {x : Ov} (hx : l[j]? = some x) : w.rangeAt b (off + j * 3) x.cs := by
  obtain ⟨b', off', e, hc⟩ := h.ol'.1.at hx
  injection e with e
  injection e with e1 e2
  subst e1 e2
  obtain ⟨c0, c1, c2⟩ := hc w (Below.refl _ _)
  intro i u hu
  have hi : i < 3 := (List.getElem?_eq_some_iff.1 hu).1
  match i, hi with
  | 0, _ => simp only [Ov.cs, List.getElem?_cons_zero, Option.some.injEq] at hu; subst hu; exact c0
  | 1, _ => simp only [Ov.cs, List.getElem?_cons_zero, List.getElem?_cons_succ, Option.some.injEq] at hu; subst hu; exact c1
  | 2, _ => simp only [Ov.cs, List.getElem?_cons_zero, List.getElem?_cons_succ, Option.some.injEq] at hu; subst hu; exact c2
theorem blk_cel {w : World} {g t : Nat} {L : List Int} (h : Blk w g .u32 t L) : Cel w g t (L.map (Value.int .u32)) := h
theorem box_below {w w' : World} (ob : Obj) (hb : But w.heap.size (w.alloc ob) w') : Below w.heap.size w w' := (below_one w ob).trans (hb.below (Nat.le_refl _) (by simp))
/-- The list, and the two states. -/
structure PS (W w : World) (v : Value) (lo : List Ov) (g6 g7 : Nat) (s h : List Int) : Prop where
  ho : HO W w v lo
  b6 : Blk w g6 .u32 37 s
  b7 : Blk w g7 .u32 37 h
  ne : g6 ≠ g7
  w6 : W.heap.size ≤ g6
  w7 : W.heap.size ≤ g7
theorem PS.on {W w w' : World} {v : Value} {lo : List Ov} {g6 g7 : Nat} {s h : List Int} (x : PS W w v lo g6 g7 s h) (hb : Below w.heap.size w w') : PS W w' v lo g6 g7 s h := ⟨x.ho.on hb, x.b6.on hb, x.b7.on hb, x.ne, x.w6, x.w7⟩
theorem PS.but {W w w' : World} {v : Value} {lo : List Ov} {g6 g7 : Nat} {s h : List Int} (x : PS W w v lo g6 g7 s h) {g t : Nat} {cs : List Value} (hc : Cel w g t cs) (hb : But g w w') (hg : W.heap.size ≤ g) (ht : t ≠ 24) (ht3 : t ≠ 43) (n6 : g6 ≠ g) (n7 : g7 ≠ g) : PS W w' v lo g6 g7 s h :=
  ⟨x.ho.but hb hg (cel_ty x.ho.own hc ht3) hc ht, hb.blk x.b6 n6, hb.blk x.b7 n7, x.ne, x.w6, x.w7⟩
theorem PS.put6 {W w w' : World} {v : Value} {lo : List Ov} {g6 g7 : Nat} {s h s' : List Int} (x : PS W w v lo g6 g7 s h) (hb : But g6 w w') (hs : Blk w' g6 .u32 37 s') : PS W w' v lo g6 g7 s' h :=
  ⟨x.ho.but hb x.w6 (cel_ty x.ho.own (blk_cel x.b6) (by decide)) (blk_cel x.b6) (by decide), hs, hb.blk x.b7 (Ne.symm x.ne), x.ne, x.w6, x.w7⟩
theorem PS.put7 {W w w' : World} {v : Value} {lo : List Ov} {g6 g7 : Nat} {s h h' : List Int} (x : PS W w v lo g6 g7 s h) (hb : But g7 w w') (hs : Blk w' g7 .u32 37 h') : PS W w' v lo g6 g7 s h' :=
  ⟨x.ho.but hb x.w7 (cel_ty x.ho.own (blk_cel x.b7) (by decide)) (blk_cel x.b7) (by decide), hb.blk x.b6 x.ne, hs, x.ne, x.w6, x.w7⟩
theorem OL.take {W : World} {ao : Option Addr} {l : List Ov} (h : OL W ao l) (k : Nat) : OL W ao (l.take k) := by
  refine ⟨?_, fun x hx => h.ws x (List.mem_of_mem_take hx)⟩
  rcases h.row with h0 | ⟨b, off, h1, h2, h3⟩
  · exact .inl (by rw [h0]; simp)
  · refine .inr ⟨b, off, h1, h2, fun i x hx => h3 i x ?_⟩
    rw [List.getElem?_take] at hx
    split at hx
    · exact hx
    · cases hx
/-- A load of a whole array, guarded or not. -/
theorem wpList_load_bg {P : Program} {ops : Array Oper} {rest : List Oper} {o : Oper} {a : Act} {w : World} {Q : Exit → Act → World → Prop} (hw : Region.wanted o (yielded ops a.tmps) = true) (ty : TypeId) (x : Operand) (ho : o.op = .load ty x)
    (g : Nat) (L : List Int) (hx : a.eval x = .pointer (some ⟨g, 0, none⟩)) {e t : TypeId} {n : Nat} (hg : Blk w g .u32 e L) (hu : P.underlying ty = some (.array n t)) (hi : (P.info? ty).map (·.size) = some L.length)
    (h : wpList P ops Q rest (a.put o.dst (.agg (L.map (Value.int .u32)).toArray)) w) : wpList P ops Q (o :: rest) a w := by
  rw [wpList, if_pos hw]
  exact .inl (wp_load_mid ty x ho g 0 hx _ _ (cel_range (blk_cel hg)) hu rfl (by rw [List.length_map]; exact hi) h)
theorem blk_ne {w : World} {g g' t t' : Nat} {L L' : List Int} (h : Blk w g .u32 t L) (h' : Blk w g' .u32 t' L') (ht : t ≠ t') : g ≠ g' := fun e => by
  subst e
  have := Option.some.inj (h.symm.trans h')
  injection this with _ h5
  exact ht h5
def sv (PL : List MOp) (j : Nat) : List Int := saveOf (enc (PL.take j))
theorem pieces_l (W : World) (hT : Tab W) (h2 : 1 < W.heap.size) (bo : Option Addr) (m d : Nat) (l : List Lv) (hl : l.length = m) (hL : LL W bo l) (hb : m * 56 ≤ 140737488355328) (hW : ∀ x ∈ l, LvW x) (cu : Int) :
    Calls Tryd.prog 4 #[.slice bo m d, .int .i64 cu] W fun e W' => e = .returned (.bool true) ∧ Below W.heap.size W W' := by
  have HKn := hid (fun w (hw : Below W.heap.size W w) => known_any w (hT.below hw h2) (by have := hw.size; omega))
  have HCo := hid (copied_any W bo m d l hl hL hb)
  have HPl := hid (fun w' u (hu : HL W w' u l) => plain_any W w' u l hu hL.ld 8 (by decide) (by omega))
  obtain ⟨PL, hPL⟩ : ∃ PL, PL = (l.take 8).map plainO := ⟨_, rfl⟩
  have okP : ∀ o ∈ PL, o.Ok := by rw [hPL]; exact plainL_ok l 8
  have wP : Wds (enc PL) := by rw [hPL]; exact wds_enc _ (fun x hx => hW x (List.mem_of_mem_take hx))
  have lP : (enc PL).length ≤ 8208 := by rw [hPL]; exact plainL_len l 8 (by decide)
  have nP : PL.length ≤ 8 := by rw [hPL, List.length_map, List.length_take]; omega
  rw [← hPL] at HPl
  clear hPL
  have wJ : ∀ j, Wds (enc (PL.take j)) := fun j => by
    have e : enc PL = enc (PL.take j) ++ enc (PL.drop j) := by rw [← enc_app, List.take_append_drop]
    have := wds_take wP (enc (PL.take j)).length
    rw [e, List.take_left] at this
    exact this
  have lJ : ∀ j, (enc (PL.take j)).length ≤ 8208 := fun j => Nat.le_trans (enc_take_le PL j) lP
  have HEx := hid (fun w (hw : Below W.heap.size W w) (j : Nat) (x : Ov) (hx : PL[j]? = some x.o) (ha : At w .u32 x.p x.o.ws) => by
    have h1 := extend_ok w (hT.below hw h2) (by have := hw.size; omega) (enc (PL.take j)) (wJ j) (by have := lJ j; omega) x.o (okP _ (List.mem_of_getElem? hx)) x.p x.c ha
    rw [show enc (PL.take j) ++ x.o.wds = enc (PL.take (j + 1)) by rw [List.take_add_one, hx, enc_app]; simp [enc]] at h1
    exact h1)
  have HFi := hid (fun w (hw : Below W.heap.size W w) (j : Nat) => finish_ok w (hT.below hw h2) (by have := hw.size; omega) (enc (PL.take j)) (wJ j) (by have := lJ j; omega))
  have HMe : Hid (∀ w, Below W.heap.size W w → ∀ p n c (lo : List Ov), lo.length = n → OL w p lo → (∃ j, lo.map Ov.o = PL.take j) → Calls Tryd.prog 17 #[.slice p n c] w fun e W' => e = .returned (.tuple #[Ag (sumW (enc (lo.map Ov.o))), .int .i64 0]) ∧ Below w.heap.size w W') := hid (fun w hw p n c lo hn ho ⟨j, hj⟩ => measure_ok w (hT.below hw h2) (by have := hw.size; omega) p n c lo hn ho (by rw [← hn]; have := congrArg List.length hj; rw [List.length_map, List.length_take] at this; omega) (by rw [hj]; exact fun o ho => okP o (List.mem_of_mem_take ho)) (by rw [hj]; have := lJ j; omega))
  have HSl := hid (fun j => saveOf_length (enc (PL.take j)))
  have HNP := hid nP
  clear hT h2 hl hL hb hW okP wP lP wJ lJ nP
  change Hid (∀ w, Below W.heap.size W w → ∀ (j : Nat) (x : Ov), PL[j]? = some x.o → At w .u32 x.p x.o.ws → Calls Tryd.prog 16 #[Ag (sv PL j), .agg #[.int .i64 x.o.k, .int .u32 x.o.a, .slice x.p x.o.ws.length x.c]] w fun e W' => e = .returned (.tuple #[Ag (sv PL (j + 1)), .int .i64 0]) ∧ Below w.heap.size w W') at HEx
  change Hid (∀ w, Below W.heap.size W w → ∀ j : Nat, Calls Tryd.prog 18 #[Ag (sv PL j)] w fun e W' => e = .returned (.tuple #[Ag (sumW (enc (PL.take j))), .int .i64 0]) ∧ Below w.heap.size w W') at HFi
  change Hid (∀ j, (sv PL j).length = 26) at HSl
  have HSt : Hid (∀ w, Calls Tryd.prog 15 #[] w fun e W' => e = .returned (Ag (sv PL 0)) ∧ Below w.heap.size w W') := hid (fun w => start_any w)
  obtain ⟨Z, hZ⟩ : ∃ Z : List Int, Z = List.replicate 26 0 := ⟨_, rfl⟩
  have hZl : Z.length = 26 := by rw [hZ]; simp
  have hz : ∀ w, (zeroValue 37).run Tryd.prog w = .ok (.agg (Z.map (Value.int .u32)).toArray) w := fun w => by rw [Tryd.zeroValue37, hZ]; rfl
  have HBa := hid (fun w s => extend_bad w s 9 0 none 0 0 rfl)
  rw [← hZ] at HBa
  clear hZ
  obtain ⟨Y, hY⟩ : ∃ Y : List Int, Y = List.replicate 8 0 := ⟨_, rfl⟩
  have hYl : Y.length = 8 := by rw [hY]; simp
  have hy : ∀ w, (zeroValue 44).run Tryd.prog w = .ok (.agg (Y.map (Value.int .u32)).toArray) w := fun w => by rw [Tryd.zeroValue44, hY]; rfl
  clear hY
  go_enter Tryd.func4, Tryd.ntmps4
  go_upto_region 2 with (first | (go_at_call 13; refine HCo.out.mono ?_; rintro e w1 ⟨u1, rfl, h1⟩; have H1 := hid h1; clear h1 HCo) | (go_at_call 12; refine (HPl.out _ _ H1.out).mono ?_; rintro e w2 ⟨u2, lo, rfl, h2, hmap⟩; obtain ⟨p, c, hv, _, _⟩ := h2.ol; subst hv; have H2 := hid h2; have HMp := hid hmap; clear h2 hmap HPl H1))
  obtain ⟨n, hn⟩ : ∃ n, lo.length = n := ⟨_, rfl⟩
  have HN := hid hn
  have HN8 : Hid (n ≤ 8 ∧ PL.length = n) := hid (by have := congrArg List.length HMp.out; rw [List.length_map] at this; have := HNP.out; omega)
  have q8 : (n : Int) ≤ 8 := by have := HN8.out; omega
  rw [hn] at H2 ⊢
  clear hn
  have hsl0 := HSl.out 0
  go_upto_region 3 with (first | (go_at_call 15; refine (HSt.out _).mono ?_; rintro e w3 ⟨rfl, hb3⟩; have H3 := hid (H2.out.on hb3); clear hb3 H2) | (revert H3; intro H3; refine wpList_store_but rfl 37 _ _ rfl w3.heap.size (sv PL 0) rfl rfl (Blk.new w3 .u32 37 Z) (by rw [hsl0]; exact size40) (by rw [hZl, hsl0]) ?_; intro w4 b4 t4 s4; have H4 := hid (And.intro (H3.out.on (box_below _ t4)) b4); have HG4 : Hid (W.heap.size ≤ w3.heap.size) := hid H3.out.below.size; clear b4 t4 s4 H3))
  generalize w3.heap.size = g6 at *
  go_upto_region 4 with (first | (revert H4; intro H4; refine wpList_load_blk rfl 37 _ rfl g6 (sv PL 0) rfl H4.out.2 Tryd.underlying37 (by rw [hsl0]; exact size40) ?_) | (revert H4; intro H4; refine wpList_store_but rfl 37 _ _ rfl w4.heap.size (sv PL 0) rfl rfl (Blk.new w4 .u32 37 Z) (by rw [hsl0]; exact size40) (by rw [hZl, hsl0]) ?_; intro w5 b5 t5 s5; have X5 : Hid (PS W w5 (.slice p n c) lo g6 w4.heap.size (sv PL 0) (sv PL 0)) := hid ⟨H4.out.1.on (box_below _ t5), H4.out.2.on (box_below _ t5), b5, by have := H4.out.2.lt; omega, HG4.out, H4.out.1.below.size⟩; clear b5 t5 s5 H4))
  generalize w4.heap.size = g7 at *
  obtain ⟨kn, hkn⟩ : ∃ kn : Nat, (kn : Int) = wit cu ((n : Int) + 1) := ⟨(wit cu ((n : Int) + 1)).toNat, Int.toNat_of_nonneg (wit_lo _ _ (by omega))⟩
  have hk1 : (kn : Int) ≤ (n : Int) := by have := wit_hi cu ((n : Int) + 1) (by omega); omega
  have HK := hid (show kn ≤ n by omega)
  have HIn := hid (fun w => within_any w cu 0 (n : Int) ((n : Int) + 1) (by decide) (by omega) (by omega) (by omega))
  rw [← hkn] at HIn
  simp only [Int.zero_add] at HIn
  clear hkn
  go_upto_region 5 with (go_at_call 14; refine (HIn.out _).mono ?_; rintro e w8 ⟨rfl, hw8⟩; subst w8)
  clear hsl0
  go_wp2_with fail
  go_loopw [9] (fun i wr => ∃ j : Nat, j ≤ n ∧ i = .int .i64 (j : Int) ∧ Hid (PS W wr (.slice p n c) lo g6 g7 (sv PL j) (sv PL (if kn ≤ j then kn else 0)))) (fun i _ => n - (intOf i).toNat)
  case atStart => exact ⟨0, Nat.zero_le _, rfl, hid (by
    have h5 := X5.out
    by_cases h0 : kn ≤ 0
    · rw [if_pos h0, show kn = 0 by omega]; exact h5
    · rw [if_neg h0]; exact h5)⟩
  case round =>
    obtain ⟨j, hj, rfl, HQ⟩ := hrel
    clear X5
    by_cases hlt : j < n
    · have r1 : (j : Int) < (n : Int) := by omega
      have r2 : (0 : Int) ≤ (j : Int) := by omega
      obtain ⟨x, hx⟩ : ∃ x, lo[j]? = some x := ⟨lo[j]'(by rw [HN.out]; exact hlt), List.getElem?_eq_getElem _⟩
      have HX : Hid (lo[j]? = some x ∧ PL[j]? = some x.o) := hid ⟨hx, by rw [← HMp.out, List.getElem?_map, hx]; rfl⟩
      obtain ⟨b, off, rfl, _⟩ := HQ.out.ho.ol'.1.at hx
      have hsj := HSl.out j
      have hsk := HSl.out (j + 1)
      have HJ := hid hlt
      clear hlt hj hx
      go_upto_region 8 with fail
      go_upto_region 9 with (first | (revert HQ; intro HQ; refine wpList_load_blk rfl 37 _ rfl g6 (sv PL j) rfl HQ.out.b6 Tryd.underlying37 (by rw [hsj]; exact size40) ?_) | (go_at_call 16; refine (HBa.out _ _).mono ?_; rintro e w6 ⟨rfl, hb6⟩; have X6 := hid (HQ.out.on hb6); clear hb6 HQ) | (revert X6; intro X6; refine wpList_store_but rfl 37 _ _ rfl w6.heap.size Z rfl rfl (Blk.new w6 .u32 37 Z) (by rw [hZl]; exact size40) rfl ?_; intro w7 b7 t7 s7; have X7 := hid (X6.out.on (box_below _ t7)); clear b7 t7 s7 X6))
      generalize w6.heap.size = g10 at *
      have X8 := hid (X7.out.on (Below.refl _ _).drew)
      clear X7
      obtain ⟨hf, hhf⟩ : ∃ hf, (if kn ≤ j then kn else 0) = hf := ⟨_, rfl⟩
      rw [hhf] at X8
      have HHF := hid hhf
      clear hhf
      refine wp_region_held_drew (S := fun w => PS W w (.slice (some ⟨b, off, none⟩) n c) lo g6 g7 (sv PL j) (sv PL hf)) (by kernel_rfl) X8.out (fun hHeld => ?_)
      generalize World.drew _ = w8 at *
      refine wpAnyH_take (i := 0) (oi := { dst := some 41, op := Op.load 37 (Operand.tmp 6), type := 37, pos := "outright.go:108", after := #[], guard := none }) (v := .agg ((sv PL j).map (Value.int .u32)).toArray) rfl (by kernel_rfl) (by kernel_rfl) (by kernel_rfl) (fun _ _ _ h => h) (yieldsIf_load_mid (by rfl) _ _ rfl _ _ rfl _ _ (fun w hSw => cel_range (blk_cel hSw.b6)) Tryd.underlying37 rfl (by rw [List.length_map, hsj]; exact size40)) (by assumption) ?_
      simp only [Act.put, List.setIfInBounds_toArray, List.set_cons_zero, List.set_cons_succ]
      refine wpAnyH_take (i := 1) (oi := { dst := some 42, op := Op.move (Operand.tmp 5), type := 25, pos := "outright.go:108", after := #[], guard := none }) (v := .slice (some ⟨b, off, none⟩) n c) rfl (by kernel_rfl) (by kernel_rfl) (by kernel_rfl) (fun _ _ _ h => h) (Or.inl ⟨by rfl, by intro w hSw; go_simp⟩) (by assumption) ?_
      simp only [Act.put, List.setIfInBounds_toArray, List.set_cons_zero, List.set_cons_succ]
      refine wpAnyH_take (i := 2) (oi := { dst := some 43, op := Op.move (Operand.tmp 9), type := 3, pos := "outright.go:108", after := #[], guard := none }) (v := .int .i64 (j : Int)) rfl (by kernel_rfl) (by kernel_rfl) (by kernel_rfl) (fun _ _ _ h => h) (Or.inl ⟨by rfl, by intro w hSw; go_simp⟩) (by assumption) ?_
      simp only [Act.put, List.setIfInBounds_toArray, List.set_cons_zero, List.set_cons_succ]
      refine wpAnyH_take (i := 3) (oi := { dst := some 44, op := Op.indexAddr 25 (Operand.tmp 42) (Operand.tmp 43), type := 0, pos := "outright.go:108", after := #[{ on := 1, ground := Ground.data }, { on := 2, ground := Ground.data }], guard := none }) (v := .pointer (some ⟨b, off + j * 3, none⟩)) rfl (by kernel_rfl) (by kernel_rfl) (by kernel_rfl) (fun _ _ _ h => h) (Or.inl ⟨by rfl, by intro w hSw; go_simp⟩) (by assumption) ?_
      simp only [Act.put, List.setIfInBounds_toArray, List.set_cons_zero, List.set_cons_succ]
      refine wpAnyH_take (i := 4) (oi := { dst := some 45, op := Op.load 43 (Operand.tmp 44), type := 43, pos := "outright.go:108", after := #[{ on := 3, ground := Ground.data }], guard := none }) (v := .agg #[.int .i64 x.o.k, .int .u32 x.o.a, .slice x.p x.o.ws.length x.c]) rfl (by kernel_rfl) (by kernel_rfl) (by kernel_rfl) (fun _ _ _ h => h) (yieldsIf_load_mid (by rfl) _ _ rfl _ _ rfl _ _ (fun w hSw => hSw.ho.range HX.out.1) Tryd.underlying43 rfl (by rw [size43]; rfl)) (by assumption) ?_
      simp only [Act.put, List.setIfInBounds_toArray, List.set_cons_zero, List.set_cons_succ]
      refine wpAnyH_ready (rs := [5, 9]) (by kernel_rfl) (by simp) (AllReadyH.cons (o := { dst := some 46, op := Op.call { callee := Callee.value (Operand.func 16), args := #[Operand.tmp 41, Operand.tmp 45], argTypes := #[37, 43] }, type := 39, pos := "outright.go:108", after := #[{ on := 0, ground := Ground.data }, { on := 4, ground := Ground.data }], guard := none }) rfl (fun KQ hK => ?_) (AllReadyH.cons (o := { dst := some 12, op := Op.alloc 37, type := 0, pos := "outright.go:108", after := #[], guard := none }) rfl (fun KQ hK => ?_) AllReadyH.nil))
      · go_simp
        refine (HEx.out _ X8.out.ho.below j x HX.out.2 (X8.out.ho.ws x (List.mem_of_getElem? HX.out.1)).at).mono ?_
        rintro e w9 ⟨rfl, hbc⟩
        have X9 := hid (X8.out.on hbc)
        clear hbc X8
        go_wp2_with fail
        refine hK.out _ _ X9.out (fun hHeld => ?_)
        clear hK KQ
        try simp only [Act.put, List.setIfInBounds_toArray, List.set_cons_zero, List.set_cons_succ]
        refine wpAnyH_take (i := 6) (oi := { dst := some 40, op := Op.move (Operand.tmp 46), type := 39, pos := "outright.go:108", after := #[{ on := 5, ground := Ground.data }], guard := none }) (v := .tuple #[Ag (sv PL (j + 1)), .int .i64 0]) rfl (by kernel_rfl) (by kernel_rfl) (by kernel_rfl) (fun _ _ _ h => h) (Or.inl ⟨by rfl, by intro w hSw; go_simp⟩) (by assumption) ?_
        simp only [Act.put, List.setIfInBounds_toArray, List.set_cons_zero, List.set_cons_succ]
        refine wpAnyH_take (i := 7) (oi := { dst := some 47, op := Op.extract (Operand.tmp 40) 0, type := 37, pos := "outright.go:108", after := #[{ on := 6, ground := Ground.data }], guard := none }) (v := Ag (sv PL (j + 1))) rfl (by kernel_rfl) (by kernel_rfl) (by kernel_rfl) (fun _ _ _ h => h) (Or.inl ⟨by rfl, by intro w hSw; go_simp⟩) (by assumption) ?_
        simp only [Act.put, List.setIfInBounds_toArray, List.set_cons_zero, List.set_cons_succ]
        refine wpAnyH_take (i := 8) (oi := { dst := some 48, op := Op.extract (Operand.tmp 40) 1, type := 26, pos := "outright.go:108", after := #[{ on := 6, ground := Ground.data }, { on := 10, ground := Ground.gcOnly Departure.lateStores }], guard := none }) (v := .int .i64 0) rfl (by kernel_rfl) (by kernel_rfl) (by kernel_rfl) (fun _ _ _ h => h) (Or.inl ⟨by rfl, by intro w hSw; go_simp⟩) (by assumption) ?_
        simp only [Act.put, List.setIfInBounds_toArray, List.set_cons_zero, List.set_cons_succ]
        refine wpAnyH_ready (rs := [9]) (by kernel_rfl) (by simp) (AllReadyH.cons (o := { dst := some 12, op := Op.alloc 37, type := 0, pos := "outright.go:108", after := #[], guard := none }) rfl (fun KQ hK => ?_) AllReadyH.nil)
        go_simp
        have BZ : Hid (Blk (w9.alloc (Obj.cells (List.map (Value.int IntKind.u32) Z).toArray 37)) w9.heap.size .u32 37 Z) := hid (Blk.new _ _ _ _)
        have X10 := hid (X9.out.on (below_one w9 (Obj.cells (List.map (Value.int IntKind.u32) Z).toArray 37)))
        have HN12 : Hid (g6 < w9.heap.size ∧ g7 < w9.heap.size ∧ W.heap.size ≤ w9.heap.size) := hid ⟨X9.out.b6.lt, X9.out.b7.lt, X9.out.ho.below.size⟩
        clear X9
        generalize World.alloc _ _ = w10 at *
        generalize w9.heap.size = g12 at *
        refine hK.out _ _ X10.out (fun hHeld => ?_)
        clear hK KQ
        try simp only [Act.put, List.setIfInBounds_toArray, List.set_cons_zero, List.set_cons_succ]
        refine wpAnyH_ready (rs := [10]) (by kernel_rfl) (by simp) (AllReadyH.cons (o := { dst := none, op := Op.store 37 (Operand.tmp 12) (Operand.tmp 47), type := 0, pos := "outright.go:108", after := #[{ on := 9, ground := Ground.data }, { on := 7, ground := Ground.data }, { on := 5, ground := Ground.chain }, { on := 0, ground := Ground.phase }, { on := 1, ground := Ground.phase }, { on := 2, ground := Ground.phase }, { on := 3, ground := Ground.phase }, { on := 4, ground := Ground.phase }, { on := 5, ground := Ground.phase }, { on := 6, ground := Ground.phase }, { on := 7, ground := Ground.phase }, { on := 8, ground := Ground.textOnly Departure.lateStores }, { on := 9, ground := Ground.phase }], guard := none }) rfl (fun KQ hK => ?_) AllReadyH.nil)
        rw [if_pos (by rfl)]
        first | have BZ3 := BZ2 | have BZ3 := BZ
        refine wp_store_st 37 _ _ rfl g12 ((sv PL (j + 1)).map (Value.int .u32)) rfl rfl (blk_cel BZ3.out) (by rw [List.length_map, hsk]; exact size40) (by rw [List.length_map, List.length_map, hsk, hZl]) (List.all_eq_true.2 (ints_oneCell .u32 _)) ?_
        intro w11 hc11 hb11 hs11
        have X9 : Hid (PS W w11 (.slice (some ⟨b, off, none⟩) n c) lo g6 g7 (sv PL j) (sv PL hf) ∧ Blk w11 g12 .u32 37 (sv PL (j + 1))) := hid ⟨X10.out.but (blk_cel BZ3.out) hb11 HN12.out.2.2 (by decide) (by decide) (by have := HN12.out; omega) (by have := HN12.out; omega), hc11⟩
        clear hc11 hb11 hs11 X10
        refine hK.out _ _ X9.out.1 (fun hHeld => ?_)
        clear hK KQ
        try simp only [Act.put]
        refine wpAnyH_ready (rs := [11]) (by kernel_rfl) (by simp) (AllReadyH.cons (o := { dst := some 13, op := Op.assign (Operand.tmp 48), type := 26, pos := "outright.go:108", after := #[{ on := 8, ground := Ground.data }, { on := 10, ground := Ground.chain }, { on := 0, ground := Ground.phase }, { on := 1, ground := Ground.phase }, { on := 2, ground := Ground.phase }, { on := 3, ground := Ground.phase }, { on := 4, ground := Ground.phase }, { on := 5, ground := Ground.phase }, { on := 6, ground := Ground.phase }, { on := 7, ground := Ground.phase }, { on := 8, ground := Ground.phase }, { on := 9, ground := Ground.phase }, { on := 10, ground := Ground.phase }], guard := none }) rfl (fun KQ hK => ?_) AllReadyH.nil)
        go_simp
        refine hK.out _ _ X9.out.1 (fun hHeld => ?_)
        clear hK KQ
        try simp only [Act.put, List.setIfInBounds_toArray, List.set_cons_zero, List.set_cons_succ]
        refine wpAnyH_done (by kernel_rfl) ?_ _
        go_upto_region 12 with fail
        go_upto_region 13 with (first | (revert X9; intro X9; refine wpList_load_blk rfl 37 _ rfl g12 (sv PL (j + 1)) rfl X9.out.2 Tryd.underlying37 (by rw [hsk]; exact size40) ?_) | (revert X9; intro X9; refine wpList_store_but rfl 37 _ _ rfl g6 (sv PL (j + 1)) rfl rfl X9.out.1.b6 (by rw [hsk]; exact size40) (by rw [hsj, hsk]) ?_; intro w13 b13 t13 s13; have Y13 := hid (X9.out.1.put6 t13 b13); clear b13 t13 s13 X9))
        by_cases hjk : j + 1 = kn
        · have e1 : (j : Int) + 1 = (kn : Int) := by omega
          have HE : Hid ((if kn ≤ j + 1 then kn else 0) = j + 1) := hid (by rw [if_pos (by omega)]; omega)
          have hsf := HSl.out hf
          clear hjk
          go_wp2_with (first | (revert Y13; intro Y13; refine wpList_load_blk rfl 37 _ rfl g6 (sv PL (j + 1)) rfl Y13.out.b6 Tryd.underlying37 (by rw [hsk]; exact size40) ?_) | (revert Y13; intro Y13; refine wpList_store_but rfl 37 _ _ rfl g7 (sv PL (j + 1)) rfl rfl Y13.out.b7 (by rw [hsk]; exact size40) (by rw [hsf, hsk]) ?_; intro w14 b14 t14 s14; have X14 := hid (Y13.out.put7 t14 b14); clear b14 t14 s14 Y13))
          go_roundw
          case measure => have := HJ.out; simp [intOf] <;> omega
          case rel => exact ⟨j + 1, HJ.out, by simp <;> omega, hid (by rw [HE.out]; exact X14.out)⟩
        · have e1 : ((j : Int) + 1 == (kn : Int)) = false := by rw [beq_eq_false_iff_ne]; omega
          have HE : Hid ((if kn ≤ j + 1 then kn else 0) = hf) := hid (by
            rw [← HHF.out]
            rcases Nat.lt_or_ge j kn with h0 | h0
            · rw [if_neg (by omega), if_neg (by omega)]
            · rw [if_pos (by omega), if_pos (by omega)])
          clear hjk
          go_wp2_with fail
          go_roundw
          case measure => have := HJ.out; simp [intOf] <;> omega
          case rel => exact ⟨j + 1, HJ.out, by simp <;> omega, hid (by rw [HE.out]; exact Y13.out)⟩
      · go_simp
        have BZ : Hid (Blk (w8.alloc (Obj.cells (List.map (Value.int IntKind.u32) Z).toArray 37)) w8.heap.size .u32 37 Z) := hid (Blk.new _ _ _ _)
        have X9 := hid (X8.out.on (below_one w8 (Obj.cells (List.map (Value.int IntKind.u32) Z).toArray 37)))
        have HN12 : Hid (g6 < w8.heap.size ∧ g7 < w8.heap.size ∧ W.heap.size ≤ w8.heap.size) := hid ⟨X8.out.b6.lt, X8.out.b7.lt, X8.out.ho.below.size⟩
        clear X8
        generalize World.alloc _ _ = w9 at *
        generalize w8.heap.size = g12 at *
        refine hK.out _ _ X9.out (fun hHeld => ?_)
        clear hK KQ
        try simp only [Act.put, List.setIfInBounds_toArray, List.set_cons_zero, List.set_cons_succ]
        refine wpAnyH_ready (rs := [5]) (by kernel_rfl) (by simp) (AllReadyH.cons (o := { dst := some 46, op := Op.call { callee := Callee.value (Operand.func 16), args := #[Operand.tmp 41, Operand.tmp 45], argTypes := #[37, 43] }, type := 39, pos := "outright.go:108", after := #[{ on := 0, ground := Ground.data }, { on := 4, ground := Ground.data }], guard := none }) rfl (fun KQ hK => ?_) AllReadyH.nil)
        go_simp
        refine (HEx.out _ X9.out.ho.below j x HX.out.2 (X9.out.ho.ws x (List.mem_of_getElem? HX.out.1)).at).mono ?_
        rintro e w10 ⟨rfl, hbc⟩
        have X10 := hid (X9.out.on hbc)
        have BZ2 := hid (BZ.out.on hbc)
        clear BZ
        clear hbc X9
        go_wp2_with fail
        refine hK.out _ _ X10.out (fun hHeld => ?_)
        clear hK KQ
        try simp only [Act.put, List.setIfInBounds_toArray, List.set_cons_zero, List.set_cons_succ]
        refine wpAnyH_take (i := 6) (oi := { dst := some 40, op := Op.move (Operand.tmp 46), type := 39, pos := "outright.go:108", after := #[{ on := 5, ground := Ground.data }], guard := none }) (v := .tuple #[Ag (sv PL (j + 1)), .int .i64 0]) rfl (by kernel_rfl) (by kernel_rfl) (by kernel_rfl) (fun _ _ _ h => h) (Or.inl ⟨by rfl, by intro w hSw; go_simp⟩) (by assumption) ?_
        simp only [Act.put, List.setIfInBounds_toArray, List.set_cons_zero, List.set_cons_succ]
        refine wpAnyH_take (i := 7) (oi := { dst := some 47, op := Op.extract (Operand.tmp 40) 0, type := 37, pos := "outright.go:108", after := #[{ on := 6, ground := Ground.data }], guard := none }) (v := Ag (sv PL (j + 1))) rfl (by kernel_rfl) (by kernel_rfl) (by kernel_rfl) (fun _ _ _ h => h) (Or.inl ⟨by rfl, by intro w hSw; go_simp⟩) (by assumption) ?_
        simp only [Act.put, List.setIfInBounds_toArray, List.set_cons_zero, List.set_cons_succ]
        refine wpAnyH_take (i := 8) (oi := { dst := some 48, op := Op.extract (Operand.tmp 40) 1, type := 26, pos := "outright.go:108", after := #[{ on := 6, ground := Ground.data }, { on := 10, ground := Ground.gcOnly Departure.lateStores }], guard := none }) (v := .int .i64 0) rfl (by kernel_rfl) (by kernel_rfl) (by kernel_rfl) (fun _ _ _ h => h) (Or.inl ⟨by rfl, by intro w hSw; go_simp⟩) (by assumption) ?_
        simp only [Act.put, List.setIfInBounds_toArray, List.set_cons_zero, List.set_cons_succ]
        refine wpAnyH_ready (rs := [10]) (by kernel_rfl) (by simp) (AllReadyH.cons (o := { dst := none, op := Op.store 37 (Operand.tmp 12) (Operand.tmp 47), type := 0, pos := "outright.go:108", after := #[{ on := 9, ground := Ground.data }, { on := 7, ground := Ground.data }, { on := 5, ground := Ground.chain }, { on := 0, ground := Ground.phase }, { on := 1, ground := Ground.phase }, { on := 2, ground := Ground.phase }, { on := 3, ground := Ground.phase }, { on := 4, ground := Ground.phase }, { on := 5, ground := Ground.phase }, { on := 6, ground := Ground.phase }, { on := 7, ground := Ground.phase }, { on := 8, ground := Ground.textOnly Departure.lateStores }, { on := 9, ground := Ground.phase }], guard := none }) rfl (fun KQ hK => ?_) AllReadyH.nil)
        rw [if_pos (by rfl)]
        first | have BZ3 := BZ2 | have BZ3 := BZ
        refine wp_store_st 37 _ _ rfl g12 ((sv PL (j + 1)).map (Value.int .u32)) rfl rfl (blk_cel BZ3.out) (by rw [List.length_map, hsk]; exact size40) (by rw [List.length_map, List.length_map, hsk, hZl]) (List.all_eq_true.2 (ints_oneCell .u32 _)) ?_
        intro w11 hc11 hb11 hs11
        have X9 : Hid (PS W w11 (.slice (some ⟨b, off, none⟩) n c) lo g6 g7 (sv PL j) (sv PL hf) ∧ Blk w11 g12 .u32 37 (sv PL (j + 1))) := hid ⟨X10.out.but (blk_cel BZ3.out) hb11 HN12.out.2.2 (by decide) (by decide) (by have := HN12.out; omega) (by have := HN12.out; omega), hc11⟩
        clear hc11 hb11 hs11 X10
        refine hK.out _ _ X9.out.1 (fun hHeld => ?_)
        clear hK KQ
        try simp only [Act.put]
        refine wpAnyH_ready (rs := [11]) (by kernel_rfl) (by simp) (AllReadyH.cons (o := { dst := some 13, op := Op.assign (Operand.tmp 48), type := 26, pos := "outright.go:108", after := #[{ on := 8, ground := Ground.data }, { on := 10, ground := Ground.chain }, { on := 0, ground := Ground.phase }, { on := 1, ground := Ground.phase }, { on := 2, ground := Ground.phase }, { on := 3, ground := Ground.phase }, { on := 4, ground := Ground.phase }, { on := 5, ground := Ground.phase }, { on := 6, ground := Ground.phase }, { on := 7, ground := Ground.phase }, { on := 8, ground := Ground.phase }, { on := 9, ground := Ground.phase }, { on := 10, ground := Ground.phase }], guard := none }) rfl (fun KQ hK => ?_) AllReadyH.nil)
        go_simp
        refine hK.out _ _ X9.out.1 (fun hHeld => ?_)
        clear hK KQ
        try simp only [Act.put, List.setIfInBounds_toArray, List.set_cons_zero, List.set_cons_succ]
        refine wpAnyH_done (by kernel_rfl) ?_ _
        go_upto_region 12 with fail
        go_upto_region 13 with (first | (revert X9; intro X9; refine wpList_load_blk rfl 37 _ rfl g12 (sv PL (j + 1)) rfl X9.out.2 Tryd.underlying37 (by rw [hsk]; exact size40) ?_) | (revert X9; intro X9; refine wpList_store_but rfl 37 _ _ rfl g6 (sv PL (j + 1)) rfl rfl X9.out.1.b6 (by rw [hsk]; exact size40) (by rw [hsj, hsk]) ?_; intro w13 b13 t13 s13; have Y13 := hid (X9.out.1.put6 t13 b13); clear b13 t13 s13 X9))
        by_cases hjk : j + 1 = kn
        · have e1 : (j : Int) + 1 = (kn : Int) := by omega
          have HE : Hid ((if kn ≤ j + 1 then kn else 0) = j + 1) := hid (by rw [if_pos (by omega)]; omega)
          have hsf := HSl.out hf
          clear hjk
          go_wp2_with (first | (revert Y13; intro Y13; refine wpList_load_blk rfl 37 _ rfl g6 (sv PL (j + 1)) rfl Y13.out.b6 Tryd.underlying37 (by rw [hsk]; exact size40) ?_) | (revert Y13; intro Y13; refine wpList_store_but rfl 37 _ _ rfl g7 (sv PL (j + 1)) rfl rfl Y13.out.b7 (by rw [hsk]; exact size40) (by rw [hsf, hsk]) ?_; intro w14 b14 t14 s14; have X14 := hid (Y13.out.put7 t14 b14); clear b14 t14 s14 Y13))
          go_roundw
          case measure => have := HJ.out; simp [intOf] <;> omega
          case rel => exact ⟨j + 1, HJ.out, by simp <;> omega, hid (by rw [HE.out]; exact X14.out)⟩
        · have e1 : ((j : Int) + 1 == (kn : Int)) = false := by rw [beq_eq_false_iff_ne]; omega
          have HE : Hid ((if kn ≤ j + 1 then kn else 0) = hf) := hid (by
            rw [← HHF.out]
            rcases Nat.lt_or_ge j kn with h0 | h0
            · rw [if_neg (by omega), if_neg (by omega)]
            · rw [if_pos (by omega), if_pos (by omega)])
          clear hjk
          go_wp2_with fail
          go_roundw
          case measure => have := HJ.out; simp [intOf] <;> omega
          case rel => exact ⟨j + 1, HJ.out, by simp <;> omega, hid (by rw [HE.out]; exact Y13.out)⟩
    · obtain rfl : j = n := by omega
      clear hlt hj
      rw [if_pos HK.out] at HQ
      obtain ⟨M, hM⟩ : ∃ M, sumW (enc (PL.take j)) = M := ⟨_, rfl⟩
      obtain ⟨M2, hM2⟩ : ∃ M2, sumW (enc (PL.take kn)) = M2 := ⟨_, rfl⟩
      have hMl : M.length = 8 := by rw [← hM]; exact sumW_length _
      have hM2l : M2.length = 8 := by rw [← hM2]; exact sumW_length _
      have HM1 : Hid (∀ w, HO W w (.slice p j c) lo → Calls Tryd.prog 17 #[.slice p j c] w fun e W' => e = .returned (.tuple #[Ag M, .int .i64 0]) ∧ Below w.heap.size w W') := hid (fun w hw => by
        have h1 := HMe.out w hw.below p j c lo HN.out hw.ol'.1 ⟨j, by rw [HMp.out, List.take_of_length_le (by rw [HN8.out.2]; exact Nat.le_refl _)]⟩
        rw [HMp.out, ← List.take_of_length_le (l := PL) (i := j) (by rw [HN8.out.2]; exact Nat.le_refl _), hM] at h1
        exact h1)
      have HM2 : Hid (∀ w, HO W w (.slice p j c) lo → Calls Tryd.prog 17 #[.slice p kn c] w fun e W' => e = .returned (.tuple #[Ag M2, .int .i64 0]) ∧ Below w.heap.size w W') := hid (fun w hw => by
        have h1 := HMe.out w hw.below p kn c (lo.take kn) (by rw [List.length_take, HN.out]; have := HK.out; omega) (hw.ol'.1.take kn) ⟨kn, by rw [List.map_take, HMp.out]⟩
        rw [List.map_take, HMp.out, hM2] at h1
        exact h1)
      have HF1 := hid (fun w hw => HFi.out w hw j)
      have HF2 := hid (fun w hw => HFi.out w hw kn)
      rw [hM] at HF1
      rw [hM2] at HF2
      have heq1 : ∀ w, (Op.equalIn 10000 44 (.agg (M.map (Value.int .u32)).toArray) (.agg (M.map (Value.int .u32)).toArray)).run Tryd.prog w = .ok true w := fun w => by rw [eq27 M M hMl hMl w, decide_eq_true rfl]
      have heq2 : ∀ w, (Op.equalIn 10000 44 (.agg (M2.map (Value.int .u32)).toArray) (.agg (M2.map (Value.int .u32)).toArray)).run Tryd.prog w = .ok true w := fun w => by rw [eq27 M2 M2 hM2l hM2l w, decide_eq_true rfl]
      have hsn := HSl.out j
      have hsk := HSl.out kn
      clear hM hM2
      go_upto_region 15 with fail
      go_upto_region 16 with (first | (go_at_call 17; refine (HM1.out _ HQ.out.ho).mono ?_; rintro e w6 ⟨rfl, hb6⟩; have X6 := hid (HQ.out.on hb6); clear hb6 HQ) | (revert X6; intro X6; refine wpList_store_but rfl 44 _ _ rfl w6.heap.size M rfl rfl (Blk.new w6 .u32 44 Y) (by rw [hMl]; exact size27) (by rw [hYl, hMl]) ?_; intro w7 b7 t7 s7; have X7 := hid (And.intro (X6.out.on (box_below _ t7)) b7); have HW14 := hid X6.out.ho.below.size; clear b7 t7 s7 X6))
      generalize w6.heap.size = g14 at *
      go_upto_region 17 with (first | (revert X7; intro X7; refine wpList_load_blk rfl 37 _ rfl g6 (sv PL j) rfl X7.out.1.b6 Tryd.underlying37 (by rw [hsn]; exact size40) ?_) | (go_at_call 18; refine (HF1.out _ X7.out.1.ho.below).mono ?_; rintro e w8 ⟨rfl, hb8⟩; have X8 := hid (And.intro (X7.out.1.on hb8) (X7.out.2.on hb8)); clear hb8 X7) | (revert X8; intro X8; refine wpList_store_but rfl 44 _ _ rfl w8.heap.size M rfl rfl (Blk.new w8 .u32 44 Y) (by rw [hMl]; exact size27) (by rw [hYl, hMl]) ?_; intro w9 b9 t9 s9; have X9 := hid (And.intro (X8.out.1.on (box_below _ t9)) (And.intro (X8.out.2.on (box_below _ t9)) b9)); have HW16 : Hid (W.heap.size ≤ w8.heap.size ∧ g14 < w8.heap.size) := hid ⟨X8.out.1.ho.below.size, X8.out.2.lt⟩; clear b9 t9 s9 X8))
      generalize w8.heap.size = g16 at *
      go_upto_region 19 with (first | (go_at_call 9; refine (HKn.out _ X9.out.1.ho.below).mono ?_; rintro e w10 ⟨rfl, hb10⟩; have X10 := hid (And.intro (X9.out.1.on hb10) (And.intro (X9.out.2.1.on hb10) (X9.out.2.2.on hb10))); clear hb10 X9) | (revert X10; intro X10; refine wpList_load_bg rfl 44 _ rfl g14 M rfl X10.out.2.1 Tryd.underlying44 (by rw [hMl]; exact size27) ?_) | (revert X10; intro X10; refine wpList_load_bg rfl 44 _ rfl g16 M rfl X10.out.2.2 Tryd.underlying44 (by rw [hMl]; exact size27) ?_))
      have hjc := X10.out.1.ho.ol'.2.2
      have hkc : (kn : Int) ≤ (c : Int) := by have := HK.out; omega
      have hk0 : (0 : Int) ≤ (kn : Int) := by omega
      clear hjc
      go_upto_region 20 with (first | (go_at_call 17; refine (HM2.out _ X10.out.1.ho).mono ?_; rintro e w11 ⟨rfl, hb11⟩; have X11 := hid (And.intro (X10.out.1.on hb11) (And.intro (X10.out.2.1.on hb11) (X10.out.2.2.on hb11))); clear hb11 X10) | (revert X11; intro X11; refine wpList_store_but rfl 44 _ _ rfl g14 M2 rfl rfl X11.out.2.1 (by rw [hM2l]; exact size27) (by rw [hMl, hM2l]) ?_; intro w12 b12 t12 s12; have X12 := hid (And.intro (X11.out.1.but (blk_cel X11.out.2.1) t12 HW14.out (by decide) (by decide) (blk_ne X11.out.1.b6 X11.out.2.1 (by decide)) (blk_ne X11.out.1.b7 X11.out.2.1 (by decide))) (And.intro b12 (t12.blk X11.out.2.2 (by have := HW16.out; omega)))); clear b12 t12 s12 X11))
      go_upto_region 21 with (first | (revert X12; intro X12; refine wpList_load_blk rfl 37 _ rfl g7 (sv PL kn) rfl X12.out.1.b7 Tryd.underlying37 (by rw [hsk]; exact size40) ?_) | (go_at_call 18; refine (HF2.out _ X12.out.1.ho.below).mono ?_; rintro e w13 ⟨rfl, hb13⟩; have X13 := hid (And.intro (X12.out.1.on hb13) (And.intro (X12.out.2.1.on hb13) (X12.out.2.2.on hb13))); clear hb13 X12) | (revert X13; intro X13; refine wpList_store_but rfl 44 _ _ rfl g16 M2 rfl rfl X13.out.2.2 (by rw [hM2l]; exact size27) (by rw [hMl, hM2l]) ?_; intro w14 b14 t14 s14; have X14 := hid (And.intro (X13.out.1.but (blk_cel X13.out.2.2) t14 HW16.out.1 (by decide) (by decide) (blk_ne X13.out.1.b6 X13.out.2.2 (by decide)) (blk_ne X13.out.1.b7 X13.out.2.2 (by decide))) (And.intro (t14.blk X13.out.2.1 (by have := HW16.out; omega)) b14)); clear b14 t14 s14 X13))
      go_upto_region 23 with (first | (revert X14; intro X14; refine wpList_load_bg rfl 44 _ rfl g14 M2 rfl X14.out.2.1 Tryd.underlying44 (by rw [hM2l]; exact size27) ?_) | (revert X14; intro X14; refine wpList_load_bg rfl 44 _ rfl g16 M2 rfl X14.out.2.2 Tryd.underlying44 (by rw [hM2l]; exact size27) ?_))
      have X15 := hid X14.out.1
      clear X14 heq1 heq2
      have heq3 : ∀ w, (Op.equalIn 10000 37 (.agg ((sv PL j).map (Value.int .u32)).toArray) (.agg ((sv PL j).map (Value.int .u32)).toArray)).run Tryd.prog w = .ok true w := fun w => by rw [eq40 _ _ hsn hsn w, decide_eq_true rfl]
      go_wp2_with fail
      go_loopw [18] (fun i wr => ∃ q : Nat, q ≤ j ∧ i = .int .i64 (q : Int) ∧ Hid (PS W wr (.slice p j c) lo g6 g7 (sv PL j) (sv PL q))) (fun i _ => j - (intOf i).toNat)
      case atStart => exact ⟨kn, HK.out, rfl, hid X15.out⟩
      case round =>
        obtain ⟨q, hq, rfl, HR⟩ := hrel
        clear X15
        by_cases hlt : q < j
        · have r1 : (q : Int) < (j : Int) := by omega
          have r2 : (0 : Int) ≤ (q : Int) := by omega
          obtain ⟨x, hx⟩ : ∃ x, lo[q]? = some x := ⟨lo[q]'(by rw [HN.out]; exact hlt), List.getElem?_eq_getElem _⟩
          have HX : Hid (lo[q]? = some x ∧ PL[q]? = some x.o) := hid ⟨hx, by rw [← HMp.out, List.getElem?_map, hx]; rfl⟩
          obtain ⟨b, off, rfl, _⟩ := HR.out.ho.ol'.1.at hx
          have hsq := HSl.out q
          have hsr := HSl.out (q + 1)
          have HJ := hid hlt
          clear hlt hq hx heq3
          go_upto_region 26 with fail
          have X8 := hid (HR.out.on (Below.refl _ _).drew)
          clear HR
          refine wp_region_held_drew (S := fun w => HO W w (.slice (some ⟨b, off, none⟩) j c) lo) (by kernel_rfl) X8.out.ho (fun hHeld => ?_)
          generalize World.drew _ = w8 at *
          refine wpAnyH_take (i := 1) (oi := { dst := some 118, op := Op.move (Operand.tmp 5), type := 25, pos := "outright.go:128", after := #[], guard := none }) (v := .slice (some ⟨b, off, none⟩) j c) rfl (by kernel_rfl) (by kernel_rfl) (by kernel_rfl) (fun _ _ _ h => h) (Or.inl ⟨by rfl, by intro w hSw; go_simp⟩) (by assumption) ?_
          simp only [Act.put, List.setIfInBounds_toArray, List.set_cons_zero, List.set_cons_succ]
          refine wpAnyH_take (i := 2) (oi := { dst := some 119, op := Op.move (Operand.tmp 18), type := 3, pos := "outright.go:128", after := #[], guard := none }) (v := .int .i64 (q : Int)) rfl (by kernel_rfl) (by kernel_rfl) (by kernel_rfl) (fun _ _ _ h => h) (Or.inl ⟨by rfl, by intro w hSw; go_simp⟩) (by assumption) ?_
          simp only [Act.put, List.setIfInBounds_toArray, List.set_cons_zero, List.set_cons_succ]
          refine wpAnyH_take (i := 3) (oi := { dst := some 120, op := Op.indexAddr 25 (Operand.tmp 118) (Operand.tmp 119), type := 0, pos := "outright.go:128", after := #[{ on := 1, ground := Ground.data }, { on := 2, ground := Ground.data }], guard := none }) (v := .pointer (some ⟨b, off + q * 3, none⟩)) rfl (by kernel_rfl) (by kernel_rfl) (by kernel_rfl) (fun _ _ _ h => h) (Or.inl ⟨by rfl, by intro w hSw; go_simp⟩) (by assumption) ?_
          simp only [Act.put, List.setIfInBounds_toArray, List.set_cons_zero, List.set_cons_succ]
          refine wpAnyH_take (i := 4) (oi := { dst := some 121, op := Op.load 43 (Operand.tmp 120), type := 43, pos := "outright.go:128", after := #[{ on := 3, ground := Ground.data }], guard := none }) (v := .agg #[.int .i64 x.o.k, .int .u32 x.o.a, .slice x.p x.o.ws.length x.c]) rfl (by kernel_rfl) (by kernel_rfl) (by kernel_rfl) (fun _ _ _ h => h) (yieldsIf_load_mid (by rfl) _ _ rfl _ _ rfl _ _ (fun w hSw => hSw.range HX.out.1) Tryd.underlying43 rfl (by rw [size43]; rfl)) (by assumption) ?_
          simp only [Act.put, List.setIfInBounds_toArray, List.set_cons_zero, List.set_cons_succ]
          refine wpAnyH_ready (rs := [0]) (by kernel_rfl) (by simp) (AllReadyH.cons (o := { dst := some 117, op := Op.load 37 (Operand.tmp 7), type := 37, pos := "outright.go:128", after := #[], guard := none }) rfl (fun KQ hK => ?_) AllReadyH.nil)
          rw [if_pos (by rfl)]
          refine wp_load_mid 37 _ rfl g7 0 rfl _ _ (cel_range (blk_cel X8.out.b7)) Tryd.underlying37 rfl (by rw [List.length_map, hsq]; exact size40) ?_
          refine hK.out _ _ X8.out.ho (fun hHeld => ?_)
          clear hK KQ
          try simp only [Act.put, List.setIfInBounds_toArray, List.set_cons_zero, List.set_cons_succ]
          refine wpAnyH_ready (rs := [5]) (by kernel_rfl) (by simp) (AllReadyH.cons (o := { dst := some 122, op := Op.call { callee := Callee.value (Operand.func 16), args := #[Operand.tmp 117, Operand.tmp 121], argTypes := #[37, 43] }, type := 39, pos := "outright.go:128", after := #[{ on := 0, ground := Ground.data }, { on := 4, ground := Ground.data }], guard := none }) rfl (fun KQ hK => ?_) AllReadyH.nil)
          go_simp
          refine (HEx.out _ X8.out.ho.below q x HX.out.2 (X8.out.ho.ws x (List.mem_of_getElem? HX.out.1)).at).mono ?_
          rintro e w9 ⟨rfl, hb9⟩
          have X9 := hid (X8.out.on hb9)
          clear hb9 X8
          go_wp2_with fail
          refine hK.out _ _ X9.out.ho (fun hHeld => ?_)
          clear hK KQ
          try simp only [Act.put, List.setIfInBounds_toArray, List.set_cons_zero, List.set_cons_succ]
          refine wpAnyH_take (i := 6) (oi := { dst := some 116, op := Op.move (Operand.tmp 122), type := 39, pos := "outright.go:128", after := #[{ on := 5, ground := Ground.data }], guard := none }) (v := .tuple #[Ag (sv PL (q + 1)), .int .i64 0]) rfl (by kernel_rfl) (by kernel_rfl) (by kernel_rfl) (fun _ _ _ h => h) (Or.inl ⟨by rfl, by intro w hSw; go_simp⟩) (by assumption) ?_
          simp only [Act.put, List.setIfInBounds_toArray, List.set_cons_zero, List.set_cons_succ]
          refine wpAnyH_take (i := 7) (oi := { dst := some 123, op := Op.extract (Operand.tmp 116) 0, type := 37, pos := "outright.go:128", after := #[{ on := 6, ground := Ground.data }], guard := none }) (v := Ag (sv PL (q + 1))) rfl (by kernel_rfl) (by kernel_rfl) (by kernel_rfl) (fun _ _ _ h => h) (Or.inl ⟨by rfl, by intro w hSw; go_simp⟩) (by assumption) ?_
          simp only [Act.put, List.setIfInBounds_toArray, List.set_cons_zero, List.set_cons_succ]
          refine wpAnyH_take (i := 8) (oi := { dst := some 124, op := Op.extract (Operand.tmp 116) 1, type := 26, pos := "outright.go:128", after := #[{ on := 6, ground := Ground.data }, { on := 9, ground := Ground.gcOnly Departure.lateStores }], guard := none }) (v := .int .i64 0) rfl (by kernel_rfl) (by kernel_rfl) (by kernel_rfl) (fun _ _ _ h => h) (Or.inl ⟨by rfl, by intro w hSw; go_simp⟩) (by assumption) ?_
          simp only [Act.put, List.setIfInBounds_toArray, List.set_cons_zero, List.set_cons_succ]
          refine wpAnyH_ready (rs := [9]) (by kernel_rfl) (by simp) (AllReadyH.cons (o := { dst := none, op := Op.store 37 (Operand.tmp 7) (Operand.tmp 123), type := 0, pos := "outright.go:128", after := #[{ on := 7, ground := Ground.data }, { on := 5, ground := Ground.chain }, { on := 0, ground := Ground.phase }, { on := 1, ground := Ground.phase }, { on := 2, ground := Ground.phase }, { on := 3, ground := Ground.phase }, { on := 4, ground := Ground.phase }, { on := 5, ground := Ground.phase }, { on := 6, ground := Ground.phase }, { on := 7, ground := Ground.phase }, { on := 8, ground := Ground.textOnly Departure.lateStores }], guard := none }) rfl (fun KQ hK => ?_) AllReadyH.nil)
          rw [if_pos (by rfl)]
          refine wp_store_st 37 _ _ rfl g7 ((sv PL (q + 1)).map (Value.int .u32)) rfl rfl (blk_cel X9.out.b7) (by rw [List.length_map, hsr]; exact size40) (by rw [List.length_map, List.length_map, hsq, hsr]) (List.all_eq_true.2 (ints_oneCell .u32 _)) ?_
          intro w10 hc10 hb10 hs10
          have X10 := hid (X9.out.put7 hb10 hc10)
          clear hc10 hb10 hs10 X9
          refine hK.out _ _ X10.out.ho (fun hHeld => ?_)
          clear hK KQ
          try simp only [Act.put]
          refine wpAnyH_ready (rs := [10]) (by kernel_rfl) (by simp) (AllReadyH.cons (o := { dst := some 15, op := Op.assign (Operand.tmp 124), type := 26, pos := "outright.go:128", after := #[{ on := 8, ground := Ground.data }, { on := 9, ground := Ground.chain }, { on := 0, ground := Ground.phase }, { on := 1, ground := Ground.phase }, { on := 2, ground := Ground.phase }, { on := 3, ground := Ground.phase }, { on := 4, ground := Ground.phase }, { on := 5, ground := Ground.phase }, { on := 6, ground := Ground.phase }, { on := 7, ground := Ground.phase }, { on := 8, ground := Ground.phase }, { on := 9, ground := Ground.phase }], guard := none }) rfl (fun KQ hK => ?_) AllReadyH.nil)
          go_simp
          refine hK.out _ _ X10.out.ho (fun hHeld => ?_)
          clear hK KQ
          try simp only [Act.put, List.setIfInBounds_toArray, List.set_cons_zero, List.set_cons_succ]
          refine wpAnyH_done (by kernel_rfl) ?_ _
          go_wp2_with fail
          go_roundw
          case measure => have := HJ.out; simp [intOf] <;> omega
          case rel => exact ⟨q + 1, HJ.out, by simp, hid X10.out⟩
        · obtain rfl : q = j := by omega
          clear hlt hq
          go_wp2_with (first | (revert HR; intro HR; refine wpList_load_bg rfl 37 _ rfl g7 (sv PL q) rfl HR.out.b7 Tryd.underlying37 (by rw [hsn]; exact size40) ?_) | (revert HR; intro HR; refine wpList_load_bg rfl 37 _ rfl g6 (sv PL q) rfl HR.out.b6 Tryd.underlying37 (by rw [hsn]; exact size40) ?_))
          go_ret
          exact ⟨rfl, HR.out.ho.below⟩
end Go.Proofs.YtmomidkodjihjaaDoor
