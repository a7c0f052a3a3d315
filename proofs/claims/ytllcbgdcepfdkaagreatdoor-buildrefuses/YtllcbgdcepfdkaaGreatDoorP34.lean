import Derived.Test.YtllcbgdcepfdkaaGreatDoorP19
import Derived.Test.YtllcbgdcepfdkaaGreatDoorP33
namespace Go.Proofs.YtllcbgdcepfdkaaGreatDoor
open Go.RowKit
set_option maxRecDepth 100000
set_option maxHeartbeats 4000000
/-- Alike but for the meter. -/
structure DS.Sim (d d' : DS) : Prop where
  E : d'.E = d.E
  b : d'.b = d.b
  ns : d'.m.ns = d.m.ns
  P : d'.m.P = d.m.P
theorem DS.Sim.refl (d : DS) : DS.Sim d d := ⟨rfl, rfl, rfl, rfl⟩
theorem DS.Sim.symm {d e : DS} (h : DS.Sim d e) : DS.Sim e d := ⟨h.E.symm, h.b.symm, h.ns.symm, h.P.symm⟩
theorem DS.Sim.trans {d e f : DS} (h : DS.Sim d e) (k : DS.Sim e f) : DS.Sim d f := ⟨k.E.trans h.E, k.b.trans h.b, k.ns.trans h.ns, k.P.trans h.P⟩
theorem DS.Sim.at {d e : DS} (h : DS.Sim d e) (k : Nat) : e.at k = d.at k := by unfold DS.at; rw [h.E]
theorem DS.Sim.there {d e : DS} (h : DS.Sim d e) (q : Int) : e.there q = d.there q := by unfold DS.there; rw [h.ns]
theorem DS.Sim.ent {d e : DS} (h : DS.Sim d e) (q : Int) : e.ent q = d.ent q := by unfold DS.ent; rw [h.there, h.at]
theorem DS.Sim.entE {d e : DS} (h : DS.Sim d e) (q : Int) : e.entE q = d.entE q := by unfold DS.entE; rw [h.there]
theorem DS.Sim.mat {d e : DS} (h : DS.Sim d e) (s : Bool) (q : Int) : e.m.at s q = d.m.at s q := by unfold MS.at; rw [h.ns, h.P]
theorem DS.Sim.p {d e : DS} (h : DS.Sim d e) (k : Nat) : e.m.p k = d.m.p k := by unfold MS.p; rw [h.P]
theorem DS.Sim.word {d e : DS} (h : DS.Sim d e) (s : Bool) (q o : Int) : e.m.word s q o = d.m.word s q o := by unfold MS.word; simp only [h.mat, h.p]
theorem DS.Sim.err {d e : DS} (h : DS.Sim d e) (s : Bool) (q o : Int) : e.m.err s q o = d.m.err s q o := by unfold MS.err; rw [h.mat]
theorem DS.Sim.U {d e : DS} (h : DS.Sim d e) (k : d.m.U) : e.m.U := fun i j => by rw [h.p]; exact k i j
theorem DS.Sim.ws {d e : DS} (h : DS.Sim d e) : e.ws = d.ws := by unfold DS.ws; rw [h.E, h.b]
theorem DS.Sim.same {d e : DS} (h : DS.Sim d e) : d.m.same e.m = true := by unfold MS.same; rw [h.ns, h.P]; simp
theorem DS.Sim.read (d : DS) (s : Bool) (q o : Int) : DS.Sim d { d with m := d.m.read s q o } := by
  rw [MS.read_eq]
  split
  · exact ⟨rfl, rfl, rfl, rfl⟩
  · exact .refl d
theorem DS.Sim.ok {d e : DS} (h : DS.Sim d e) (k : d.Ok) : e.Ok := ⟨by rw [h.E, h.ns]; exact k.len, by rw [h.ns]; exact k.n64, fun i hi => by rw [h.at]; exact k.ok i (by rw [← h.ns]; exact hi), fun i hi => by rw [h.at, h.ns]; exact k.own i (by rw [← h.ns]; exact hi), by rw [h.b]; exact k.b0, by rw [h.b]; exact k.b1⟩
theorem DS.Sim.opE {d e : DS} (h : DS.Sim d e) (w : Int) : e.opE w = d.opE w := by unfold DS.opE; rw [h.ns, h.ent]
/-- What stays of the program's own tables. -/
structure Gl (W : World) (p : Dp) : Prop where
  tab : H.Tab W
  sz : 1 < W.heap.size
  off : ∀ k ∈ p.all, 2 ≤ k
theorem Gl.step {W w : World} {p : Dp} {G : List Nat} (h : Gl W p) (hb : ButL G W w) (hG : ∀ k ∈ G, k ∈ p.all) : Gl w p :=
  ⟨h.tab.below (hb.below (B := 2) (fun k hk => h.off k (hG k hk)) h.sz) (by decide), by have := hb.size; have := h.sz; omega, h.off⟩
theorem Gl.on {W w : World} {p : Dp} (h : Gl W p) (hb : Below W.heap.size W w) : Gl w p := h.step (G := []) (.of hb) (by simp)
/-- The words of a space's running digest. -/
def DS.st (d : DS) (s : Int) : List Int := (List.range 26).map fun (i : Nat) => d.m.word true s (11 + (i : Int))
theorem DS.st_length (d : DS) (s : Int) : (d.st s).length = 26 := by simp [DS.st]
theorem DS.st_get (d : DS) (s : Int) (i : Nat) (h : i < 26) : (d.st s)[i]? = some (d.m.word true s (11 + (i : Int))) := by simp [DS.st, h]
theorem DS.st_wds {d : DS} (h : d.m.U) (s : Int) : H.Wds (d.st s) := fun i => by
  by_cases hi : i < 26
  · rw [List.getD_eq_getElem?_getD, d.st_get s i hi]; exact h.word _ _ _
  · rw [List.getD_eq_getElem?_getD, List.getElem?_eq_none (by rw [d.st_length]; omega)]; decide
theorem DS.Sim.st {d e : DS} (h : DS.Sim d e) (s : Int) : e.st s = d.st s := by unfold DS.st; simp only [h.word]
/-- The first j words are read. -/
def mix (A B : List Int) (j : Nat) : List Int := A.take j ++ B.drop j
theorem mix_zero (A B : List Int) : mix A B 0 = B := rfl
theorem mix_all (A B : List Int) (h : A.length = B.length) : mix A B A.length = A := by unfold mix; rw [List.take_length, List.drop_of_length_le (by omega), List.append_nil]
theorem mix_set (A B : List Int) (j : Nat) (x : Int) (hA : j < A.length) (h : A.length = B.length) (hx : A[j]? = some x) : (u32s (mix A B j)).set j (.int .u32 x) = u32s (mix A B (j + 1)) := by
  have h1 : (A.take j).length = j := by rw [List.length_take]; omega
  have hB : j < B.length := by omega
  rw [u32s_set]
  congr 1
  unfold mix
  rw [List.set_append_right _ _ (by omega), h1, Nat.sub_self, List.drop_eq_getElem_cons hB, List.set_cons_zero, List.take_add_one, hx]
  simp
theorem mix_cell {w : World} {g : Nat} {t : TypeId} {A B : List Int} {j : Nat} (h : Cel w g t (u32s (mix A B j))) (hA : j < A.length) (hl : A.length = B.length) : ∃ y, w.cell? ⟨g, j, none⟩ = some (.int .u32 y) := by
  have h1 : (mix A B j).length = A.length := by unfold mix; rw [List.length_append, List.length_take, List.length_drop]; omega
  refine ⟨(mix A B j)[j]'(by omega), ?_⟩
  rw [h.cell]
  simp [u32s]
end Go.Proofs.YtllcbgdcepfdkaaGreatDoor
namespace Go.Proofs.YtllcbgdcepfdkaaGreatDoor
open Go.RowKit
set_option maxRecDepth 100000
set_option maxHeartbeats 8000000
theorem size59 : (Tryz.prog.info? 59).map (·.size) = some 26 := by kernel_rfl
theorem under59 : Tryz.prog.underlying 59 = some (.array 26 29) := by kernel_rfl
theorem size54 : (Tryz.prog.info? 54).map (·.size) = some 3 := by kernel_rfl
theorem under54 : Tryz.prog.underlying 54 = some (.struct (Tryz.prog.fieldsOf 54)) := by kernel_rfl
attribute [-simp] Tryz.isAgg59 Tryz.sizeOf59 Tryz.zeroValue59
theorem extended_any (W : World) (p : Dp) (d : DS) (h : DB W p d) (hU : d.m.U) (hG : Gl W p) (s : Int) (o : Q.MOp) (ho : o.Ok) (ao : Option Addr) (c : Nat) (hat : ∀ w, ButL p.f.w W w → H.At w .u32 ao o.ws) :
    Calls Tryz.prog 156 #[stV p s, o.v ao c] W fun e W' => ∃ d', DS.Sim d d' ∧ DB W' p d' ∧ ButL p.f.w W W' ∧
      ((H.LoadOk (d.st s) ∧ ∃ g, e = .returned (.slice (some ⟨g, 0, none⟩) 26 26) ∧ W.heap.size ≤ g ∧ Cel W' g 59 (u32s (Q.exS (d.st s) o.wds))) ∨ (¬ H.LoadOk (d.st s) ∧ e = .panicked (pn 4))) := by
  have D0 := hid (((DG.startw h).new 148 (stC p s)).new 54 [.int .i64 o.k, .int .u32 o.a, .slice ao o.ws.length c])
  obtain ⟨Z, hZ⟩ : ∃ Z : List Int, Z = List.replicate 26 0 := ⟨_, rfl⟩
  have hZl : Z.length = 26 := by rw [hZ]; simp
  have hz : ∀ w, (zeroValue 59).run Tryz.prog w = .ok (.agg (Z.map (Value.int .u32)).toArray) w := fun w => by rw [Tryz.zeroValue59, hZ]; rfl
  clear hZ
  have HSt := hid (fun w => Q.start_any w)
  have hSl : (H.saveOf []).length = 26 := H.saveOf_length _
  have HRd := hid (fun w d' (hs : DS.Sim d d') (hw : DB w p d') (off : Int) => (read_any w p.f d'.m hw.mem true s off))
  have HMm := hid (fun w d' (hw : DB w p d') => memory_any w p d' hw)
  have HFr := hid (fun w => sframe_any w s)
  have HA := hid hat
  have hL := d.st_length s
  have hW := DS.st_wds hU s
  have HGt := hid (fun j hj => d.st_get s j hj)
  have HX1 := hid (fun (w : World) (hw : Gl w p) (hk : H.LoadOk (d.st s)) (ha : H.At w .u32 ao o.ws) => Q.extend_gen w hw.tab hw.sz (d.st s) hL hW hk o ho ao c ha)
  have HX2 := hid (fun (w : World) (hk : ¬ H.LoadOk (d.st s)) => Q.extend_no w (d.st s) hL hW hk o ho ao c)
  have hXl : (Q.exS (d.st s) o.wds).length = 26 := Q.exS_len hL
  have HGl := hid hG
  have HS0 := hid (DS.Sim.refl d)
  have HWF := hid (fun k (hk : k ∈ p.f.w) => (show k ∈ p.all from by simp only [Dp.all, List.mem_cons]; exact Or.inr (Or.inr (Fp.w_all hk))))
  have HWd := hid (fun e (he : DS.Sim d e) (j : Nat) => he.word true s (11 + (j : Int)))
  clear h hU hG ho hat hW
  generalize H.saveOf [] = S0 at *
  generalize Q.exS (d.st s) o.wds = XS at *
  generalize d.st s = S at *
  obtain ⟨ok, oa, ows⟩ := o
  simp only at *
  simp only [stV, stC, Q.MOp.v, ptr, fr, H.Ag] at *
  go_enter Tryz.func156, Tryz.ntmps156
  go_upto_region 1 with fail
  generalize (World.alloc _ _).alloc _ = X at *
  have hX1 : (W.alloc (.cells #[.pointer (some ⟨p.g, 0, none⟩), .int .i64 s] 148)).heap.size = W.heap.size + 1 := by simp
  rw [hX1] at D0
  clear hX1
  generalize hg2 : W.heap.size = g2 at D0 ⊢
  have HG2 := hid hg2
  clear hg2
  go_upto_region 3 with (first | (go_at_call 47; refine (HSt.out _).mono ?_; rintro e w1 ⟨rfl, hb⟩; have D1 := hid (D0.out.on hb); clear hb) | (refine wpList_store_st rfl 59 _ _ rfl w1.heap.size (u32s S0) rfl rfl (Cel.new w1 59 (u32s Z)) (by rw [u32s, List.length_map, hSl]; exact size59) (by simp [u32s, hZl, hSl]) (List.all_eq_true.2 (fun v hv => by simp only [u32s, List.mem_map] at hv; obtain ⟨x, _, rfl⟩ := hv; rfl)) ?_; intro w2 hc hb hs; have D2 := hid (D1.out.add hc hb); have HN : Hid (g2 + 1 < w1.heap.size) := hid (D1.out.get 0 rfl).lt; clear hc hb hs))
  generalize w1.heap.size = g5 at *
  clear D0 D1 HSt
  go_loopw [10] (fun i wr => ∃ j : Nat, j ≤ 26 ∧ i = .int .i64 (j : Int) ∧ Hid (∃ d', DS.Sim d d' ∧ DG W wr p d' p.f.w [(g5, 59, u32s (mix S S0 j)), (g2 + 1, 54, [.int .i64 ok, .int .u32 oa, .slice ao ows.length c]), (g2, 148, [.pointer (some ⟨p.g, 0, none⟩), .int .i64 s])])) (fun i _ => 26 - (intOf i).toNat)
  case atStart => exact ⟨0, Nat.zero_le _, rfl, hid ⟨d, HS0.out, by rw [mix_zero]; exact D2.out⟩⟩
  case round =>
    obtain ⟨j, hj, rfl, HQ⟩ := hrel
    clear D2
    by_cases hlt : j < 26
    · have q1 : (j : Int) < 26 := by omega
      have kw : IntKind.wrap .i64 (11 + (j : Int)) = 11 + (j : Int) := by rw [IntKind.wrap_i64]; omega
      have kw2 : IntKind.wrap .i64 ((j : Int) + 1) = (j : Int) + 1 := by rw [IntKind.wrap_i64]; omega
      have HJ := hid hlt
      have HG1 := hid (HGt.out j hlt)
      clear hlt hj
      obtain ⟨d1, hs1, hD⟩ := HQ.out
      have E0 := hid hD
      have S1 := hid hs1
      have HW1 := hid (HWd.out d1 hs1 j)
      clear HQ hs1 hD
      generalize d.m.word true s (11 + (j : Int)) = wd at *
      go_upto_region 5 with fail
      have E1 := hid (E0.out.on (Below.refl _ _).drew)
      clear E0
      refine wp_region_held_drew (S := fun w => Cel w g2 148 [.pointer (some ⟨p.g, 0, none⟩), .int .i64 s]) (by kernel_rfl) (E1.out.get 2 rfl) (fun hHeld => ?_)
      generalize World.drew _ = w3 at *
      refine wpAnyH_take (i := 0) (oi := { dst := some 14, op := Op.move (Operand.tmp 6), type := 3, pos := "digest.go:13", after := #[], guard := none }) (v := .int .i64 (j : Int)) rfl (by kernel_rfl) (by kernel_rfl) (by kernel_rfl) (fun _ _ _ h => h) (Or.inl ⟨by rfl, by intro w hSw; go_simp⟩) (by assumption) ?_
      simp only [Act.put, List.setIfInBounds_toArray, List.set_cons_zero, List.set_cons_succ]
      refine wpAnyH_take (i := 1) (oi := { dst := some 15, op := Op.fieldAddr 148 (Operand.tmp 2) 0, type := 0, pos := "digest.go:13", after := #[], guard := none }) (v := .pointer (some ⟨g2, 0, none⟩)) rfl (by kernel_rfl) (by kernel_rfl) (by kernel_rfl) (fun _ _ _ h => h) (Or.inl ⟨by rfl, by intro w hSw; go_simp⟩) (by assumption) ?_
      simp only [Act.put, List.setIfInBounds_toArray, List.set_cons_zero, List.set_cons_succ]
      refine wpAnyH_take (i := 2) (oi := { dst := some 16, op := Op.load 25 (Operand.tmp 15), type := 25, pos := "digest.go:13", after := #[{ on := 1, ground := Ground.data }], guard := none }) (v := .pointer (some ⟨p.g, 0, none⟩)) rfl (by kernel_rfl) (by kernel_rfl) (by kernel_rfl) (fun _ _ _ h => h) (Or.inl ⟨by rfl, by intro w hSw; have hc := hSw.cell 0; simp only [List.getElem?_cons_zero] at hc; go_simp⟩) (by assumption) ?_
      simp only [Act.put, List.setIfInBounds_toArray, List.set_cons_zero, List.set_cons_succ]
      refine wpAnyH_take (i := 4) (oi := { dst := some 18, op := Op.fieldAddr 148 (Operand.tmp 2) 1, type := 0, pos := "digest.go:13", after := #[], guard := none }) (v := .pointer (some ⟨g2, 1, none⟩)) rfl (by kernel_rfl) (by kernel_rfl) (by kernel_rfl) (fun _ _ _ h => h) (Or.inl ⟨by rfl, by intro w hSw; go_simp⟩) (by assumption) ?_
      simp only [Act.put, List.setIfInBounds_toArray, List.set_cons_zero, List.set_cons_succ]
      refine wpAnyH_take (i := 5) (oi := { dst := some 19, op := Op.load 3 (Operand.tmp 18), type := 3, pos := "digest.go:13", after := #[{ on := 4, ground := Ground.data }], guard := none }) (v := .int .i64 s) rfl (by kernel_rfl) (by kernel_rfl) (by kernel_rfl) (fun _ _ _ h => h) (Or.inl ⟨by rfl, by intro w hSw; have hc := hSw.cell 1; simp only [List.getElem?_cons_succ, List.getElem?_cons_zero] at hc; go_simp⟩) (by assumption) ?_
      simp only [Act.put, List.setIfInBounds_toArray, List.set_cons_zero, List.set_cons_succ]
      refine wpAnyH_take (i := 7) (oi := { dst := some 21, op := Op.move (Operand.tmp 6), type := 3, pos := "digest.go:13", after := #[], guard := none }) (v := .int .i64 (j : Int)) rfl (by kernel_rfl) (by kernel_rfl) (by kernel_rfl) (fun _ _ _ h => h) (Or.inl ⟨by rfl, by intro w hSw; go_simp⟩) (by assumption) ?_
      simp only [Act.put, List.setIfInBounds_toArray, List.set_cons_zero, List.set_cons_succ]
      refine wpAnyH_take (i := 8) (oi := { dst := some 22, op := Op.binOp BinOp.add 3 (Operand.const (Value.int IntKind.i64 11)) (Operand.tmp 21) 3, type := 3, pos := "digest.go:13", after := #[{ on := 7, ground := Ground.data }], guard := none }) (v := .int .i64 (11 + (j : Int))) rfl (by kernel_rfl) (by kernel_rfl) (by kernel_rfl) (fun _ _ _ h => h) (Or.inl ⟨by rfl, by intro w hSw; go_simp⟩) (by assumption) ?_
      simp only [Act.put, List.setIfInBounds_toArray, List.set_cons_zero, List.set_cons_succ]
      refine wpAnyH_ready (rs := [3]) (by kernel_rfl) (by simp) (AllReadyH.cons (o := { dst := some 17, op := Op.call { callee := Callee.value (Operand.func 25), args := #[Operand.tmp 16], argTypes := #[25] }, type := 67, pos := "digest.go:13", after := #[{ on := 2, ground := Ground.data }], guard := none }) rfl (fun KQ hK => ?_) AllReadyH.nil)
      go_simp
      refine (HMm.out _ _ E1.out.db).mono ?_
      rintro e w4 ⟨rfl, rfl⟩
      go_wp2_with fail
      refine hK.out _ _ (E1.out.get 2 rfl) (fun hHeld => ?_)
      clear hK KQ
      try simp only [Act.put, List.setIfInBounds_toArray, List.set_cons_zero, List.set_cons_succ]
      refine wpAnyH_ready (rs := [6]) (by kernel_rfl) (by simp) (AllReadyH.cons (o := { dst := some 20, op := Op.call { callee := Callee.value (Operand.func 158), args := #[Operand.tmp 19], argTypes := #[3] }, type := 82, pos := "digest.go:13", after := #[{ on := 5, ground := Ground.data }, { on := 3, ground := Ground.chain }], guard := none }) rfl (fun KQ hK => ?_) AllReadyH.nil)
      go_simp
      refine (HFr.out _).mono ?_
      rintro e w4 ⟨rfl, hb⟩
      have E2 := hid (E1.out.on hb)
      clear hb E1
      go_wp2_with fail
      refine hK.out _ _ (E2.out.get 2 rfl) (fun hHeld => ?_)
      clear hK KQ
      try simp only [Act.put, List.setIfInBounds_toArray, List.set_cons_zero, List.set_cons_succ]
      refine wpAnyH_ready (rs := [9]) (by kernel_rfl) (by simp) (AllReadyH.cons (o := { dst := some 23, op := Op.call { callee := Callee.value (Operand.func 171), args := #[Operand.tmp 17, Operand.tmp 20, Operand.tmp 22], argTypes := #[67, 82, 3] }, type := 166, pos := "digest.go:13", after := #[{ on := 3, ground := Ground.data }, { on := 6, ground := Ground.data }, { on := 8, ground := Ground.data }, { on := 6, ground := Ground.chain }], guard := none }) rfl (fun KQ hK => ?_) AllReadyH.nil)
      go_simp
      refine (HRd.out _ _ S1.out E2.out.db _).mono ?_
      rintro e w5 ⟨rfl, hm, hb⟩
      have E3 := hid (E2.out.mem hm hb (MS.read_ns ..))
      have S2 := hid (S1.out.trans (DS.Sim.read _ true s (11 + (j : Int))))
      clear hm hb E2 S1
      rw [HW1.out]
      generalize MS.err _ true s (11 + (j : Int)) = ee at *
      go_wp2_with fail
      refine hK.out _ _ (E3.out.get 2 rfl) (fun hHeld => ?_)
      clear hK KQ
      try simp only [Act.put, List.setIfInBounds_toArray, List.set_cons_zero, List.set_cons_succ]
      refine wpAnyH_take (i := 10) (oi := { dst := some 13, op := Op.move (Operand.tmp 23), type := 166, pos := "digest.go:13", after := #[{ on := 9, ground := Ground.data }], guard := none }) (v := .tuple #[.int .u32 wd, .int .i64 ee]) rfl (by kernel_rfl) (by kernel_rfl) (by kernel_rfl) (fun _ _ _ h => h) (Or.inl ⟨by rfl, by intro w hSw; go_simp⟩) (by assumption) ?_
      simp only [Act.put, List.setIfInBounds_toArray, List.set_cons_zero, List.set_cons_succ]
      refine wpAnyH_take (i := 11) (oi := { dst := some 24, op := Op.extract (Operand.tmp 13) 0, type := 29, pos := "digest.go:13", after := #[{ on := 10, ground := Ground.data }], guard := none }) (v := .int .u32 wd) rfl (by kernel_rfl) (by kernel_rfl) (by kernel_rfl) (fun _ _ _ h => h) (Or.inl ⟨by rfl, by intro w hSw; go_simp⟩) (by assumption) ?_
      simp only [Act.put, List.setIfInBounds_toArray, List.set_cons_zero, List.set_cons_succ]
      refine wpAnyH_take (i := 12) (oi := { dst := some 25, op := Op.extract (Operand.tmp 13) 1, type := 39, pos := "digest.go:13", after := #[{ on := 10, ground := Ground.data }, { on := 14, ground := Ground.gcOnly Departure.lateStores }], guard := none }) (v := .int .i64 ee) rfl (by kernel_rfl) (by kernel_rfl) (by kernel_rfl) (fun _ _ _ h => h) (Or.inl ⟨by rfl, by intro w hSw; go_simp⟩) (by assumption) ?_
      simp only [Act.put, List.setIfInBounds_toArray, List.set_cons_zero, List.set_cons_succ]
      refine wpAnyH_take (i := 13) (oi := { dst := some 26, op := Op.indexAddr 59 (Operand.tmp 5) (Operand.tmp 14), type := 0, pos := "digest.go:13", after := #[{ on := 0, ground := Ground.data }, { on := 0, ground := Ground.phase }, { on := 1, ground := Ground.phase }, { on := 2, ground := Ground.phase }, { on := 3, ground := Ground.phase }, { on := 4, ground := Ground.phase }, { on := 5, ground := Ground.phase }, { on := 6, ground := Ground.phase }, { on := 7, ground := Ground.phase }, { on := 8, ground := Ground.phase }, { on := 9, ground := Ground.phase }, { on := 10, ground := Ground.phase }, { on := 11, ground := Ground.phase }, { on := 12, ground := Ground.textOnly Departure.lateStores }], guard := none }) (v := .pointer (some ⟨g5, j, none⟩)) rfl (by kernel_rfl) (by kernel_rfl) (by kernel_rfl) (fun _ _ _ h => h) (Or.inl ⟨by rfl, by intro w hSw; go_simp⟩) (by assumption) ?_
      simp only [Act.put, List.setIfInBounds_toArray, List.set_cons_zero, List.set_cons_succ]
      refine wpAnyH_ready (rs := [14]) (by kernel_rfl) (by simp) (AllReadyH.cons (o := { dst := none, op := Op.store 29 (Operand.tmp 26) (Operand.tmp 24), type := 0, pos := "digest.go:13", after := #[{ on := 13, ground := Ground.data }, { on := 11, ground := Ground.data }, { on := 9, ground := Ground.chain }, { on := 0, ground := Ground.phase }, { on := 1, ground := Ground.phase }, { on := 2, ground := Ground.phase }, { on := 3, ground := Ground.phase }, { on := 4, ground := Ground.phase }, { on := 5, ground := Ground.phase }, { on := 6, ground := Ground.phase }, { on := 7, ground := Ground.phase }, { on := 8, ground := Ground.phase }, { on := 9, ground := Ground.phase }, { on := 10, ground := Ground.phase }, { on := 11, ground := Ground.phase }, { on := 12, ground := Ground.textOnly Departure.lateStores }], guard := none }) rfl (fun KQ hK => ?_) AllReadyH.nil)
      (obtain ⟨y, z0⟩ := mix_cell (E3.out.get 0 rfl) (by have := HJ.out; omega) (by omega); have z1 := (E3.out.get 0 rfl).free j; go_simp)
      have E4 := hid (E3.out.put (fun q hq => by simp only [List.mem_cons, List.not_mem_nil, or_false] at hq; rcases hq with rfl | rfl <;> (have := HN.out; simp only; omega)) ((E3.out.get 0 rfl).setCell j (.int .u32 wd)) (.setCell _ _ _ _ (by simp)))
      rw [mix_set S S0 j wd (by have := HJ.out; omega) (by omega) HG1.out] at E4
      have E5 := hid E4.out
      clear E4 E3 z0 z1
      generalize World.setCell _ _ _ = w7 at *
      refine hK.out _ _ (E5.out.get 2 rfl) (fun hHeld => ?_)
      clear hK KQ
      try simp only [Act.put]
      refine wpAnyH_done (by kernel_rfl) ?_ _
      go_wp2_with fail
      go_roundw
      case measure => have := HJ.out; simp [intOf] <;> omega
      case rel => exact ⟨j + 1, HJ.out, by simp, hid ⟨_, S2.out, E5.out⟩⟩
    · obtain rfl : j = 26 := by omega
      clear hlt hj
      obtain ⟨d1, hs1, hD⟩ := HQ.out
      rw [show mix S S0 26 = S from by rw [← hL]; exact mix_all S S0 (by omega)] at hD
      have E0 := hid hD
      have S1 := hid hs1
      clear HQ hs1 hD
      by_cases hk : H.LoadOk S
      · have HX := hid (HX1.out · · hk)
        have HK := hid hk
        clear HX1 HX2 hk
        go_upto_region 8 with (first | (revert E0; intro E0; refine wpList_load_gm rfl 59 _ rfl g5 0 rfl _ _ (E0.out.get 0 rfl).range under59 rfl (by rw [u32s, List.length_map, hL]; exact size59) ?_) | (revert E0; intro E0; refine wpList_load_gm rfl 54 _ rfl (g2 + 1) 0 rfl _ _ (E0.out.get 1 rfl).range under54 rfl size54 ?_) | (go_at_call 54; refine (HX.out _ (HGl.out.step E0.out.but HWF.out) (HA.out _ E0.out.but)).mono ?_; rintro e w3 ⟨rfl, hb⟩; have E1 := hid (E0.out.on hb); clear hb E0) | (refine wpList_store_st rfl 59 _ _ rfl w3.heap.size (u32s XS) rfl rfl (Cel.new w3 59 (u32s Z)) (by rw [u32s, List.length_map, hXl]; exact size59) (by simp [u32s, hZl, hXl]) (List.all_eq_true.2 (fun v hv => by simp only [u32s, List.mem_map] at hv; obtain ⟨x, _, rfl⟩ := hv; rfl)) ?_; intro w4 hc hb hs; have E2 := hid (E1.out.add hc hb); have HN3 : Hid (g2 ≤ w3.heap.size) := hid (by have := (E1.out.get 1 rfl).lt; omega); clear hc hb hs))
        generalize w3.heap.size = g7 at *
        go_wp2_with (first | (go_at_call 152; refine (insist_yes _ 4).mono ?_; rintro e w5 ⟨rfl, rfl⟩))
        go_ret
        exact ⟨d1, S1.out, E2.out.db, E2.out.but, Or.inl ⟨HK.out, g7, rfl, by have := HG2.out; have := HN3.out; omega, E2.out.get 0 rfl⟩⟩
      · have HX := hid (HX2.out · hk)
        have HK := hid hk
        clear HX1 HX2 hk
        have HZ0 := hid (show (List.replicate 26 (0 : Int)).length = 26 by simp)
        generalize List.replicate 26 (0 : Int) = Z0 at *
        go_upto_region 8 with (first | (revert E0; intro E0; refine wpList_load_gm rfl 59 _ rfl g5 0 rfl _ _ (E0.out.get 0 rfl).range under59 rfl (by rw [u32s, List.length_map, hL]; exact size59) ?_) | (revert E0; intro E0; refine wpList_load_gm rfl 54 _ rfl (g2 + 1) 0 rfl _ _ (E0.out.get 1 rfl).range under54 rfl size54 ?_) | (go_at_call 54; refine (HX.out _).mono ?_; rintro e w3 ⟨rfl, hb⟩; have E1 := hid (E0.out.on hb); clear hb E0) | (refine wpList_store_st rfl 59 _ _ rfl w3.heap.size (u32s Z0) rfl rfl (Cel.new w3 59 (u32s Z)) (by rw [u32s, List.length_map, HZ0.out]; exact size59) (by simp [u32s, hZl, HZ0.out]) (List.all_eq_true.2 (fun v hv => by simp only [u32s, List.mem_map] at hv; obtain ⟨x, _, rfl⟩ := hv; rfl)) ?_; intro w4 hc hb hs; have E2 := hid (E1.out.add hc hb); clear hc hb hs))
        go_wp2_with (first | (go_at_call 152; refine (insist_no _ 4).mono ?_; rintro e w5 ⟨rfl, rfl⟩))
        exact ⟨rfl, d1, S1.out, E2.out.db, E2.out.but, Or.inr ⟨HK.out, rfl⟩⟩
end Go.Proofs.YtllcbgdcepfdkaaGreatDoor
