/- doc 29, fitted 23. -/
import Derived.Test.YtbpdmkohihgnjaaDoorTd
import Derived.Test.YtbpdmkohihgnjaaDoorTa
import Derived.Test.YtbpdmkohihgnjaaDoorJl
namespace Go.Proofs.YtbpdmkohihgnjaaDoor
open Go.RowKit
set_option maxHeartbeats 8000000
set_option maxRecDepth 100000
theorem fields61 : (Tryd.prog.fieldsOf 61).toList.map (fun f => (f.name, f.type, f.offset)) = [("Measurement", 23, 0), ("Data", 23, 8), ("Tag", 23, 16)] := by kernel_rfl
theorem under61 : Tryd.prog.underlying 61 = some (.struct (Tryd.prog.fieldsOf 61)) := by kernel_rfl
theorem stood61 : Tryd.prog.stoodInHeld 61 = false := by kernel_rfl
theorem eq61 (w : World) (a b c x y z : List Int) (ha : a.length = 8) (hb : b.length = 8) (hc : c.length = 8) (hx : x.length = 8) (hy : y.length = 8) (hz : z.length = 8) :
    (Op.equalIn 10000 61 (.agg ((quoL a b c).map (Value.int .u32)).toArray) (.agg ((quoL x y z).map (Value.int .u32)).toArray)).run Tryd.prog w = .ok (decide (a = x) && (decide (b = y) && decide (c = z))) w := by
  rw [run_equalIn_struct w 9999 61 _ _ under61 stood61]
  have h := fields61
  generalize (Tryd.prog.fieldsOf 61).toList = L at h ⊢
  have hl : L.length = 3 := by have := congrArg List.length h; simpa using this
  match L, hl with
  | [f1, f2, f3], _ =>
    simp only [List.map_cons, List.map_nil, List.cons.injEq, Prod.mk.injEq, and_true] at h
    obtain ⟨⟨a1, a2, a3⟩, ⟨b1, b2, b3⟩, c1, c2, c3⟩ := h
    have e0 := run_equalIn_words (P := Tryd.prog) w 9997 23 22 8 Tryd.underlying23 Tryd.underlying22 Tryd.sizeOf22
    simp only [Op.eqFields, a1, a2, a3, b1, b2, b3, c1, c2, c3, Sem.run_bind, part0 w a b c ha hb hc, part8 w a b c ha hb hc, part16 w a b c ha hb hc, part0 w x y z hx hy hz, part8 w x y z hx hy hz, part16 w x y z hx hy hz, Result.andThen_ok, e0 a x ha hx, e0 b y hb hy, e0 c z hc hz, Sem.run_ite, Sem.run_pure]
    cases decide (a = x) <;> cases decide (b = y) <;> cases decide (c = z) <;> rfl
theorem three8 (L : List Int) (h : L.length = 24) : ∃ a b c, L = quoL a b c ∧ a.length = 8 ∧ b.length = 8 ∧ c.length = 8 := by
  refine ⟨L.take 8, (L.drop 8).take 8, (L.drop 8).drop 8, ?_, ?_, ?_, ?_⟩
  · unfold quoL
    rw [List.take_append_drop, List.take_append_drop]
  · rw [List.length_take]; omega
  · rw [List.length_take, List.length_drop]; omega
  · rw [List.length_drop, List.length_drop]; omega
theorem eq61_self (w : World) (L : List Int) (h : L.length = 24) : (Op.equalIn 10000 61 (.agg (L.map (Value.int .u32)).toArray) (.agg (L.map (Value.int .u32)).toArray)).run Tryd.prog w = .ok true w := by
  obtain ⟨a, b, c, rfl, ha, hb, hc⟩ := three8 L h
  rw [eq61 w a b c a b c ha hb hc ha hb hc]
  simp
theorem ret_q1 {P : Program} {fn : Func} {p : Tmp} {ty e : TypeId} {d : TypeDesc} {a : Act} {w : World} {post : Ending → World → Prop} (hr : fn.results = #[.cell p ty]) (hd : a.defers = []) (g : Nat) (cs : List Value)
    (hp : a.tmps.getD p undef = .pointer (some ⟨g, 0, none⟩)) (hb : Cel w g e cs) (hu : P.underlying ty = some d) (hdd : (match d with | .struct _ | .array _ _ => true | _ => false) = true) (hi : (P.info? ty).map (·.size) = some cs.length) (h : post (.returned (.agg cs.toArray)) w) :
    bodyPost P fn post .ret a w := by
  refine bodyPost_ret (v := .agg cs.toArray) ?_ hd h
  have hp' : a.tmps[p]?.getD undef = .pointer (some ⟨g, 0, none⟩) := by simpa using hp
  have := run_loadVar_row (P := P) w g e ty _ (0, 0) _ hb hu hdd (by rw [hi]; simp)
  simp [results, hr, hp', asAddr, this]
theorem splm {α : Type} (a b b' c : List α) (off : Nat) (h : a.length = off) (h2 : b.length = b'.length) : splice (a ++ (b ++ c)) off b' = a ++ (b' ++ c) := by
  subst h
  rw [splice, List.take_left, ← h2, ← List.append_assoc a b c, List.drop_left' (by simp)]
theorem sp8 {m d t x : List Int} (hm : m.length = 8) (hd : d.length = 8) (hx : x.length = 8) : splice ((quoL m d t).map (Value.int .u32)) 8 (x.map (Value.int .u32)) = (quoL m x t).map (Value.int .u32) := by
  unfold quoL
  rw [List.map_append, List.map_append, splm _ _ _ _ 8 (by simp [hm]) (by simp [hd, hx]), List.map_append, List.map_append]
theorem sp16 {m d t x : List Int} (hm : m.length = 8) (hd : d.length = 8) (ht : t.length = 8) (hx : x.length = 8) : splice ((quoL m d t).map (Value.int .u32)) 16 (x.map (Value.int .u32)) = (quoL m d x).map (Value.int .u32) := by
  have e : (quoL m d t).map (Value.int .u32) = (m ++ d).map (Value.int .u32) ++ (t.map (Value.int .u32) ++ []) := by simp [quoL]
  rw [e, splm _ _ _ _ 16 (by simp [hm, hd]) (by simp [ht, hx])]
  simp [quoL]
theorem wp_store_pt {P : Program} {op : Oper} {a : Act} {w : World} {K : Act → World → Prop} {Q : Exit → Act → World → Prop} (ty : TypeId) (x y : Operand) (ho : op.op = .store ty x y)
    (g off : Nat) (L' : List Int) (hx : a.eval x = .pointer (some ⟨g, off, none⟩)) (hy : a.eval y = Ag L') {e : TypeId} {cs : List Value} (hg : Cel w g e cs) (hi : (P.info? ty).map (·.size) = some L'.length) (hl : off + L'.length ≤ cs.length)
    (h : ∀ w', Cel w' g e (splice cs off (L'.map (Value.int .u32))) → But g w w' → w'.heap.size = w.heap.size → K (a.put op.dst undef) w') : op.wp P a w K Q := by
  have := h _ (setRow_heap w g _ (splice cs off (L'.map (Value.int .u32))).toArray e _ hg) (but_setRow w g _) (by simp)
  unfold Oper.wp execOp
  simp only [ho, hx, hy, Instr.storeAt, Instr.sureAddr, Sem.run_bind, Sem.run_pure, Result.andThen_ok, run_storeVar_part w g off ty e L' hg hi hl]
  exact this
attribute [-simp] Tryd.isAgg23 Tryd.zeroValue23 Tryd.isAgg61 Tryd.zeroValue61 Tryd.isAgg38 Tryd.zeroValue38 Tryd.isAgg40 Tryd.zeroValue40
theorem doc_any (W : World) (L : List Int) (hL : L.length = 24) :
    Calls Tryd.prog 29 #[Ag L] W fun e W' => e = .returned (Ag L) ∧ Below W.heap.size W W' := by
  obtain ⟨m, d, t, rfl, hm, hd, ht⟩ := three8 L hL
  have hy : ∀ w, (zeroValue 61).run Tryd.prog w = .ok (.agg (zer24.map (Value.int .u32)).toArray) w := fun w => by rw [Tryd.zeroValue61]; rfl
  have hYl : zer24.length = 24 := rfl
  obtain ⟨X, hX⟩ : ∃ X, X = (W.alloc (Obj.cells (List.map (Value.int IntKind.u32) (quoL m d t)).toArray 38)).alloc (Obj.cells (List.map (Value.int IntKind.u32) zer24).toArray 61) := ⟨_, rfl⟩
  have HB : Hid (Below W.heap.size W X) := hid (by rw [hX]; exact below_on (below_one W _) (below_one _ _))
  have b1 : Hid (Blk X W.heap.size .u32 38 (quoL m d t)) := hid (by rw [hX]; exact (Blk.new W .u32 38 _).alloc _)
  have b2 : Hid (Blk X (W.heap.size + 1) .u32 61 zer24) := hid (by rw [hX]; exact Blk.newAt (by simp) .u32 61 zer24)
  generalize zer24 = Z24 at *
  unfold Ag
  go_enter Tryd.func29, Tryd.ntmps29
  go_upto_region 1 with fail
  rw [← hX]
  clear hX
  go_wp2_with (first | (refine wpList_load_mid rfl 23 _ rfl W.heap.size 0 rfl _ _ (quo0 (cel_range (blk_cel b1.out))) Tryd.underlying23 rfl (by rw [List.length_map, hm]; exact size26) ?_) | (refine wpList_load_mid rfl 23 _ rfl W.heap.size 8 rfl _ _ (by have := quo8 (cel_range (blk_cel b1.out)) hm; rwa [Nat.zero_add] at this) Tryd.underlying23 rfl (by rw [List.length_map, hd]; exact size26) ?_) | (refine wpList_load_mid rfl 23 _ rfl W.heap.size 16 rfl _ _ (by have := quo16 (cel_range (blk_cel b1.out)) hm hd; rwa [Nat.zero_add] at this) Tryd.underlying23 rfl (by rw [List.length_map, ht]; exact size26) ?_) | (refine wpList_build_r rfl _ _ _ rfl m d t hm hd ht rfl rfl rfl ?_) | (refine wpList_store_blk rfl 61 _ _ rfl (W.heap.size + 1) (quoL m d t) rfl rfl b2.out (by rw [hL]; exact size61) (by rw [hYl, hL]) ?_))
  refine ret_q1 rfl rfl (W.heap.size + 1) ((quoL m d t).map (Value.int .u32)) rfl (blk_cel (b2.out.setRow _)) Tryd.underlying61 rfl (by rw [List.length_map, hL]; exact size61) ⟨rfl, below_setRow HB.out (by omega) _⟩
structure FT (W : World) (s o q : List Int) (ri sa : Bool) (Z m d t : List Int) (w : World) : Prop where
  bl : Below W.heap.size W w
  tr : TR w
  c : Cel w W.heap.size 40 (claC s o q ri sa)
  b2 : Blk w (W.heap.size + 1) .u32 38 Z
  b3 : Blk w (W.heap.size + 1 + 1) .u32 38 (quoL m d t)
theorem FT.on {W : World} {s o q : List Int} {ri sa : Bool} {Z m d t : List Int} {w w' : World} (h : FT W s o q ri sa Z m d t w) (hb : Below w.heap.size w w') : FT W s o q ri sa Z m d t w' := ⟨below_on h.bl hb, h.tr.on hb, h.c.on hb, h.b2.on hb, h.b3.on hb⟩
theorem FT.but {W : World} (hT : TR W) {s o q : List Int} {ri sa : Bool} {Z m d t : List Int} {w w' : World} (h : FT W s o q ri sa Z m d t w) (hb : But (W.heap.size + 1 + 1) w w') (m' d' t' : List Int) (hc : Blk w' (W.heap.size + 1 + 1) .u32 38 (quoL m' d' t')) : FT W s o q ri sa Z m' d' t' w' := by
  have hB : Below W.heap.size W w' := h.bl.trans (hb.below (by omega) h.bl.size)
  exact ⟨hB, hT.on hB, h.c.but hb (by omega), hb.blk h.b2 (by omega), hc⟩
theorem claC_length {s o q : List Int} {ri sa : Bool} (hs : s.length = 8) (ho : o.length = 8) (hq : q.length = 24) : (claC s o q ri sa).length = 42 := by simp [claC, hs, ho, hq]
theorem fitted_any (W : World) (hT : TR W) (s o m d t : List Int) (ri sa : Bool) (hs : s.length = 8) (ho : o.length = 8) (hm : m.length = 8) (hd : d.length = 8) (ht : t.length = 8) (ws : Wds s) (wo : Wds o) (wm : Wds m) (wd : Wds d) :
    Calls Tryd.prog 23 #[.agg (claC s o (quoL m d t) ri sa).toArray] W fun e W' => e = .returned (Ag (quoL m (if sa then o else d) (if ri then tagOf (keyOf s) m (if sa then o else d) else t))) ∧ Below W.heap.size W W' := by
  have hy : ∀ w, (zeroValue 38).run Tryd.prog w = .ok (.agg (zer24.map (Value.int .u32)).toArray) w := fun w => by rw [Tryd.zeroValue38]; rfl
  have hYl : zer24.length = 24 := rfl
  have hQl := quoL_length hm hd ht
  obtain ⟨X, hX⟩ : ∃ X, X = ((W.alloc (Obj.cells (claC s o (quoL m d t) ri sa).toArray 40)).alloc (Obj.cells (List.map (Value.int IntKind.u32) zer24).toArray 38)) := ⟨_, rfl⟩
  have HB : Hid (Below W.heap.size W X) := hid (by rw [hX]; exact below_on (below_one W _) (below_one _ _))
  have c1 : Hid (Cel X W.heap.size 40 (claC s o (quoL m d t) ri sa)) := hid (by rw [hX]; exact Cel.on (show Cel (W.alloc (Obj.cells (claC s o (quoL m d t) ri sa).toArray 40)) W.heap.size 40 (claC s o (quoL m d t) ri sa) from heap_alloc_new _ _) (below_one _ _))
  have b2 : Hid (Blk X (W.heap.size + 1) .u32 38 zer24) := hid (by rw [hX]; exact Blk.newAt (by simp) .u32 38 zer24)
  have hXs : X.heap.size = W.heap.size + 1 + 1 := by rw [hX]; simp
  have HQ : Hid (∀ w, FT W s o (quoL m d t) ri sa zer24 m d t w → w.cell? ⟨W.heap.size, 40, none⟩ = some (.bool ri) ∧ w.cell? ⟨W.heap.size, 41, none⟩ = some (.bool sa)) := hid (fun w h => cla40 h.c hs ho hQl)
  have HK1 : Hid (∀ w, TR w → Calls Tryd.prog 24 #[.agg (s.map (Value.int .u32)).toArray] w fun e W' => e = .returned (.agg ((keyOf s).map (Value.int .u32)).toArray) ∧ Below w.heap.size w W') := hid fun w h => rkey_any w h s hs ws
  have HK2 : Hid (∀ w, TR w → ∀ d, d.length = 8 → Wds d → Calls Tryd.prog 25 #[.agg ((keyOf s).map (Value.int .u32)).toArray, .agg (m.map (Value.int .u32)).toArray, .agg (d.map (Value.int .u32)).toArray] w fun e W' => e = .returned (.agg ((tagOf (keyOf s) m d).map (Value.int .u32)).toArray) ∧ Below w.heap.size w W') := hid fun w h d hd wd => rtagq_any w h (keyOf s) m d (keyOf_length s) hm hd (hmac_wds _ _) wm wd
  have HTW := hid hT
  have HSX := hid hXs
  generalize zer24 = Z24 at *
  clear hT ws hXs
  unfold Ag
  go_enter Tryd.func23, Tryd.ntmps23
  go_upto_region 1 with fail
  rw [← hX]
  clear hX
  go_upto_region 2 with (first | (refine wpList_load_mid rfl 38 _ rfl W.heap.size 16 rfl _ _ (cla16 c1.out hs ho) Tryd.underlying38 rfl (by rw [List.length_map, hQl]; exact size38) ?_) | (refine wpList_store_but rfl 38 _ _ rfl X.heap.size (quoL m d t) rfl rfl (Blk.new X .u32 38 Z24) (by rw [hQl]; exact size38) (by rw [hYl, hQl]) ?_; intro w2 bM hbt hsz; have Y2 : Hid (FT W s o (quoL m d t) ri sa Z24 m d t w2) := hid (by have hB := but_box hbt; have e := HSX.out; exact ⟨below_on HB.out hB, HTW.out.on (below_on HB.out hB), c1.out.on hB, b2.out.on hB, by rw [← e]; exact bM⟩); clear bM hbt hsz))
  have hG := HSX.out
  rw [hG]
  clear HSX hG HB c1 b2
  cases sa
  · have hc := (HQ.out _ Y2.out).2
    go_upto_region 4 with fail
    clear hc
    have Y4 : Hid (FT W s o (quoL m d t) ri false Z24 m d t w2) := hid (by have := Y2.out; exact this)
    clear Y2
    have hcr : ∀ w, FT W s o (quoL m d t) ri false Z24 m d t w → w.cell? ⟨W.heap.size, 40, none⟩ = some (.bool ri) := fun w h => (cla40 h.c hs ho (quoL_length hm hd ht)).1
    have HCR := hid hcr
    clear hcr HQ
    have HD : Hid (∀ w, TR w → Calls Tryd.prog 25 #[.agg ((keyOf s).map (Value.int .u32)).toArray, .agg (m.map (Value.int .u32)).toArray, .agg (d.map (Value.int .u32)).toArray] w fun e W' => e = .returned (.agg ((tagOf (keyOf s) m d).map (Value.int .u32)).toArray) ∧ Below w.heap.size w W') := hid fun w h => HK2.out w h d hd wd
    clear HK2
    have hMl := tagOf_length (keyOf s) m d
    have HR := hid (show ∀ b : Bool, (if b then tagOf (keyOf s) m d else t) = (if b then tagOf (keyOf s) m d else t) from fun _ => rfl)
    cases ri
    · have hc := HCR.out _ Y4.out
      go_upto_region 6 with fail
      clear hc
      have hQ2 := quoL_length hm hd ht
      go_wp2_with (first | (refine wpList_load_mid rfl 38 _ rfl (W.heap.size + 1 + 1) 0 rfl _ _ (cel_range (blk_cel Y4.out.b3)) Tryd.underlying38 rfl (by rw [List.length_map, hQ2]; exact size38) ?_) | (refine wpList_store_blk rfl 38 _ _ rfl (W.heap.size + 1) (quoL m d t) rfl rfl Y4.out.b2 (by rw [hQ2]; exact size38) (by rw [hYl, hQ2]) ?_))
      refine ret_q1 rfl rfl (W.heap.size + 1) ((quoL m d t).map (Value.int .u32)) rfl (blk_cel (Y4.out.b2.setRow _)) Tryd.underlying38 rfl (by rw [List.length_map, hQ2]; exact size38) ⟨rfl, below_setRow Y4.out.bl (by omega) _⟩
    · have hc := HCR.out _ Y4.out
      go_upto_region 5 with fail
      clear hc
      have hQ2 := quoL_length hm hd hMl
      generalize hM : tagOf (keyOf s) m d = M at *
      generalize hKs : keyOf s = K at *
      have HM := hid hM
      have HKs := hid hKs
      clear hM hKs
      have Y5 : Hid (FT W s o (quoL m d t) true false Z24 m d t (w2).drew) := hid (Y4.out.on (Below.refl _ _).drew)
      clear Y4
      refine wp_region_held_drew (S := fun w => ∃ t2, FT W s o (quoL m d t) true false Z24 m d t2 w) (by kernel_rfl) ⟨_, Y5.out⟩ (fun hHeld => ?_)
      generalize World.drew _ = w5 at *
      refine wpAnyH_take (i := 0) (oi := { dst := some 13, op := Op.fieldAddr 40 (Operand.tmp 1) 0, type := 0, pos := "law.go:83", after := #[], guard := none }) (v := .pointer (some ⟨W.heap.size, 0, none⟩)) rfl (by kernel_rfl) (by kernel_rfl) (by kernel_rfl) (fun _ _ _ h => h) (Or.inl ⟨by rfl, by intro w hSw; go_simp⟩) (by assumption) ?_
      simp only [Act.put, List.setIfInBounds_toArray, List.set_cons_zero, List.set_cons_succ]
      refine wpAnyH_take (i := 1) (oi := { dst := some 14, op := Op.load 23 (Operand.tmp 13), type := 23, pos := "law.go:83", after := #[{ on := 0, ground := Ground.data }], guard := none }) (v := .agg ((s).map (Value.int .u32)).toArray) rfl (by kernel_rfl) (by kernel_rfl) (by kernel_rfl) (fun _ _ _ h => h) (yieldsIf_load_mid (by rfl) _ _ rfl _ _ rfl _ _ (fun w hSw => cla0 hSw.choose_spec.c) Tryd.underlying23 rfl (by rw [List.length_map, hs]; exact size26)) (by assumption) ?_
      simp only [Act.put, List.setIfInBounds_toArray, List.set_cons_zero, List.set_cons_succ]
      refine wpAnyH_take (i := 3) (oi := { dst := some 16, op := Op.fieldAddr 38 (Operand.tmp 3) 0, type := 0, pos := "law.go:83", after := #[], guard := none }) (v := .pointer (some ⟨W.heap.size + 1 + 1, 0, none⟩)) rfl (by kernel_rfl) (by kernel_rfl) (by kernel_rfl) (fun _ _ _ h => h) (Or.inl ⟨by rfl, by intro w hSw; go_simp⟩) (by assumption) ?_
      simp only [Act.put, List.setIfInBounds_toArray, List.set_cons_zero, List.set_cons_succ]
      refine wpAnyH_take (i := 4) (oi := { dst := some 17, op := Op.load 23 (Operand.tmp 16), type := 23, pos := "law.go:83", after := #[{ on := 3, ground := Ground.data }], guard := none }) (v := .agg ((m).map (Value.int .u32)).toArray) rfl (by kernel_rfl) (by kernel_rfl) (by kernel_rfl) (fun _ _ _ h => h) (yieldsIf_load_mid (by rfl) _ _ rfl _ _ rfl _ _ (fun w hSw => quo0 (cel_range (blk_cel hSw.choose_spec.b3))) Tryd.underlying23 rfl (by rw [List.length_map, hm]; exact size26)) (by assumption) ?_
      simp only [Act.put, List.setIfInBounds_toArray, List.set_cons_zero, List.set_cons_succ]
      refine wpAnyH_take (i := 5) (oi := { dst := some 18, op := Op.fieldAddr 38 (Operand.tmp 3) 1, type := 0, pos := "law.go:83", after := #[], guard := none }) (v := .pointer (some ⟨W.heap.size + 1 + 1, 8, none⟩)) rfl (by kernel_rfl) (by kernel_rfl) (by kernel_rfl) (fun _ _ _ h => h) (Or.inl ⟨by rfl, by intro w hSw; go_simp⟩) (by assumption) ?_
      simp only [Act.put, List.setIfInBounds_toArray, List.set_cons_zero, List.set_cons_succ]
      refine wpAnyH_take (i := 6) (oi := { dst := some 19, op := Op.load 23 (Operand.tmp 18), type := 23, pos := "law.go:83", after := #[{ on := 5, ground := Ground.data }], guard := none }) (v := .agg ((d).map (Value.int .u32)).toArray) rfl (by kernel_rfl) (by kernel_rfl) (by kernel_rfl) (fun _ _ _ h => h) (yieldsIf_load_mid (by rfl) _ _ rfl _ _ rfl _ _ (fun w hSw => (by have := quo8 (cel_range (blk_cel hSw.choose_spec.b3)) hm; rwa [Nat.zero_add] at this)) Tryd.underlying23 rfl (by rw [List.length_map, hd]; exact size26)) (by assumption) ?_
      simp only [Act.put, List.setIfInBounds_toArray, List.set_cons_zero, List.set_cons_succ]
      refine wpAnyH_ready (rs := [2]) (by kernel_rfl) (by simp) (AllReadyH.cons (o := { dst := some 15, op := Op.call { callee := Callee.value (Operand.func 24), args := #[Operand.tmp 14], argTypes := #[23] }, type := 23, pos := "law.go:83", after := #[{ on := 1, ground := Ground.data }], guard := none }) rfl (fun KQ hK => ?_) AllReadyH.nil)
      go_simp
      refine (HK1.out _ Y5.out.tr).mono ?_
      rintro e w6 ⟨rfl, h1⟩
      have Y6 := hid (Y5.out.on h1)
      clear h1 Y5
      go_wp2_with fail
      refine hK.out _ _ ⟨_, Y6.out⟩ (fun hHeld => ?_)
      clear hK KQ
      try simp only [Act.put, List.setIfInBounds_toArray, List.set_cons_zero, List.set_cons_succ]
      refine wpAnyH_ready (rs := [7]) (by kernel_rfl) (by simp) (AllReadyH.cons (o := { dst := some 20, op := Op.call { callee := Callee.value (Operand.func 25), args := #[Operand.tmp 15, Operand.tmp 17, Operand.tmp 19], argTypes := #[23, 23, 23] }, type := 23, pos := "law.go:83", after := #[{ on := 2, ground := Ground.data }, { on := 4, ground := Ground.data }, { on := 6, ground := Ground.data }, { on := 2, ground := Ground.chain }], guard := none }) rfl (fun KQ hK => ?_) AllReadyH.nil)
      go_simp
      refine (HD.out _ Y6.out.tr).mono ?_
      rintro e w7 ⟨rfl, h1⟩
      have Y7 := hid (Y6.out.on h1)
      clear h1 Y6
      go_wp2_with fail
      refine hK.out _ _ ⟨_, Y7.out⟩ (fun hHeld => ?_)
      clear hK KQ
      try simp only [Act.put, List.setIfInBounds_toArray, List.set_cons_zero, List.set_cons_succ]
      refine wpAnyH_take (i := 8) (oi := { dst := some 21, op := Op.fieldAddr 38 (Operand.tmp 3) 2, type := 0, pos := "law.go:83", after := #[{ on := 0, ground := Ground.phase }, { on := 1, ground := Ground.phase }, { on := 2, ground := Ground.phase }, { on := 3, ground := Ground.phase }, { on := 4, ground := Ground.phase }, { on := 5, ground := Ground.phase }, { on := 6, ground := Ground.phase }, { on := 7, ground := Ground.phase }], guard := none }) (v := .pointer (some ⟨W.heap.size + 1 + 1, 16, none⟩)) rfl (by kernel_rfl) (by kernel_rfl) (by kernel_rfl) (fun _ _ _ h => h) (Or.inl ⟨by rfl, by intro w hSw; go_simp⟩) (by assumption) ?_
      simp only [Act.put, List.setIfInBounds_toArray, List.set_cons_zero, List.set_cons_succ]
      refine wpAnyH_ready (rs := [9]) (by kernel_rfl) (by simp) (AllReadyH.cons (o := { dst := none, op := Op.store 23 (Operand.tmp 21) (Operand.tmp 20), type := 0, pos := "law.go:83", after := #[{ on := 8, ground := Ground.data }, { on := 7, ground := Ground.data }, { on := 7, ground := Ground.chain }, { on := 0, ground := Ground.phase }, { on := 1, ground := Ground.phase }, { on := 2, ground := Ground.phase }, { on := 3, ground := Ground.phase }, { on := 4, ground := Ground.phase }, { on := 5, ground := Ground.phase }, { on := 6, ground := Ground.phase }, { on := 7, ground := Ground.phase }], guard := none }) rfl (fun KQ hK => ?_) AllReadyH.nil)
      rw [if_pos (by rfl)]
      refine wp_store_pt 23 _ _ rfl (W.heap.size + 1 + 1) 16 M rfl rfl (blk_cel Y7.out.b3) (by rw [hMl]; exact size26) (by rw [List.length_map, hMl, quoL_length hm hd ht]; decide) ?_
      intro w8 hc8 hb8 hs8
      have Y8 : Hid (FT W s o (quoL m d t) true false Z24 m d M w8) := hid (Y7.out.but HTW.out hb8 m d M (by rw [sp16 hm hd ht hMl] at hc8; exact hc8))
      clear hc8 hb8 hs8
      refine hK.out _ _ ⟨_, Y8.out⟩ (fun hHeld => ?_)
      clear hK KQ
      try simp only [Act.put]
      refine wpAnyH_done (by kernel_rfl) ?_ _
      go_upto_region 6 with fail
      go_wp2_with (first | (refine wpList_load_mid rfl 38 _ rfl (W.heap.size + 1 + 1) 0 rfl _ _ (cel_range (blk_cel Y8.out.b3)) Tryd.underlying38 rfl (by rw [List.length_map, hQ2]; exact size38) ?_) | (refine wpList_store_blk rfl 38 _ _ rfl (W.heap.size + 1) (quoL m d M) rfl rfl Y8.out.b2 (by rw [hQ2]; exact size38) (by rw [hYl, hQ2]) ?_))
      refine ret_q1 rfl rfl (W.heap.size + 1) ((quoL m d M).map (Value.int .u32)) rfl (blk_cel (Y8.out.b2.setRow _)) Tryd.underlying38 rfl (by rw [List.length_map, hQ2]; exact size38) ⟨by rw [← HM.out, ← HKs.out], below_setRow Y8.out.bl (by omega) _⟩
  · have hc := (HQ.out _ Y2.out).2
    go_upto_region 4 with (first | (refine wpList_load_mid rfl 23 _ rfl W.heap.size 8 rfl _ _ (cla8 Y2.out.c hs) Tryd.underlying23 rfl (by rw [List.length_map, ho]; exact size26) ?_) | (refine wpList_store_part rfl 23 _ _ rfl (W.heap.size + 1 + 1) 8 o rfl rfl (blk_cel Y2.out.b3) (by rw [ho]; exact size26) (by rw [List.length_map, ho, quoL_length hm hd ht]; decide) ?_; intro w4 hc4 hb4 hs4; have Y4 : Hid (FT W s o (quoL m d t) ri true Z24 m o t w4) := hid (Y2.out.but HTW.out hb4 m o t (by rw [sp8 hm hd ho] at hc4; exact hc4)); clear hc4 hb4 hs4))
    clear hc Y2
    have hcr : ∀ w, FT W s o (quoL m d t) ri true Z24 m o t w → w.cell? ⟨W.heap.size, 40, none⟩ = some (.bool ri) := fun w h => (cla40 h.c hs ho (quoL_length hm hd ht)).1
    have HCR := hid hcr
    clear hcr HQ
    have HD : Hid (∀ w, TR w → Calls Tryd.prog 25 #[.agg ((keyOf s).map (Value.int .u32)).toArray, .agg (m.map (Value.int .u32)).toArray, .agg (o.map (Value.int .u32)).toArray] w fun e W' => e = .returned (.agg ((tagOf (keyOf s) m o).map (Value.int .u32)).toArray) ∧ Below w.heap.size w W') := hid fun w h => HK2.out w h o ho wo
    clear HK2
    have hMl := tagOf_length (keyOf s) m o
    have HR := hid (show ∀ b : Bool, (if b then tagOf (keyOf s) m o else t) = (if b then tagOf (keyOf s) m o else t) from fun _ => rfl)
    cases ri
    · have hc := HCR.out _ Y4.out
      go_upto_region 6 with fail
      clear hc
      have hQ2 := quoL_length hm ho ht
      go_wp2_with (first | (refine wpList_load_mid rfl 38 _ rfl (W.heap.size + 1 + 1) 0 rfl _ _ (cel_range (blk_cel Y4.out.b3)) Tryd.underlying38 rfl (by rw [List.length_map, hQ2]; exact size38) ?_) | (refine wpList_store_blk rfl 38 _ _ rfl (W.heap.size + 1) (quoL m o t) rfl rfl Y4.out.b2 (by rw [hQ2]; exact size38) (by rw [hYl, hQ2]) ?_))
      refine ret_q1 rfl rfl (W.heap.size + 1) ((quoL m o t).map (Value.int .u32)) rfl (blk_cel (Y4.out.b2.setRow _)) Tryd.underlying38 rfl (by rw [List.length_map, hQ2]; exact size38) ⟨rfl, below_setRow Y4.out.bl (by omega) _⟩
    · have hc := HCR.out _ Y4.out
      go_upto_region 5 with fail
      clear hc
      have hQ2 := quoL_length hm ho hMl
      generalize hM : tagOf (keyOf s) m o = M at *
      generalize hKs : keyOf s = K at *
      have HM := hid hM
      have HKs := hid hKs
      clear hM hKs
      have Y5 : Hid (FT W s o (quoL m d t) true true Z24 m o t (w4).drew) := hid (Y4.out.on (Below.refl _ _).drew)
      clear Y4
      refine wp_region_held_drew (S := fun w => ∃ t2, FT W s o (quoL m d t) true true Z24 m o t2 w) (by kernel_rfl) ⟨_, Y5.out⟩ (fun hHeld => ?_)
      generalize World.drew _ = w5 at *
      refine wpAnyH_take (i := 0) (oi := { dst := some 13, op := Op.fieldAddr 40 (Operand.tmp 1) 0, type := 0, pos := "law.go:83", after := #[], guard := none }) (v := .pointer (some ⟨W.heap.size, 0, none⟩)) rfl (by kernel_rfl) (by kernel_rfl) (by kernel_rfl) (fun _ _ _ h => h) (Or.inl ⟨by rfl, by intro w hSw; go_simp⟩) (by assumption) ?_
      simp only [Act.put, List.setIfInBounds_toArray, List.set_cons_zero, List.set_cons_succ]
      refine wpAnyH_take (i := 1) (oi := { dst := some 14, op := Op.load 23 (Operand.tmp 13), type := 23, pos := "law.go:83", after := #[{ on := 0, ground := Ground.data }], guard := none }) (v := .agg ((s).map (Value.int .u32)).toArray) rfl (by kernel_rfl) (by kernel_rfl) (by kernel_rfl) (fun _ _ _ h => h) (yieldsIf_load_mid (by rfl) _ _ rfl _ _ rfl _ _ (fun w hSw => cla0 hSw.choose_spec.c) Tryd.underlying23 rfl (by rw [List.length_map, hs]; exact size26)) (by assumption) ?_
      simp only [Act.put, List.setIfInBounds_toArray, List.set_cons_zero, List.set_cons_succ]
      refine wpAnyH_take (i := 3) (oi := { dst := some 16, op := Op.fieldAddr 38 (Operand.tmp 3) 0, type := 0, pos := "law.go:83", after := #[], guard := none }) (v := .pointer (some ⟨W.heap.size + 1 + 1, 0, none⟩)) rfl (by kernel_rfl) (by kernel_rfl) (by kernel_rfl) (fun _ _ _ h => h) (Or.inl ⟨by rfl, by intro w hSw; go_simp⟩) (by assumption) ?_
      simp only [Act.put, List.setIfInBounds_toArray, List.set_cons_zero, List.set_cons_succ]
      refine wpAnyH_take (i := 4) (oi := { dst := some 17, op := Op.load 23 (Operand.tmp 16), type := 23, pos := "law.go:83", after := #[{ on := 3, ground := Ground.data }], guard := none }) (v := .agg ((m).map (Value.int .u32)).toArray) rfl (by kernel_rfl) (by kernel_rfl) (by kernel_rfl) (fun _ _ _ h => h) (yieldsIf_load_mid (by rfl) _ _ rfl _ _ rfl _ _ (fun w hSw => quo0 (cel_range (blk_cel hSw.choose_spec.b3))) Tryd.underlying23 rfl (by rw [List.length_map, hm]; exact size26)) (by assumption) ?_
      simp only [Act.put, List.setIfInBounds_toArray, List.set_cons_zero, List.set_cons_succ]
      refine wpAnyH_take (i := 5) (oi := { dst := some 18, op := Op.fieldAddr 38 (Operand.tmp 3) 1, type := 0, pos := "law.go:83", after := #[], guard := none }) (v := .pointer (some ⟨W.heap.size + 1 + 1, 8, none⟩)) rfl (by kernel_rfl) (by kernel_rfl) (by kernel_rfl) (fun _ _ _ h => h) (Or.inl ⟨by rfl, by intro w hSw; go_simp⟩) (by assumption) ?_
      simp only [Act.put, List.setIfInBounds_toArray, List.set_cons_zero, List.set_cons_succ]
      refine wpAnyH_take (i := 6) (oi := { dst := some 19, op := Op.load 23 (Operand.tmp 18), type := 23, pos := "law.go:83", after := #[{ on := 5, ground := Ground.data }], guard := none }) (v := .agg ((o).map (Value.int .u32)).toArray) rfl (by kernel_rfl) (by kernel_rfl) (by kernel_rfl) (fun _ _ _ h => h) (yieldsIf_load_mid (by rfl) _ _ rfl _ _ rfl _ _ (fun w hSw => (by have := quo8 (cel_range (blk_cel hSw.choose_spec.b3)) hm; rwa [Nat.zero_add] at this)) Tryd.underlying23 rfl (by rw [List.length_map, ho]; exact size26)) (by assumption) ?_
      simp only [Act.put, List.setIfInBounds_toArray, List.set_cons_zero, List.set_cons_succ]
      refine wpAnyH_ready (rs := [2]) (by kernel_rfl) (by simp) (AllReadyH.cons (o := { dst := some 15, op := Op.call { callee := Callee.value (Operand.func 24), args := #[Operand.tmp 14], argTypes := #[23] }, type := 23, pos := "law.go:83", after := #[{ on := 1, ground := Ground.data }], guard := none }) rfl (fun KQ hK => ?_) AllReadyH.nil)
      go_simp
      refine (HK1.out _ Y5.out.tr).mono ?_
      rintro e w6 ⟨rfl, h1⟩
      have Y6 := hid (Y5.out.on h1)
      clear h1 Y5
      go_wp2_with fail
      refine hK.out _ _ ⟨_, Y6.out⟩ (fun hHeld => ?_)
      clear hK KQ
      try simp only [Act.put, List.setIfInBounds_toArray, List.set_cons_zero, List.set_cons_succ]
      refine wpAnyH_ready (rs := [7]) (by kernel_rfl) (by simp) (AllReadyH.cons (o := { dst := some 20, op := Op.call { callee := Callee.value (Operand.func 25), args := #[Operand.tmp 15, Operand.tmp 17, Operand.tmp 19], argTypes := #[23, 23, 23] }, type := 23, pos := "law.go:83", after := #[{ on := 2, ground := Ground.data }, { on := 4, ground := Ground.data }, { on := 6, ground := Ground.data }, { on := 2, ground := Ground.chain }], guard := none }) rfl (fun KQ hK => ?_) AllReadyH.nil)
      go_simp
      refine (HD.out _ Y6.out.tr).mono ?_
      rintro e w7 ⟨rfl, h1⟩
      have Y7 := hid (Y6.out.on h1)
      clear h1 Y6
      go_wp2_with fail
      refine hK.out _ _ ⟨_, Y7.out⟩ (fun hHeld => ?_)
      clear hK KQ
      try simp only [Act.put, List.setIfInBounds_toArray, List.set_cons_zero, List.set_cons_succ]
      refine wpAnyH_take (i := 8) (oi := { dst := some 21, op := Op.fieldAddr 38 (Operand.tmp 3) 2, type := 0, pos := "law.go:83", after := #[{ on := 0, ground := Ground.phase }, { on := 1, ground := Ground.phase }, { on := 2, ground := Ground.phase }, { on := 3, ground := Ground.phase }, { on := 4, ground := Ground.phase }, { on := 5, ground := Ground.phase }, { on := 6, ground := Ground.phase }, { on := 7, ground := Ground.phase }], guard := none }) (v := .pointer (some ⟨W.heap.size + 1 + 1, 16, none⟩)) rfl (by kernel_rfl) (by kernel_rfl) (by kernel_rfl) (fun _ _ _ h => h) (Or.inl ⟨by rfl, by intro w hSw; go_simp⟩) (by assumption) ?_
      simp only [Act.put, List.setIfInBounds_toArray, List.set_cons_zero, List.set_cons_succ]
      refine wpAnyH_ready (rs := [9]) (by kernel_rfl) (by simp) (AllReadyH.cons (o := { dst := none, op := Op.store 23 (Operand.tmp 21) (Operand.tmp 20), type := 0, pos := "law.go:83", after := #[{ on := 8, ground := Ground.data }, { on := 7, ground := Ground.data }, { on := 7, ground := Ground.chain }, { on := 0, ground := Ground.phase }, { on := 1, ground := Ground.phase }, { on := 2, ground := Ground.phase }, { on := 3, ground := Ground.phase }, { on := 4, ground := Ground.phase }, { on := 5, ground := Ground.phase }, { on := 6, ground := Ground.phase }, { on := 7, ground := Ground.phase }], guard := none }) rfl (fun KQ hK => ?_) AllReadyH.nil)
      rw [if_pos (by rfl)]
      refine wp_store_pt 23 _ _ rfl (W.heap.size + 1 + 1) 16 M rfl rfl (blk_cel Y7.out.b3) (by rw [hMl]; exact size26) (by rw [List.length_map, hMl, quoL_length hm ho ht]; decide) ?_
      intro w8 hc8 hb8 hs8
      have Y8 : Hid (FT W s o (quoL m d t) true true Z24 m o M w8) := hid (Y7.out.but HTW.out hb8 m o M (by rw [sp16 hm ho ht hMl] at hc8; exact hc8))
      clear hc8 hb8 hs8
      refine hK.out _ _ ⟨_, Y8.out⟩ (fun hHeld => ?_)
      clear hK KQ
      try simp only [Act.put]
      refine wpAnyH_done (by kernel_rfl) ?_ _
      go_upto_region 6 with fail
      go_wp2_with (first | (refine wpList_load_mid rfl 38 _ rfl (W.heap.size + 1 + 1) 0 rfl _ _ (cel_range (blk_cel Y8.out.b3)) Tryd.underlying38 rfl (by rw [List.length_map, hQ2]; exact size38) ?_) | (refine wpList_store_blk rfl 38 _ _ rfl (W.heap.size + 1) (quoL m o M) rfl rfl Y8.out.b2 (by rw [hQ2]; exact size38) (by rw [hYl, hQ2]) ?_))
      refine ret_q1 rfl rfl (W.heap.size + 1) ((quoL m o M).map (Value.int .u32)) rfl (blk_cel (Y8.out.b2.setRow _)) Tryd.underlying38 rfl (by rw [List.length_map, hQ2]; exact size38) ⟨by rw [← HM.out, ← HKs.out], below_setRow Y8.out.bl (by omega) _⟩
end Go.Proofs.YtbpdmkohihgnjaaDoor
