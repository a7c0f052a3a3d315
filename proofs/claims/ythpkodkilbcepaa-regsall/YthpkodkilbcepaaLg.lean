/- regs: Pack (14). -/
import Derived.Test.YthpkodkilbcepaaLf
import Derived.Laws.CopyOwn
namespace Go.Proofs.Ythpkodkilbcepaa
open Go.RowKit
set_option maxHeartbeats 1000000
attribute [-simp] Try.isAgg27 Try.sizeOf27 Try.isAgg25 Try.sizeOf25 Try.isAgg23 Try.isAgg46 Try.sizeOf46
theorem under45 : Try.prog.underlying 45 = some (.slice 22) := by kernel_rfl
def zs17 : List Value := List.replicate 17 (.int .u32 0)
theorem zc17 : (#[.int .u32 0, .int .u32 0, .int .u32 0, .int .u32 0, .int .u32 0, .int .u32 0, .int .u32 0, .int .u32 0, .int .u32 0, .int .u32 0, .int .u32 0, .int .u32 0, .int .u32 0, .int .u32 0, .int .u32 0, .int .u32 0, .int .u32 0] : Array Value) = zs17.toArray := by kernel_rfl
def pk (r : Nat → Int) (p q : Int) : List Value := rs r ++ [.int .u32 p, .int .u32 q]
theorem pk_len (r : Nat → Int) (p q : Int) : (pk r p q).length = 17 := by simp [pk, rs_len]
theorem pk_all (r : Nat → Int) (p q : Int) : (pk r p q).all (·.oneCell') = true := by
  rw [pk, List.all_append, rs_all]; rfl
theorem built_pk (p q : Int) : Try.prog.built 46 [(15, .int .u32 p), (16, .int .u32 q)] = some (pk (fun _ => 0) p q).toArray := by kernel_rfl
theorem exec_build46 {a : Act} {w : World} {o : Oper} (x y : Operand) (ho : o.op = .build 46 #[(15, x), (16, y)]) (p q : Int) (hx : a.eval x = .int .u32 p) (hy : a.eval y = .int .u32 q) :
    (execOp a.eval o).run Try.prog w = .ok (.value (.agg (pk (fun _ => 0) p q).toArray)) w := by
  unfold execOp
  have hp : (#[(15, x), (16, y)] : Array (Nat × Operand)).map (fun x => (x.1, a.eval x.2)) = #[(15, .int .u32 p), (16, .int .u32 q)] := by simp only [List.map_toArray, List.map_cons, List.map_nil, hx, hy]
  simp only [ho, Sem.run_bind, Sem.run_pure, hp, run_build w 46 _ _ (built_pk p q), Result.andThen_ok]
theorem wp_store_st {P : Program} {op : Oper} {a : Act} {w : World} {K : Act → World → Prop} {Q : Exit → Act → World → Prop} (ty : TypeId) (x y : Operand) (ho : op.op = .store ty x y)
    (g : Nat) (vs : List Value) (hx : a.eval x = .pointer (some ⟨g, 0, none⟩)) (hy : a.eval y = .agg vs.toArray) {e : TypeId} {cs : List Value} (hg : Cel w g e cs) (hi : (P.info? ty).map (·.size) = some vs.length) (hl : cs.length = vs.length) (h1 : vs.all (·.oneCell') = true)
    (h : K (a.put op.dst undef) (w.setRow g vs.toArray)) : op.wp P a w K Q := by
  have hs : (Instr.storeAt ty (.pointer (some ⟨g, 0, none⟩)) (.agg vs.toArray)).run P w = .ok () (w.setRow g vs.toArray) := by
    simp only [Instr.storeAt, Instr.sureAddr, Sem.run_bind, Sem.run_pure, Result.andThen]
    exact run_storeVar_row w g e ty _ _ hg (by rw [hi]; simp) (by simp [hl]) (by simpa using h1)
  unfold Oper.wp execOp
  simp only [ho, hx, hy, Sem.run_bind, Sem.run_pure, hs, Result.andThen_ok]
  exact h
theorem wp_copy_row {P : Program} {o : Oper} {a : Act} {w : World} {K : Act → World → Prop} {Q : Exit → Act → World → Prop} (d s : Operand) (dT sT : TypeId)
    (ho : o.op = .call { callee := .builtin .copy, args := #[d, s], argTypes := #[dT, sT] }) (elem : TypeId) (hu : P.underlying dT = some (.slice elem)) (hsz : (P.info? elem).map (·.size) = some 1)
    (g off dLen dCap : Nat) (ad : Addr) (sLen sCap : Nat) (hd : a.eval d = .slice (some ⟨g, off, none⟩) dLen dCap) (hs : a.eval s = .slice (some ad) sLen sCap)
    (cur : Array Value) (t : TypeId) (hg : w.heap[g]? = some (.cells cur t (0, 0))) (cs : List Value) (hn : cs.length = Nat.min sLen dLen)
    (hsrc : ∀ j v, cs[j]? = some v → w.cell? (ad.add j) = some v) (hfit : off + cs.length ≤ cur.size) (h1 : ∀ v ∈ cs, v.oneCell' = true)
    (h : K (a.put o.dst (goInt cs.length)) (w.setRow g (cur.toList.take off ++ (cs ++ cur.toList.drop (off + cs.length))).toArray)) : o.wp P a w K Q := by
  have hrun := run_copy_row (P := P) w dT sT o.type elem g off dLen dCap ad sLen sCap cur t cs hu hsz hg hn hsrc hfit h1
  unfold Oper.wp
  simp [execOp, ho, resolve, invoke, builtin, hd, hs, hrun, Result.andThen]
  exact h
structure Pq (W X : World) (f : F) : Prop where
  box : Cel X W.heap.size 27 f.cs
  res : Cel X (W.heap.size + 1) 46 zs17
  below : Below W.heap.size W X
theorem pq (W : World) (f : F) : Pq W ((W.alloc (.cells f.cs.toArray 27)).alloc (.cells #[.int .u32 0, .int .u32 0, .int .u32 0, .int .u32 0, .int .u32 0, .int .u32 0, .int .u32 0, .int .u32 0, .int .u32 0, .int .u32 0, .int .u32 0, .int .u32 0, .int .u32 0, .int .u32 0, .int .u32 0, .int .u32 0, .int .u32 0] 46)) f := by
  rw [zc17]
  have c1 := Cel.new (W.alloc (.cells f.cs.toArray 27)) 46 zs17
  rw [show (W.alloc (Obj.cells f.cs.toArray 27)).heap.size = W.heap.size + 1 by show (W.heap.push _).size = _; simp] at c1
  exact ⟨(Cel.new W 27 f.cs).on (below_one _ _), c1, below_two _ _ _⟩
theorem Pq.on {W X Y : World} {f : F} (h : Pq W X f) (hb : Below X.heap.size X Y) : Pq W Y f := ⟨h.box.on hb, h.res.on hb, below_on h.below hb⟩
theorem Pq.gt {W X : World} {f : F} (h : Pq W X f) : W.heap.size + 2 ≤ X.heap.size := h.res.lt
theorem Pq.but {W X Y : World} {f : F} {g : Nat} (h : Pq W X f) (hg : W.heap.size + 2 ≤ g) (hb : ButL [g] X Y) : Pq W Y f :=
  ⟨h.box.but hb (by rw [List.mem_singleton]; omega), h.res.but hb (by rw [List.mem_singleton]; omega), h.below.trans (hb.below (by simp; omega) h.below.size)⟩
theorem Pq.ret {W X w' : World} {f : F} {vs : List Value} (h : Pq W X f) (hc : Cel w' (W.heap.size + 1) 46 vs) (hb : ButL [W.heap.size + 1] X w') : Cel w' (W.heap.size + 1) 46 vs ∧ Below W.heap.size W w' :=
  ⟨hc, h.below.trans (hb.below (by simp) h.below.size)⟩
theorem cel_src {w : World} {g : Nat} {t : TypeId} {f : F} (h : Cel w g t f.cs) : ∀ j v, (rs f.r)[j]? = some v → w.cell? ((⟨g, 0, none⟩ : Addr).add j) = some v := fun j v hv => by
  have := F.rng h j v hv
  rw [Addr.add_mid]
  exact this
theorem pack_any (W : World) (f : F) : Calls Try.prog 14 #[f.v] W fun e W' => e = .returned (.agg (pk f.r f.pc f.flags).toArray) ∧ Below W.heap.size W W' := by
  have HP0 := hid (pq W f)
  unfold F.v
  generalize hc : f.cs.toArray = C at *
  clear hc
  go_enter Try.func14, Try.ntmps14
  go_upto_region 1 with fail
  generalize hX : (W.alloc _).alloc _ = X at *
  clear hX
  have HP := hid (HP0.out.on (Below.refl _ _).drew)
  clear HP0
  refine wp_region_held_drew (S := fun x => Pq W x f) (by kernel_rfl) HP.out (fun hHeld => ?_)
  generalize hx0 : X.drew = x0 at *
  clear hx0
  refine wpAnyH_take (i := 0) (oi := { dst := some 4, op := Op.fieldAddr 27 (Operand.tmp 1) 1, type := 0, pos := "pack.go:16", after := #[], guard := none }) (v := .pointer (some ⟨W.heap.size, 15, none⟩)) rfl (by kernel_rfl) (by kernel_rfl) (by kernel_rfl) (fun _ _ _ h => h) (Or.inl ⟨by rfl, by intro w hSw; go_simp⟩) (by assumption) ?_
  simp only [Act.put, List.setIfInBounds_toArray, List.set_cons_zero, List.set_cons_succ]
  refine wpAnyH_take (i := 1) (oi := { dst := some 5, op := Op.load 22 (Operand.tmp 4), type := 22, pos := "pack.go:16", after := #[{ on := 0, ground := Ground.data }], guard := none }) (v := .int .u32 f.pc) rfl (by kernel_rfl) (by kernel_rfl) (by kernel_rfl) (fun _ _ _ h => h) (Or.inl ⟨by rfl, by intro w hSw; have y := (hSw.box.cell 15).trans f.at15; go_simp⟩) (by assumption) ?_
  simp only [Act.put, List.setIfInBounds_toArray, List.set_cons_zero, List.set_cons_succ]
  refine wpAnyH_take (i := 2) (oi := { dst := some 6, op := Op.load 27 (Operand.tmp 1), type := 27, pos := "pack.go:16", after := #[], guard := none }) (v := f.v) rfl (by kernel_rfl) (by kernel_rfl) (by kernel_rfl) (fun _ _ _ h => h) (yieldsIf_load_mid (by rfl) 27 _ rfl W.heap.size 0 rfl f.cs _ (fun w hSw => hSw.box.range) under27 rfl (by rw [size27, F.len])) (by assumption) ?_
  simp only [Act.put, List.setIfInBounds_toArray, List.set_cons_zero, List.set_cons_succ]
  refine wpAnyH_ready (rs := [3, 5]) (by kernel_rfl) (by simp) (AllReadyH.cons (o := { dst := some 7, op := Op.call { callee := Callee.value (Operand.func 17), args := #[Operand.tmp 6], argTypes := #[27] }, type := 22, pos := "pack.go:16", after := #[{ on := 2, ground := Ground.data }], guard := none }) rfl (fun KQ hK => ?_) (AllReadyH.cons (o := { dst := some 3, op := Op.alloc 46, type := 0, pos := "pack.go:16", after := #[], guard := none }) rfl (fun KQ hK => ?_) AllReadyH.nil))
  · go_simp
    refine (flags_any _ _).mono ?_
    rintro e w1 ⟨rfl, hb2⟩
    have HP3 := hid (HP.out.on hb2)
    clear hb2
    go_wp2_with fail
    refine hK.out _ _ HP3.out (fun hHeld => ?_)
    clear hK KQ
    try simp only [Act.put, List.setIfInBounds_toArray, List.set_cons_zero, List.set_cons_succ]
    refine wpAnyH_take (i := 4) (oi := { dst := some 8, op := Op.build 46 #[(15, Operand.tmp 5), (16, Operand.tmp 7)], type := 46, pos := "pack.go:16", after := #[{ on := 1, ground := Ground.data }, { on := 3, ground := Ground.data }], guard := none }) (v := .agg (pk (fun _ => 0) f.pc f.flags).toArray) rfl (by kernel_rfl) (by kernel_rfl) (by kernel_rfl) (fun _ _ _ h => h) (Or.inl ⟨by rfl, fun w hSw => exec_build46 _ _ rfl f.pc f.flags rfl rfl⟩) (by assumption) ?_
    simp only [Act.put, List.setIfInBounds_toArray, List.set_cons_zero, List.set_cons_succ]
    refine wpAnyH_ready (rs := [5]) (by kernel_rfl) (by simp) (AllReadyH.cons (o := { dst := some 3, op := Op.alloc 46, type := 0, pos := "pack.go:16", after := #[], guard := none }) rfl (fun KQ hK => ?_) AllReadyH.nil)
    go_simp
    have HT7 := hid HP3.out.gt
    have HP4 := hid (HP3.out.on (below_one w1 (.cells zs17.toArray 46)))
    have HG5 := hid (Cel.new w1 46 zs17)
    rw [← zc17] at HP4 HG5
    clear HP3
    generalize hy : w1.alloc _ = y6 at *
    clear hy
    generalize hg : w1.heap.size = gp at *
    clear hg
    refine hK.out _ _ HP4.out (fun hHeld => ?_)
    clear hK KQ
    try simp only [Act.put, List.setIfInBounds_toArray, List.set_cons_zero, List.set_cons_succ]
    refine wpAnyH_ready (rs := [6]) (by kernel_rfl) (by simp) (AllReadyH.cons (o := { dst := none, op := Op.store 46 (Operand.tmp 3) (Operand.tmp 8), type := 0, pos := "pack.go:16", after := #[{ on := 5, ground := Ground.data }, { on := 4, ground := Ground.data }, { on := 3, ground := Ground.chain }, { on := 0, ground := Ground.phase }, { on := 1, ground := Ground.phase }, { on := 2, ground := Ground.phase }, { on := 3, ground := Ground.phase }, { on := 4, ground := Ground.phase }, { on := 5, ground := Ground.phase }], guard := none }) rfl (fun KQ hK => ?_) AllReadyH.nil)
    rw [if_pos (by rfl)]
    refine wp_store_st 46 _ _ rfl gp (pk (fun _ => 0) f.pc f.flags) rfl rfl HG5.out (by rw [size46, pk_len]) (by rw [pk_len]; rfl) (pk_all _ _ _) ?_
    have HP8 := hid (HP4.out.but HT7.out (ButL.setRow y6 gp (pk (fun _ => 0) f.pc f.flags).toArray (by simp)))
    have HG9 := hid (HG5.out.set (pk (fun _ => 0) f.pc f.flags))
    clear HP4 HG5
    generalize hy : y6.setRow gp _ = y10 at *
    clear hy
    refine hK.out _ _ HP8.out (fun hHeld => ?_)
    clear hK KQ
    try simp only [Act.put]
    refine wpAnyH_done (by kernel_rfl) ?_ _
    go_wp2_with fail
    have HPE := hid (HP8.out.on (Below.refl _ _).drew)
    have HGE := hid (HG9.out.on (Below.refl _ _).drew)
    clear HP8 HG9
    refine wp_region_held_drew (S := fun x => Pq W x f) (by kernel_rfl) HPE.out (fun hHeld => ?_)
    refine wpAnyH_take (i := 0) (oi := { dst := some 9, op := Op.slice 46 (Operand.tmp 3) none none none, type := 45, pos := "pack.go:17", after := #[], guard := none }) (v := .slice (some ⟨gp, 0, none⟩) 17 17) rfl (by kernel_rfl) (by kernel_rfl) (by kernel_rfl) (fun _ _ _ h => h) (Or.inl ⟨by rfl, by intro w hSw; go_simp⟩) (by assumption) ?_
    simp only [Act.put, List.setIfInBounds_toArray, List.set_cons_zero, List.set_cons_succ]
    refine wpAnyH_take (i := 1) (oi := { dst := some 10, op := Op.fieldAddr 27 (Operand.tmp 1) 0, type := 0, pos := "pack.go:17", after := #[], guard := none }) (v := .pointer (some ⟨W.heap.size, 0, none⟩)) rfl (by kernel_rfl) (by kernel_rfl) (by kernel_rfl) (fun _ _ _ h => h) (Or.inl ⟨by rfl, by intro w hSw; go_simp⟩) (by assumption) ?_
    simp only [Act.put, List.setIfInBounds_toArray, List.set_cons_zero, List.set_cons_succ]
    refine wpAnyH_take (i := 2) (oi := { dst := some 11, op := Op.slice 23 (Operand.tmp 10) none none none, type := 45, pos := "pack.go:17", after := #[{ on := 1, ground := Ground.data }], guard := none }) (v := .slice (some ⟨W.heap.size, 0, none⟩) 15 15) rfl (by kernel_rfl) (by kernel_rfl) (by kernel_rfl) (fun _ _ _ h => h) (Or.inl ⟨by rfl, by intro w hSw; go_simp⟩) (by assumption) ?_
    simp only [Act.put, List.setIfInBounds_toArray, List.set_cons_zero, List.set_cons_succ]
    refine wpAnyH_ready (rs := [3]) (by kernel_rfl) (by simp) (AllReadyH.cons (o := { dst := some 12, op := Op.call { callee := Callee.builtin Builtin.copy, args := #[Operand.tmp 9, Operand.tmp 11], argTypes := #[45, 45] }, type := 3, pos := "pack.go:17", after := #[{ on := 0, ground := Ground.data }, { on := 2, ground := Ground.data }], guard := none }) rfl (fun KQ hK => ?_) AllReadyH.nil)
    rw [if_pos (by rfl)]
    refine wp_copy_row _ _ 45 45 rfl 22 under45 size22 gp 0 17 17 ⟨W.heap.size, 0, none⟩ 15 15 rfl rfl (pk (fun _ => 0) f.pc f.flags).toArray 46 HGE.out (rs f.r) (by rw [rs_len]; rfl) (cel_src HPE.out.box) (by rw [rs_len]; simp [pk_len]) (fun v hv => List.all_eq_true.1 (rs_all f.r) v hv) ?_
    have HPF := hid (HPE.out.but HT7.out (ButL.setRow y10.drew gp (pk f.r f.pc f.flags).toArray (by simp)))
    have HGF := hid (HGE.out.set (pk f.r f.pc f.flags))
    rw [show ((pk (fun _ => 0) f.pc f.flags).toArray.toList.take 0 ++ (rs f.r ++ (pk (fun _ => 0) f.pc f.flags).toArray.toList.drop (0 + (rs f.r).length))).toArray = (pk f.r f.pc f.flags).toArray by rw [rs_len]; simp [pk, rs_len]]
    clear HPE HGE
    generalize hy : y10.drew.setRow gp _ = yf at *
    clear hy
    refine hK.out _ _ HPF.out (fun hHeld => ?_)
    clear hK KQ
    try simp only [Act.put, List.setIfInBounds_toArray, List.set_cons_zero, List.set_cons_succ]
    refine wpAnyH_done (by kernel_rfl) ?_ _
    go_wp2_with (first | (refine wpList_load_mid rfl 46 _ rfl gp 0 rfl (pk f.r f.pc f.flags) _ HGF.out.range under46 rfl (by rw [size46, pk_len]) ?_) | (refine wpList_store_st rfl 46 _ _ rfl (W.heap.size + 1) (pk f.r f.pc f.flags) rfl rfl HPF.out.res (by rw [size46, pk_len]) (by rw [pk_len]; rfl) (pk_all _ _ _) ?_; intro w1 hc1 hb1 hs1; have HRR := hid (HPF.out.ret hc1 hb1); clear hc1 hb1 hs1))
    refine ret_st rfl rfl (W.heap.size + 1) _ rfl HRR.out.1 under46 rfl (by rw [size46]; simp [pk_len]) ⟨rfl, HRR.out.2⟩
  · go_simp
    have HT14 := hid HP.out.gt
    have HP11 := hid (HP.out.on (below_one x0 (.cells zs17.toArray 46)))
    have HG12 := hid (Cel.new x0 46 zs17)
    rw [← zc17] at HP11 HG12
    clear HP
    generalize hy : x0.alloc _ = y13 at *
    clear hy
    generalize hg : x0.heap.size = gp at *
    clear hg
    refine hK.out _ _ HP11.out (fun hHeld => ?_)
    clear hK KQ
    try simp only [Act.put, List.setIfInBounds_toArray, List.set_cons_zero, List.set_cons_succ]
    refine wpAnyH_ready (rs := [3]) (by kernel_rfl) (by simp) (AllReadyH.cons (o := { dst := some 7, op := Op.call { callee := Callee.value (Operand.func 17), args := #[Operand.tmp 6], argTypes := #[27] }, type := 22, pos := "pack.go:16", after := #[{ on := 2, ground := Ground.data }], guard := none }) rfl (fun KQ hK => ?_) AllReadyH.nil)
    go_simp
    refine (flags_any _ _).mono ?_
    rintro e w15 ⟨rfl, hb16⟩
    have HP17 := hid (HP11.out.on hb16)
    have HG18 := hid (HG12.out.on hb16)
    clear hb16
    go_wp2_with fail
    refine hK.out _ _ HP17.out (fun hHeld => ?_)
    clear hK KQ
    try simp only [Act.put, List.setIfInBounds_toArray, List.set_cons_zero, List.set_cons_succ]
    refine wpAnyH_take (i := 4) (oi := { dst := some 8, op := Op.build 46 #[(15, Operand.tmp 5), (16, Operand.tmp 7)], type := 46, pos := "pack.go:16", after := #[{ on := 1, ground := Ground.data }, { on := 3, ground := Ground.data }], guard := none }) (v := .agg (pk (fun _ => 0) f.pc f.flags).toArray) rfl (by kernel_rfl) (by kernel_rfl) (by kernel_rfl) (fun _ _ _ h => h) (Or.inl ⟨by rfl, fun w hSw => exec_build46 _ _ rfl f.pc f.flags rfl rfl⟩) (by assumption) ?_
    simp only [Act.put, List.setIfInBounds_toArray, List.set_cons_zero, List.set_cons_succ]
    refine wpAnyH_ready (rs := [6]) (by kernel_rfl) (by simp) (AllReadyH.cons (o := { dst := none, op := Op.store 46 (Operand.tmp 3) (Operand.tmp 8), type := 0, pos := "pack.go:16", after := #[{ on := 5, ground := Ground.data }, { on := 4, ground := Ground.data }, { on := 3, ground := Ground.chain }, { on := 0, ground := Ground.phase }, { on := 1, ground := Ground.phase }, { on := 2, ground := Ground.phase }, { on := 3, ground := Ground.phase }, { on := 4, ground := Ground.phase }, { on := 5, ground := Ground.phase }], guard := none }) rfl (fun KQ hK => ?_) AllReadyH.nil)
    rw [if_pos (by rfl)]
    refine wp_store_st 46 _ _ rfl gp (pk (fun _ => 0) f.pc f.flags) rfl rfl HG18.out (by rw [size46, pk_len]) (by rw [pk_len]; rfl) (pk_all _ _ _) ?_
    have HP19 := hid (HP17.out.but HT14.out (ButL.setRow w15 gp (pk (fun _ => 0) f.pc f.flags).toArray (by simp)))
    have HG20 := hid (HG18.out.set (pk (fun _ => 0) f.pc f.flags))
    clear HP17 HG18
    generalize hy : w15.setRow gp _ = y21 at *
    clear hy
    refine hK.out _ _ HP19.out (fun hHeld => ?_)
    clear hK KQ
    try simp only [Act.put]
    refine wpAnyH_done (by kernel_rfl) ?_ _
    go_wp2_with fail
    have HPE := hid (HP19.out.on (Below.refl _ _).drew)
    have HGE := hid (HG20.out.on (Below.refl _ _).drew)
    clear HP19 HG20
    refine wp_region_held_drew (S := fun x => Pq W x f) (by kernel_rfl) HPE.out (fun hHeld => ?_)
    refine wpAnyH_take (i := 0) (oi := { dst := some 9, op := Op.slice 46 (Operand.tmp 3) none none none, type := 45, pos := "pack.go:17", after := #[], guard := none }) (v := .slice (some ⟨gp, 0, none⟩) 17 17) rfl (by kernel_rfl) (by kernel_rfl) (by kernel_rfl) (fun _ _ _ h => h) (Or.inl ⟨by rfl, by intro w hSw; go_simp⟩) (by assumption) ?_
    simp only [Act.put, List.setIfInBounds_toArray, List.set_cons_zero, List.set_cons_succ]
    refine wpAnyH_take (i := 1) (oi := { dst := some 10, op := Op.fieldAddr 27 (Operand.tmp 1) 0, type := 0, pos := "pack.go:17", after := #[], guard := none }) (v := .pointer (some ⟨W.heap.size, 0, none⟩)) rfl (by kernel_rfl) (by kernel_rfl) (by kernel_rfl) (fun _ _ _ h => h) (Or.inl ⟨by rfl, by intro w hSw; go_simp⟩) (by assumption) ?_
    simp only [Act.put, List.setIfInBounds_toArray, List.set_cons_zero, List.set_cons_succ]
    refine wpAnyH_take (i := 2) (oi := { dst := some 11, op := Op.slice 23 (Operand.tmp 10) none none none, type := 45, pos := "pack.go:17", after := #[{ on := 1, ground := Ground.data }], guard := none }) (v := .slice (some ⟨W.heap.size, 0, none⟩) 15 15) rfl (by kernel_rfl) (by kernel_rfl) (by kernel_rfl) (fun _ _ _ h => h) (Or.inl ⟨by rfl, by intro w hSw; go_simp⟩) (by assumption) ?_
    simp only [Act.put, List.setIfInBounds_toArray, List.set_cons_zero, List.set_cons_succ]
    refine wpAnyH_ready (rs := [3]) (by kernel_rfl) (by simp) (AllReadyH.cons (o := { dst := some 12, op := Op.call { callee := Callee.builtin Builtin.copy, args := #[Operand.tmp 9, Operand.tmp 11], argTypes := #[45, 45] }, type := 3, pos := "pack.go:17", after := #[{ on := 0, ground := Ground.data }, { on := 2, ground := Ground.data }], guard := none }) rfl (fun KQ hK => ?_) AllReadyH.nil)
    rw [if_pos (by rfl)]
    refine wp_copy_row _ _ 45 45 rfl 22 under45 size22 gp 0 17 17 ⟨W.heap.size, 0, none⟩ 15 15 rfl rfl (pk (fun _ => 0) f.pc f.flags).toArray 46 HGE.out (rs f.r) (by rw [rs_len]; rfl) (cel_src HPE.out.box) (by rw [rs_len]; simp [pk_len]) (fun v hv => List.all_eq_true.1 (rs_all f.r) v hv) ?_
    have HPF := hid (HPE.out.but HT14.out (ButL.setRow y21.drew gp (pk f.r f.pc f.flags).toArray (by simp)))
    have HGF := hid (HGE.out.set (pk f.r f.pc f.flags))
    rw [show ((pk (fun _ => 0) f.pc f.flags).toArray.toList.take 0 ++ (rs f.r ++ (pk (fun _ => 0) f.pc f.flags).toArray.toList.drop (0 + (rs f.r).length))).toArray = (pk f.r f.pc f.flags).toArray by rw [rs_len]; simp [pk, rs_len]]
    clear HPE HGE
    generalize hy : y21.drew.setRow gp _ = yf at *
    clear hy
    refine hK.out _ _ HPF.out (fun hHeld => ?_)
    clear hK KQ
    try simp only [Act.put, List.setIfInBounds_toArray, List.set_cons_zero, List.set_cons_succ]
    refine wpAnyH_done (by kernel_rfl) ?_ _
    go_wp2_with (first | (refine wpList_load_mid rfl 46 _ rfl gp 0 rfl (pk f.r f.pc f.flags) _ HGF.out.range under46 rfl (by rw [size46, pk_len]) ?_) | (refine wpList_store_st rfl 46 _ _ rfl (W.heap.size + 1) (pk f.r f.pc f.flags) rfl rfl HPF.out.res (by rw [size46, pk_len]) (by rw [pk_len]; rfl) (pk_all _ _ _) ?_; intro w1 hc1 hb1 hs1; have HRR := hid (HPF.out.ret hc1 hb1); clear hc1 hb1 hs1))
    refine ret_st rfl rfl (W.heap.size + 1) _ rfl HRR.out.1 under46 rfl (by rw [size46]; simp [pk_len]) ⟨rfl, HRR.out.2⟩
end Go.Proofs.Ythpkodkilbcepaa
