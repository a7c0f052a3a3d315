import Derived.Test.YtncnogndopgknaaGreatDoorP25
import Derived.Test.YtncnogndopgknaaGreatDoorP01
import Derived.Test.YtncnogndopgknaaGreatDoorP21
import Derived.Lib.TrimByte
namespace Go.Proofs.YtncnogndopgknaaGreatDoor
open Go.RowKit
namespace S
def fin1 (base : Nat) (labs : List (List UInt8 × Nat)) (ws : List Nat) (t : Lt) : (Int × Nat × Nat) ⊕ List Nat :=
  match look labs (t.ops.getD t.at' ⟨0, [], 0⟩).lab with
  | none => .inl (64, t.line, (t.ops.getD t.at' ⟨0, [], 0⟩).col)
  | some g => match meaning base ((t.k.shape.map (·.toNat)).getD t.at' 0) g t.place with
    | none => .inl (65, t.line, (t.ops.getD t.at' ⟨0, [], 0⟩).col)
    | some v => .inr (over ws t.place (words t.k (t.ops.set t.at' { t.ops.getD t.at' ⟨0, [], 0⟩ with val := v })))
theorem fin_cons (base : Nat) (labs : List (List UInt8 × Nat)) (ws : List Nat) (t : Lt) (ts : List Lt) : fin base labs ws (t :: ts) = match fin1 base labs ws t with | .inl f => .inl f | .inr ws' => fin base labs ws' ts := by
  conv => lhs; unfold fin
  unfold fin1
  cases look labs (t.ops.getD t.at' ⟨0, [], 0⟩).lab with
  | none => rfl
  | some g =>
    simp only
    cases meaning base ((t.k.shape.map (·.toNat)).getD t.at' 0) g t.place <;> rfl
theorem meaning_lt {base l target place v : Nat} (h : meaning base l target place = some v) : v < 4294967296 := by
  unfold meaning at h
  split at h
  · split at h
    · cases h
    · cases h; unfold u32; omega
  · cases h; exact Nat.mod_lt _ (by decide)
theorem look_places {labs : List (List UInt8 × Nat)} {s : List UInt8} {p : Nat} (h : ∀ x ∈ labs, x.2 ≤ 2048) (hl : look labs s = some p) : p ≤ 2048 := by
  unfold look at hl
  cases hf : labs.find? fun x => x.1 == s with
  | none => rw [hf] at hl; cases hl
  | some x => rw [hf] at hl; cases hl; exact h x (List.mem_of_find?_eq_some hf)
end S
theorem wp_copy_row {P : Program} {o : Oper} {a : Act} {w : World} {K : Act → World → Prop} {Q : Exit → Act → World → Prop} (d s : Operand) (dT sT : TypeId)
    (ho : o.op = .call { callee := .builtin .copy, args := #[d, s], argTypes := #[dT, sT] }) (elem : TypeId) (hu : P.underlying dT = some (.slice elem)) (hsz : (P.info? elem).map (·.size) = some 1)
    (g off dLen dCap : Nat) (ad : Addr) (sLen sCap : Nat) (hd : a.eval d = .slice (some ⟨g, off, none⟩) dLen dCap) (hs : a.eval s = .slice (some ad) sLen sCap)
    (cur : Array Value) (t : TypeId) (hg : w.heap[g]? = some (.cells cur t (0, 0))) (cs : List Value) (hn : cs.length = Nat.min sLen dLen)
    (hsrc : ∀ j v, cs[j]? = some v → w.cell? (ad.add j) = some v) (hfit : off + cs.length ≤ cur.size) (h1 : ∀ v ∈ cs, v.oneCell' = true)
    (h : K (a.put o.dst (goInt cs.length)) (w.setRow g (cur.toList.take off ++ cs ++ cur.toList.drop (off + cs.length)).toArray)) : o.wp P a w K Q := by
  have hrun := run_copy_row (P := P) w dT sT o.type elem g off dLen dCap ad sLen sCap cur t cs hu hsz hg hn hsrc hfit h1
  unfold Oper.wp execOp
  simp only [ho, resolve, invoke, builtin, Sem.run_bind, Sem.run_pure, Result.andThen_ok, List.map_toArray, List.map_cons, List.map_nil, hd, hs, hrun]
  exact h
theorem size22 : (Tryz.prog.info? 22).map (·.size) = some 1 := by kernel_rfl
theorem PF.put2 {W w : World} {g gm base line i gW c : Nat} {ws : List Nat} {labs : List (List UInt8 × Nat)} {lat : List S.Lt} {fs : List Fc} {vl vf : Value} (h : PF W w g gm base line ws labs lat fs i (.slice (some ⟨gW, 0, none⟩) ws.length c) vl vf) (p : Nat) (hp : p < ws.length) (xs : List Nat) (cs : List Value) (hcs : cs = u32s (xs.take (ws.length - p))) :
    ∃ cur, w.heap[gW]? = some (.cells cur 22 (0, 0)) ∧ p + cs.length ≤ cur.size ∧ PF W (w.setRow gW (cur.toList.take p ++ cs ++ cur.toList.drop (p + cs.length)).toArray) g gm base line (S.over ws p xs) labs lat fs i (.slice (some ⟨gW, 0, none⟩) ws.length c) vl vf := by
  obtain ⟨gW', c', cur, hv, _, hW, hf, hP⟩ := h.put p hp xs cs hcs
  injection hv with h1 h2 h3
  injection h1 with h1
  injection h1 with h1
  subst h1
  exact ⟨cur, hW, hf, hP⟩
theorem u32s_one (l : List Nat) : ∀ v ∈ u32s l, v.oneCell' = true := by
  intro v hv
  obtain ⟨u, _, rfl⟩ := List.mem_map.1 hv
  rfl
theorem src_cells {w : World} {gS : Nat} {xs : List Nat} (h : Cel w gS 22 (u32s xs)) (n : Nat) : ∀ j v, (u32s (xs.take n))[j]? = some v → w.cell? ((⟨gS, 0, none⟩ : Addr).add j) = some v := by
  intro j v hv
  rw [Addr.add_mid, Nat.zero_add, h.cell j]
  rw [u32s_take] at hv
  rcases Nat.lt_or_ge j n with hj | hj
  · rw [List.getElem?_take_of_lt hj] at hv; exact hv
  · rw [List.getElem?_eq_none (by rw [List.length_take]; omega)] at hv; cases hv
theorem S.OsOk.set {k : S.Kd} {os : List S.Opn} (h : S.OsOk k os) (hk : k.name ≠ S.zeroN) (q : Nat) (o : S.Opn) (ho : o.val < 4294967296) : S.OsOk k (os.set q o) :=
  ⟨by rw [List.length_set]; exact h.len, fun x hx => (List.mem_or_eq_of_mem_set hx).elim (h.val x) (fun e => by rw [e]; exact ho), fun hz => absurd hz hk⟩
def FnPost (W : World) (g gm base line : Nat) (labs : List (List UInt8 × Nat)) (lat : List S.Lt) (fs : List Fc) (i : Nat) (vw vl vf : Value) (r : (Int × Nat × Nat) ⊕ List Nat) (x : Ending) (w' : World) : Prop :=
  match r with
  | .inl f => x = .returned (bk f.1 f.2.1 f.2.2) ∧ Below W.heap.size W w'
  | .inr ws' => x = .returned .nilIface ∧ PF W w' g gm base line ws' labs lat fs (i + 1) vw vl vf
set_option maxRecDepth 40000 in
set_option maxHeartbeats 4000000 in
theorem closure_any (W V : World) (hT : TM W) (g gm base line i : Nat) (hbase : base < 4294967296) (ws : List Nat) (labs : List (List UInt8 × Nat)) (lat : List S.Lt) (fs : List Fc) (vw vl vf : Value) (h : PF W V g gm base line ws labs lat fs i vw vl vf) (hi : i < lat.length) (hi' : i < fs.length) (hl : S.Lok ws.length lat[i]) (d : Fc) (hd : fs[i] = d) :
    Calls Tryz.prog 123 #[.pointer (some ⟨d.g7, 0, none⟩), .pointer (some ⟨d.g8, 0, none⟩), .pointer (some ⟨d.g5, 0, none⟩), .pointer (some ⟨d.g11, 0, none⟩), .pointer (some ⟨d.g6, 0, none⟩), .pointer (some ⟨d.g9, 0, none⟩)] V fun x w' => FnPost W g gm base line labs lat fs i vw vl vf (S.fin1 base labs ws lat[i]) x w' := by
  have hco := h.clos i (Nat.le_refl _) hi hi'
  rw [hd] at hco
  obtain ⟨t, ht⟩ : ∃ t, lat[i] = t := ⟨_, rfl⟩
  rw [ht] at hco hl ⊢
  clear ht
  obtain ⟨k, os, q, place, ln⟩ := t
  obtain ⟨c7, c8, c5, c11, c6, c9, hrow, hq, hk, hos, hpl⟩ := hco
  simp only at c7 c8 c5 c11 c6 c9 hrow hq hk hos hpl
  have hrow : RowAt V d.gO os := hrow
  obtain ⟨hlp, hlk, hll⟩ := hl
  simp only at hlp hlk hll
  have hgd : os.getD q ⟨0, [], 0⟩ = os[q] := by rw [List.getD_eq_getElem?_getD, List.getElem?_eq_getElem hq, Option.getD_some]
  simp only [hgd] at hll
  obtain ⟨g7, g8, g5, g11, g6, g9, gO, cp⟩ := d
  simp only at c7 c8 c5 c11 c6 c9 hrow ⊢
  have HV : Hid (PF W V g gm base line ws labs lat fs i vw vl vf ∧ Cel V g7 192 [.slice (some ⟨gO, 0, none⟩) os.length cp] ∧ Cel V g8 3 [.int .i64 (q : Int)] ∧ Cel V g5 68 [.pointer (some ⟨g, 0, none⟩)] ∧ Cel V g11 3 [.int .i64 (ln : Int)] ∧ Cel V g6 188 (kdC k) ∧ Cel V g9 3 [.int .i64 (place : Int)] ∧ RowAt V gO os) := hid ⟨h, c7, c8, c5, c11, c6, c9, hrow⟩
  have d7 : V.cell? ⟨g7, 0, none⟩ = some (.slice (some ⟨gO, 0, none⟩) os.length cp) := c7.cell 0
  have d8 : V.cell? ⟨g8, 0, none⟩ = some (.int .i64 (q : Int)) := c8.cell 0
  have r0 : V.cell? ⟨gO, q * 3, none⟩ = some (.int .u32 (os[q].val : Int)) := hrow.cell q 0 hq (by decide)
  have r1 : V.cell? ⟨gO, q * 3 + 1, none⟩ = some (.string ⟨os[q].lab.toArray⟩) := hrow.cell q 1 hq (by decide)
  have r2 : V.cell? ⟨gO, q * 3 + 2, none⟩ = some (.int .i64 (os[q].col : Int)) := hrow.cell q 2 hq (by decide)
  have HKO : Hid (S.KOk k ∧ S.OsOk k os ∧ k.name ≠ S.zeroN) := hid ⟨hk, hos, hlk⟩
  have HT : Hid (TM W) := hT
  have HD : Hid (fs[i].gO = gO) := hid (by rw [hd])
  obtain ⟨ov, hov⟩ : ∃ ov, os[q].val = ov := ⟨_, rfl⟩
  obtain ⟨lb, hlb⟩ : ∃ lb, os[q].lab = lb := ⟨_, rfl⟩
  obtain ⟨oc, hoc⟩ : ∃ oc, os[q].col = oc := ⟨_, rfl⟩
  have HOQ : Hid (os[q] = ⟨ov, lb, oc⟩) := hid (by rw [← hov, ← hlb, ← hoc])
  have HO : Hid (q < os.length) := hq
  have q3 : (q : Int) < (os.length : Int) := by omega
  have p1 : (place : Int) ≤ 2048 := by omega
  rw [hov] at r0
  rw [hlb] at r1 hll
  rw [hoc] at r2
  have hob : os[q]'hq = ⟨ov, lb, oc⟩ := HOQ.out
  obtain ⟨r, hr⟩ : ∃ r, S.fin1 base labs ws ⟨k, os, q, place, ln⟩ = r := ⟨_, rfl⟩
  have HR : Hid (r = match S.look labs lb with | none => .inl (64, ln, oc) | some tg => (match S.meaning base ((k.shape.map (·.toNat)).getD q 0) tg place with | none => .inl (65, ln, oc) | some v => .inr (S.over ws place (S.words k (os.set q ⟨v, lb, oc⟩))))) := hid (by rw [← hr]; unfold S.fin1; simp only [hgd, hob])
  rw [hr]
  clear h c7 c8 c5 c11 c6 c9 hrow hk hos hlk hT hd hgd hov hlb hoc hob hr
  go_enter Tryz.func123, Tryz.ntmps123
  go_wp2_with fail
  have HX0 : Hid (Below V.heap.size V (V.alloc (Obj.cells #[Value.int IntKind.u32 ↑ov, Value.string { data := lb.toArray }, Value.int IntKind.i64 ↑oc] 197)) ∧ Cel (V.alloc (Obj.cells #[Value.int IntKind.u32 ↑ov, Value.string { data := lb.toArray }, Value.int IntKind.i64 ↑oc] 197)) V.heap.size 197 [.int .u32 (ov : Int), .string ⟨lb.toArray⟩, .int .i64 (oc : Int)]) := hid ⟨below_one _ _, Cel.new _ _ _⟩
  generalize V.alloc (Obj.cells #[Value.int IntKind.u32 ↑ov, Value.string { data := lb.toArray }, Value.int IntKind.i64 ↑oc] 197) = X at *
  obtain ⟨gx, hgx⟩ : ∃ gx, V.heap.size = gx := ⟨_, rfl⟩
  have HXF : Hid (PF W X g gm base line ws labs lat fs i vw vl vf ∧ Cel X g7 192 [.slice (some ⟨gO, 0, none⟩) os.length cp] ∧ Cel X g8 3 [.int .i64 (q : Int)] ∧ Cel X g5 68 [.pointer (some ⟨g, 0, none⟩)] ∧ Cel X g11 3 [.int .i64 (ln : Int)] ∧ Cel X g6 188 (kdC k) ∧ Cel X g9 3 [.int .i64 (place : Int)] ∧ RowAt X gO os ∧ Cel X gx 197 [.int .u32 (ov : Int), .string ⟨lb.toArray⟩, .int .i64 (oc : Int)]) := hid (by
    have hb := HX0.out.1
    have hv := HV.out
    exact ⟨hv.1.on hb, hv.2.1.on hb, hv.2.2.1.on hb, hv.2.2.2.1.on hb, hv.2.2.2.2.1.on hb, hv.2.2.2.2.2.1.on hb, hv.2.2.2.2.2.2.1.on hb, hv.2.2.2.2.2.2.2.kt (.of_below hb), by rw [← hgx]; exact HX0.out.2⟩)
  rw [hgx]
  clear HX0 HV d7 d8 r0 r1 r2 hgx
  have HYF : Hid (PF W X.drew g gm base line ws labs lat fs i vw vl vf ∧ Cel X.drew g7 192 [.slice (some ⟨gO, 0, none⟩) os.length cp] ∧ Cel X.drew g8 3 [.int .i64 (q : Int)] ∧ Cel X.drew g5 68 [.pointer (some ⟨g, 0, none⟩)] ∧ Cel X.drew g11 3 [.int .i64 (ln : Int)] ∧ Cel X.drew g6 188 (kdC k) ∧ Cel X.drew g9 3 [.int .i64 (place : Int)] ∧ RowAt X.drew gO os ∧ Cel X.drew gx 197 [.int .u32 (ov : Int), .string ⟨lb.toArray⟩, .int .i64 (oc : Int)]) := hid (⟨HXF.out.1.on (Below.refl _ X).drew, HXF.out.2.1.on (Below.refl _ X).drew, HXF.out.2.2.1.on (Below.refl _ X).drew, HXF.out.2.2.2.1.on (Below.refl _ X).drew, HXF.out.2.2.2.2.1.on (Below.refl _ X).drew, HXF.out.2.2.2.2.2.1.on (Below.refl _ X).drew, HXF.out.2.2.2.2.2.2.1.on (Below.refl _ X).drew, HXF.out.2.2.2.2.2.2.2.1.kt (.of_below (Below.refl _ X).drew), HXF.out.2.2.2.2.2.2.2.2.on (Below.refl _ X).drew⟩)
  clear HXF
  have E5 : Hid (X.drew.cell? ⟨g5, 0, none⟩ = some (.pointer (some ⟨g, 0, none⟩))) := hid (HYF.out.2.2.2.1.cell 0)
  have E4 : Hid (X.drew.cell? ⟨g, 4, none⟩ = some (.map (some gm))) := hid (HYF.out.1.cel.cell 4)
  have EL : Hid (X.drew.cell? ⟨gx, 1, none⟩ = some (.string ⟨lb.toArray⟩)) := hid (HYF.out.2.2.2.2.2.2.2.2.cell 1)
  obtain ⟨tv, hlk, htv⟩ := HYF.out.1.map.look lb hll
  rw [S.look_has] at hlk
  cases hlo : S.look labs lb with
  | none =>
    rw [hlo] at hlk
    have HLK : Hid ((Instr.lookup 74 (.map (some gm)) (.string ⟨lb.toArray⟩) true).run Tryz.prog X.drew = .ok (.tuple #[.int .i64 tv, .bool false]) X.drew) := hlk
    have HR1 : Hid (r = .inl (64, ln, oc)) := hid (by rw [HR.out, hlo])
    clear hlk htv hlo HR
    refine wp_region_held_drew (S := fun x => x = X.drew) (by kernel_rfl) rfl (fun hHeld => ?_)
    generalize X.drew = Y at *
    refine tk 0 ⟨some 17, .load 68 (.tmp 2), 68, "program.go:131", #[], none⟩ (.pointer (some ⟨g, 0, none⟩)) ?_ (hy := Or.inl ⟨by rfl, by intro w hSw; subst hSw; have hcc := E5.out; go_simp⟩)
    simp only [Act.put, List.setIfInBounds_toArray, List.set_cons_zero, List.set_cons_succ]
    refine tk 1 ⟨some 18, .nilCheck (.tmp 17), 0, "program.go:131", #[⟨0, .data⟩], none⟩ (.pointer (some ⟨g, 0, none⟩)) ?_
    simp only [Act.put, List.setIfInBounds_toArray, List.set_cons_zero, List.set_cons_succ]
    refine tk 2 ⟨some 19, .fieldAddr 77 (.tmp 18) 4, 0, "program.go:131", #[⟨1, .data⟩], none⟩ (.pointer (some ⟨g, 4, none⟩)) ?_
    simp only [Act.put, List.setIfInBounds_toArray, List.set_cons_zero, List.set_cons_succ]
    refine tk 3 ⟨some 20, .load 74 (.tmp 19), 74, "program.go:131", #[⟨2, .data⟩], none⟩ (.map (some gm)) ?_ (hy := Or.inl ⟨by rfl, by intro w hSw; subst hSw; have hcc := E4.out; go_simp⟩)
    simp only [Act.put, List.setIfInBounds_toArray, List.set_cons_zero, List.set_cons_succ]
    refine tk 4 ⟨some 21, .fieldAddr 197 (.tmp 7) 1, 0, "program.go:131", #[], none⟩ (.pointer (some ⟨gx, 1, none⟩)) ?_
    simp only [Act.put, List.setIfInBounds_toArray, List.set_cons_zero, List.set_cons_succ]
    refine tk 5 ⟨some 22, .load 9 (.tmp 21), 9, "program.go:131", #[⟨4, .data⟩], none⟩ (.string ⟨lb.toArray⟩) ?_ (hy := Or.inl ⟨by rfl, by intro w hSw; subst hSw; have hcc := EL.out; go_simp⟩)
    simp only [Act.put, List.setIfInBounds_toArray, List.set_cons_zero, List.set_cons_succ]
    refine tk 6 ⟨some 23, .lookup 74 (.tmp 20) (.tmp 22) true, 133, "program.go:131", #[⟨3, .data⟩, ⟨5, .data⟩], none⟩ (.tuple #[.int .i64 tv, .bool false]) ?_ (hy := Or.inl ⟨by rfl, by intro w hSw; subst hSw; have hcc := HLK.out; go_simp⟩)
    simp only [Act.put, List.setIfInBounds_toArray, List.set_cons_zero, List.set_cons_succ]
    refine tk 7 ⟨some 16, .move (.tmp 23), 133, "program.go:131", #[⟨6, .data⟩], none⟩ (.tuple #[.int .i64 tv, .bool false]) ?_
    simp only [Act.put, List.setIfInBounds_toArray, List.set_cons_zero, List.set_cons_succ]
    refine tk 8 ⟨some 24, .extract (.tmp 16) 0, 3, "program.go:131", #[⟨7, .data⟩], none⟩ (.int .i64 tv) ?_
    simp only [Act.put, List.setIfInBounds_toArray, List.set_cons_zero, List.set_cons_succ]
    refine tk 9 ⟨some 25, .extract (.tmp 16) 1, 4, "program.go:131", #[⟨7, .data⟩, { on := 10, ground := .gcOnly Departure.lateStores }], none⟩ (.bool false) ?_
    simp only [Act.put, List.setIfInBounds_toArray, List.set_cons_zero, List.set_cons_succ]
    refine wpAnyH_ready (rs := [10]) (by kernel_rfl) (by simp) (AllReadyH.cons (o := ⟨some 8, .assign (.tmp 24), 3, "program.go:131", #[⟨8, .data⟩, ⟨0, .phase⟩, ⟨1, .phase⟩, ⟨2, .phase⟩, ⟨3, .phase⟩, ⟨4, .phase⟩, ⟨5, .phase⟩, ⟨6, .phase⟩, ⟨7, .phase⟩, ⟨8, .phase⟩, { on := 9, ground := .textOnly Departure.lateStores }], none⟩) rfl (fun KQ hK => ?_) AllReadyH.nil)
    go_simp
    refine hK.out _ _ rfl (fun hHeld => ?_)
    clear hK KQ
    try simp only [Act.put, List.setIfInBounds_toArray, List.set_cons_zero, List.set_cons_succ]
    refine wpAnyH_ready (rs := [11]) (by kernel_rfl) (by simp) (AllReadyH.cons (o := ⟨some 9, .assign (.tmp 25), 4, "program.go:131", #[⟨9, .data⟩, ⟨10, .chain⟩, ⟨0, .phase⟩, ⟨1, .phase⟩, ⟨2, .phase⟩, ⟨3, .phase⟩, ⟨4, .phase⟩, ⟨5, .phase⟩, ⟨6, .phase⟩, ⟨7, .phase⟩, ⟨8, .phase⟩, ⟨9, .phase⟩, ⟨10, .phase⟩], none⟩) rfl (fun KQ hK => ?_) AllReadyH.nil)
    go_simp
    refine hK.out _ _ rfl (fun hHeld => ?_)
    clear hK KQ
    try simp only [Act.put, List.setIfInBounds_toArray, List.set_cons_zero, List.set_cons_succ]
    refine wpAnyH_done (by kernel_rfl) ?_ _
    clear hHeld
    have e11 : Y.cell? ⟨g11, 0, none⟩ = some (.int .i64 (ln : Int)) := HYF.out.2.2.2.2.1.cell 0
    have ex2 : Y.cell? ⟨gx, 2, none⟩ = some (.int .i64 (oc : Int)) := HYF.out.2.2.2.2.2.2.2.2.cell 2
    go_wp2_with fail
    refine (faultAt_any _ 64 (ln : Int) (oc : Int)).mono ?_
    rintro e y1 ⟨rfl, rfl⟩
    go_wp2_with fail
    go_ret
    rw [HR1.out]
    exact ⟨rfl, HYF.out.1.below⟩
  | some tg =>
    rw [hlo] at hlk
    obtain rfl : tv = (tg : Int) := htv tg hlo
    have HLK : Hid ((Instr.lookup 74 (.map (some gm)) (.string ⟨lb.toArray⟩) true).run Tryz.prog X.drew = .ok (.tuple #[.int .i64 (tg : Int), .bool true]) X.drew) := hlk
    have htg : tg ≤ 2048 := S.look_places HYF.out.1.places hlo
    have tg1 : (tg : Int) ≤ 2048 := by omega
    have HR1 : Hid (r = (match S.meaning base ((k.shape.map (·.toNat)).getD q 0) tg place with | none => .inl (65, ln, oc) | some v => .inr (S.over ws place (S.words k (os.set q ⟨v, lb, oc⟩))))) := hid (by rw [HR.out, hlo])
    clear hlk htv hlo HR
    refine wp_region_held_drew (S := fun x => x = X.drew) (by kernel_rfl) rfl (fun hHeld => ?_)
    generalize X.drew = Y at *
    refine tk 0 ⟨some 17, .load 68 (.tmp 2), 68, "program.go:131", #[], none⟩ (.pointer (some ⟨g, 0, none⟩)) ?_ (hy := Or.inl ⟨by rfl, by intro w hSw; subst hSw; have hcc := E5.out; go_simp⟩)
    simp only [Act.put, List.setIfInBounds_toArray, List.set_cons_zero, List.set_cons_succ]
    refine tk 1 ⟨some 18, .nilCheck (.tmp 17), 0, "program.go:131", #[⟨0, .data⟩], none⟩ (.pointer (some ⟨g, 0, none⟩)) ?_
    simp only [Act.put, List.setIfInBounds_toArray, List.set_cons_zero, List.set_cons_succ]
    refine tk 2 ⟨some 19, .fieldAddr 77 (.tmp 18) 4, 0, "program.go:131", #[⟨1, .data⟩], none⟩ (.pointer (some ⟨g, 4, none⟩)) ?_
    simp only [Act.put, List.setIfInBounds_toArray, List.set_cons_zero, List.set_cons_succ]
    refine tk 3 ⟨some 20, .load 74 (.tmp 19), 74, "program.go:131", #[⟨2, .data⟩], none⟩ (.map (some gm)) ?_ (hy := Or.inl ⟨by rfl, by intro w hSw; subst hSw; have hcc := E4.out; go_simp⟩)
    simp only [Act.put, List.setIfInBounds_toArray, List.set_cons_zero, List.set_cons_succ]
    refine tk 4 ⟨some 21, .fieldAddr 197 (.tmp 7) 1, 0, "program.go:131", #[], none⟩ (.pointer (some ⟨gx, 1, none⟩)) ?_
    simp only [Act.put, List.setIfInBounds_toArray, List.set_cons_zero, List.set_cons_succ]
    refine tk 5 ⟨some 22, .load 9 (.tmp 21), 9, "program.go:131", #[⟨4, .data⟩], none⟩ (.string ⟨lb.toArray⟩) ?_ (hy := Or.inl ⟨by rfl, by intro w hSw; subst hSw; have hcc := EL.out; go_simp⟩)
    simp only [Act.put, List.setIfInBounds_toArray, List.set_cons_zero, List.set_cons_succ]
    refine tk 6 ⟨some 23, .lookup 74 (.tmp 20) (.tmp 22) true, 133, "program.go:131", #[⟨3, .data⟩, ⟨5, .data⟩], none⟩ (.tuple #[.int .i64 (tg : Int), .bool true]) ?_ (hy := Or.inl ⟨by rfl, by intro w hSw; subst hSw; have hcc := HLK.out; go_simp⟩)
    simp only [Act.put, List.setIfInBounds_toArray, List.set_cons_zero, List.set_cons_succ]
    refine tk 7 ⟨some 16, .move (.tmp 23), 133, "program.go:131", #[⟨6, .data⟩], none⟩ (.tuple #[.int .i64 (tg : Int), .bool true]) ?_
    simp only [Act.put, List.setIfInBounds_toArray, List.set_cons_zero, List.set_cons_succ]
    refine tk 8 ⟨some 24, .extract (.tmp 16) 0, 3, "program.go:131", #[⟨7, .data⟩], none⟩ (.int .i64 (tg : Int)) ?_
    simp only [Act.put, List.setIfInBounds_toArray, List.set_cons_zero, List.set_cons_succ]
    refine tk 9 ⟨some 25, .extract (.tmp 16) 1, 4, "program.go:131", #[⟨7, .data⟩, { on := 10, ground := .gcOnly Departure.lateStores }], none⟩ (.bool true) ?_
    simp only [Act.put, List.setIfInBounds_toArray, List.set_cons_zero, List.set_cons_succ]
    refine wpAnyH_ready (rs := [10]) (by kernel_rfl) (by simp) (AllReadyH.cons (o := ⟨some 8, .assign (.tmp 24), 3, "program.go:131", #[⟨8, .data⟩, ⟨0, .phase⟩, ⟨1, .phase⟩, ⟨2, .phase⟩, ⟨3, .phase⟩, ⟨4, .phase⟩, ⟨5, .phase⟩, ⟨6, .phase⟩, ⟨7, .phase⟩, ⟨8, .phase⟩, { on := 9, ground := .textOnly Departure.lateStores }], none⟩) rfl (fun KQ hK => ?_) AllReadyH.nil)
    go_simp
    refine hK.out _ _ rfl (fun hHeld => ?_)
    clear hK KQ
    try simp only [Act.put, List.setIfInBounds_toArray, List.set_cons_zero, List.set_cons_succ]
    refine wpAnyH_ready (rs := [11]) (by kernel_rfl) (by simp) (AllReadyH.cons (o := ⟨some 9, .assign (.tmp 25), 4, "program.go:131", #[⟨9, .data⟩, ⟨10, .chain⟩, ⟨0, .phase⟩, ⟨1, .phase⟩, ⟨2, .phase⟩, ⟨3, .phase⟩, ⟨4, .phase⟩, ⟨5, .phase⟩, ⟨6, .phase⟩, ⟨7, .phase⟩, ⟨8, .phase⟩, ⟨9, .phase⟩, ⟨10, .phase⟩], none⟩) rfl (fun KQ hK => ?_) AllReadyH.nil)
    go_simp
    refine hK.out _ _ rfl (fun hHeld => ?_)
    clear hK KQ
    try simp only [Act.put, List.setIfInBounds_toArray, List.set_cons_zero, List.set_cons_succ]
    refine wpAnyH_done (by kernel_rfl) ?_ _
    clear hHeld
    go_wp2_with fail
    have HZF : Hid (PF W Y.drew g gm base line ws labs lat fs i vw vl vf ∧ Cel Y.drew g7 192 [.slice (some ⟨gO, 0, none⟩) os.length cp] ∧ Cel Y.drew g8 3 [.int .i64 (q : Int)] ∧ Cel Y.drew g5 68 [.pointer (some ⟨g, 0, none⟩)] ∧ Cel Y.drew g11 3 [.int .i64 (ln : Int)] ∧ Cel Y.drew g6 188 (kdC k) ∧ Cel Y.drew g9 3 [.int .i64 (place : Int)] ∧ RowAt Y.drew gO os ∧ Cel Y.drew gx 197 [.int .u32 (ov : Int), .string ⟨lb.toArray⟩, .int .i64 (oc : Int)]) := hid (⟨HYF.out.1.on (Below.refl _ Y).drew, HYF.out.2.1.on (Below.refl _ Y).drew, HYF.out.2.2.1.on (Below.refl _ Y).drew, HYF.out.2.2.2.1.on (Below.refl _ Y).drew, HYF.out.2.2.2.2.1.on (Below.refl _ Y).drew, HYF.out.2.2.2.2.2.1.on (Below.refl _ Y).drew, HYF.out.2.2.2.2.2.2.1.on (Below.refl _ Y).drew, HYF.out.2.2.2.2.2.2.2.1.kt (.of_below (Below.refl _ Y).drew), HYF.out.2.2.2.2.2.2.2.2.on (Below.refl _ Y).drew⟩)
    clear HYF
    obtain ⟨l, hl⟩ : ∃ l, (k.shape.map (·.toNat)).getD q 0 = l := ⟨_, rfl⟩
    rw [hl] at HR1
    obtain ⟨sh, hsh⟩ : ∃ sh : ByteArray, sh = ⟨k.shape.toArray⟩ := ⟨_, rfl⟩
    have hks : k.shape.length = os.length := HKO.out.2.1.len
    have hsz : sh.size = os.length := by rw [hsh]; simp [ByteArray.size, hks]
    have hlk : ∀ h, (sh[q]'h).toNat = l := fun h => by
      subst hsh
      rw [← hl, List.getD_eq_getElem?_getD, List.getElem?_eq_getElem (by rw [List.length_map, hks]; exact HO.out), Option.getD_some, List.getElem_map]
      show k.shape.toArray[q].toNat = _
      simp
    have E6 : Hid (Y.drew.cell? ⟨g6, 1, none⟩ = some (.string sh)) := hid (by rw [hsh]; exact HZF.out.2.2.2.2.2.1.cell 1)
    have E5 : Hid (Y.drew.cell? ⟨g5, 0, none⟩ = some (.pointer (some ⟨g, 0, none⟩))) := hid (HZF.out.2.2.2.1.cell 0)
    have E8 : Hid (Y.drew.cell? ⟨g8, 0, none⟩ = some (.int .i64 (q : Int))) := hid (HZF.out.2.2.1.cell 0)
    have E9 : Hid (Y.drew.cell? ⟨g9, 0, none⟩ = some (.int .i64 (place : Int))) := hid (HZF.out.2.2.2.2.2.2.1.cell 0)
    clear hl hsh hks
    have H124 := hid (meaning_any Y.drew g base l tg place hbase _ rfl htg hpl (HZF.out.1.cel.cell 0))
    cases hme : S.meaning base l tg place with
    | none =>
      rw [hme] at H124
      have HR2 : Hid (r = .inl (65, ln, oc)) := hid (by rw [HR1.out, hme])
      clear hme HR1
      refine wp_region_held_drew (S := fun x => x = Y.drew) (by kernel_rfl) rfl (fun hHeld => ?_)
      generalize Y.drew = Z at *
      refine tk 0 ⟨some 33, .load 68 (.tmp 2), 68, "program.go:135", #[], none⟩ (.pointer (some ⟨g, 0, none⟩)) ?_ (hy := Or.inl ⟨by rfl, by intro w hSw; subst hSw; have hcc := E5.out; go_simp⟩)
      simp only [Act.put, List.setIfInBounds_toArray, List.set_cons_zero, List.set_cons_succ]
      refine tk 1 ⟨some 34, .fieldAddr 188 (.tmp 4) 1, 0, "program.go:135", #[], none⟩ (.pointer (some ⟨g6, 1, none⟩)) ?_
      simp only [Act.put, List.setIfInBounds_toArray, List.set_cons_zero, List.set_cons_succ]
      refine tk 2 ⟨some 35, .load 9 (.tmp 34), 9, "program.go:135", #[⟨1, .data⟩], none⟩ (.string sh) ?_ (hy := Or.inl ⟨by rfl, by intro w hSw; subst hSw; have hcc := E6.out; go_simp⟩)
      simp only [Act.put, List.setIfInBounds_toArray, List.set_cons_zero, List.set_cons_succ]
      refine tk 3 ⟨some 36, .load 3 (.tmp 1), 3, "program.go:135", #[], none⟩ (.int .i64 (q : Int)) ?_ (hy := Or.inl ⟨by rfl, by intro w hSw; subst hSw; have hcc := E8.out; go_simp⟩)
      simp only [Act.put, List.setIfInBounds_toArray, List.set_cons_zero, List.set_cons_succ]
      refine tk 4 ⟨some 37, .index 9 (.tmp 35) (.tmp 36), 5, "program.go:135", #[⟨2, .data⟩, ⟨3, .data⟩], none⟩ (.int .u8 (l : Int)) ?_
      simp only [Act.put, List.setIfInBounds_toArray, List.set_cons_zero, List.set_cons_succ]
      refine tk 5 ⟨some 38, .move (.tmp 8), 3, "program.go:135", #[], none⟩ (.int .i64 (tg : Int)) ?_
      simp only [Act.put, List.setIfInBounds_toArray, List.set_cons_zero, List.set_cons_succ]
      refine tk 6 ⟨some 39, .load 3 (.tmp 5), 3, "program.go:135", #[], none⟩ (.int .i64 (place : Int)) ?_ (hy := Or.inl ⟨by rfl, by intro w hSw; subst hSw; have hcc := E9.out; go_simp⟩)
      simp only [Act.put, List.setIfInBounds_toArray, List.set_cons_zero, List.set_cons_succ]
      refine wpAnyH_ready (rs := [7]) (by kernel_rfl) (by simp) (AllReadyH.cons (o := ⟨some 40, .call { callee := .value (.func 124), args := #[.tmp 33, .tmp 37, .tmp 38, .tmp 39], argTypes := #[68, 5, 3, 3] }, 80, "program.go:135", #[⟨0, .data⟩, ⟨4, .data⟩, ⟨5, .data⟩, ⟨6, .data⟩], none⟩) rfl (fun KQ hK => ?_) AllReadyH.nil)
      go_simp
      refine H124.out.mono ?_
      rintro e y1 ⟨rfl, rfl⟩
      go_wp2_with fail
      refine hK.out _ _ rfl (fun hHeld => ?_)
      clear hK KQ
      try simp only [Act.put, List.setIfInBounds_toArray, List.set_cons_zero, List.set_cons_succ]
      refine tk 8 ⟨some 32, .move (.tmp 40), 80, "program.go:135", #[⟨7, .data⟩], none⟩ (.tuple #[.int .u32 0, .int .i64 65]) ?_
      simp only [Act.put, List.setIfInBounds_toArray, List.set_cons_zero, List.set_cons_succ]
      refine tk 9 ⟨some 41, .extract (.tmp 32) 0, 22, "program.go:135", #[⟨8, .data⟩], none⟩ (.int .u32 0) ?_
      simp only [Act.put, List.setIfInBounds_toArray, List.set_cons_zero, List.set_cons_succ]
      refine tk 10 ⟨some 42, .extract (.tmp 32) 1, 25, "program.go:135", #[⟨8, .data⟩, { on := 11, ground := .gcOnly Departure.lateStores }], none⟩ (.int .i64 65) ?_
      simp only [Act.put, List.setIfInBounds_toArray, List.set_cons_zero, List.set_cons_succ]
      refine wpAnyH_ready (rs := [11]) (by kernel_rfl) (by simp) (AllReadyH.cons (o := ⟨some 10, .assign (.tmp 41), 22, "program.go:135", #[⟨9, .data⟩, ⟨7, .chain⟩, ⟨0, .phase⟩, ⟨1, .phase⟩, ⟨2, .phase⟩, ⟨3, .phase⟩, ⟨4, .phase⟩, ⟨5, .phase⟩, ⟨6, .phase⟩, ⟨7, .phase⟩, ⟨8, .phase⟩, ⟨9, .phase⟩, { on := 10, ground := .textOnly Departure.lateStores }], none⟩) rfl (fun KQ hK => ?_) AllReadyH.nil)
      go_simp
      refine hK.out _ _ rfl (fun hHeld => ?_)
      clear hK KQ
      try simp only [Act.put, List.setIfInBounds_toArray, List.set_cons_zero, List.set_cons_succ]
      refine wpAnyH_ready (rs := [12]) (by kernel_rfl) (by simp) (AllReadyH.cons (o := ⟨some 11, .assign (.tmp 42), 25, "program.go:135", #[⟨10, .data⟩, ⟨11, .chain⟩, ⟨0, .phase⟩, ⟨1, .phase⟩, ⟨2, .phase⟩, ⟨3, .phase⟩, ⟨4, .phase⟩, ⟨5, .phase⟩, ⟨6, .phase⟩, ⟨7, .phase⟩, ⟨8, .phase⟩, ⟨9, .phase⟩, ⟨10, .phase⟩, ⟨11, .phase⟩], none⟩) rfl (fun KQ hK => ?_) AllReadyH.nil)
      go_simp
      refine hK.out _ _ rfl (fun hHeld => ?_)
      clear hK KQ
      try simp only [Act.put, List.setIfInBounds_toArray, List.set_cons_zero, List.set_cons_succ]
      refine wpAnyH_done (by kernel_rfl) ?_ _
      clear hHeld
      have e11 : Z.cell? ⟨g11, 0, none⟩ = some (.int .i64 (ln : Int)) := HZF.out.2.2.2.2.1.cell 0
      have ex2 : Z.cell? ⟨gx, 2, none⟩ = some (.int .i64 (oc : Int)) := HZF.out.2.2.2.2.2.2.2.2.cell 2
      go_wp2_with fail
      refine (faultAt_any _ 65 (ln : Int) (oc : Int)).mono ?_
      rintro e y1 ⟨rfl, rfl⟩
      go_wp2_with fail
      go_ret
      rw [HR2.out]
      exact ⟨rfl, HZF.out.1.below⟩
    | some v =>
      rw [hme] at H124
      have HR2 : Hid (r = .inr (S.over ws place (S.words k (os.set q ⟨v, lb, oc⟩)))) := hid (by rw [HR1.out, hme])
      have hv : v < 4294967296 := S.meaning_lt hme
      clear hme HR1
      refine wp_region_held_drew (S := fun x => x = Y.drew) (by kernel_rfl) rfl (fun hHeld => ?_)
      generalize Y.drew = Z at *
      refine tk 0 ⟨some 33, .load 68 (.tmp 2), 68, "program.go:135", #[], none⟩ (.pointer (some ⟨g, 0, none⟩)) ?_ (hy := Or.inl ⟨by rfl, by intro w hSw; subst hSw; have hcc := E5.out; go_simp⟩)
      simp only [Act.put, List.setIfInBounds_toArray, List.set_cons_zero, List.set_cons_succ]
      refine tk 1 ⟨some 34, .fieldAddr 188 (.tmp 4) 1, 0, "program.go:135", #[], none⟩ (.pointer (some ⟨g6, 1, none⟩)) ?_
      simp only [Act.put, List.setIfInBounds_toArray, List.set_cons_zero, List.set_cons_succ]
      refine tk 2 ⟨some 35, .load 9 (.tmp 34), 9, "program.go:135", #[⟨1, .data⟩], none⟩ (.string sh) ?_ (hy := Or.inl ⟨by rfl, by intro w hSw; subst hSw; have hcc := E6.out; go_simp⟩)
      simp only [Act.put, List.setIfInBounds_toArray, List.set_cons_zero, List.set_cons_succ]
      refine tk 3 ⟨some 36, .load 3 (.tmp 1), 3, "program.go:135", #[], none⟩ (.int .i64 (q : Int)) ?_ (hy := Or.inl ⟨by rfl, by intro w hSw; subst hSw; have hcc := E8.out; go_simp⟩)
      simp only [Act.put, List.setIfInBounds_toArray, List.set_cons_zero, List.set_cons_succ]
      refine tk 4 ⟨some 37, .index 9 (.tmp 35) (.tmp 36), 5, "program.go:135", #[⟨2, .data⟩, ⟨3, .data⟩], none⟩ (.int .u8 (l : Int)) ?_
      simp only [Act.put, List.setIfInBounds_toArray, List.set_cons_zero, List.set_cons_succ]
      refine tk 5 ⟨some 38, .move (.tmp 8), 3, "program.go:135", #[], none⟩ (.int .i64 (tg : Int)) ?_
      simp only [Act.put, List.setIfInBounds_toArray, List.set_cons_zero, List.set_cons_succ]
      refine tk 6 ⟨some 39, .load 3 (.tmp 5), 3, "program.go:135", #[], none⟩ (.int .i64 (place : Int)) ?_ (hy := Or.inl ⟨by rfl, by intro w hSw; subst hSw; have hcc := E9.out; go_simp⟩)
      simp only [Act.put, List.setIfInBounds_toArray, List.set_cons_zero, List.set_cons_succ]
      refine wpAnyH_ready (rs := [7]) (by kernel_rfl) (by simp) (AllReadyH.cons (o := ⟨some 40, .call { callee := .value (.func 124), args := #[.tmp 33, .tmp 37, .tmp 38, .tmp 39], argTypes := #[68, 5, 3, 3] }, 80, "program.go:135", #[⟨0, .data⟩, ⟨4, .data⟩, ⟨5, .data⟩, ⟨6, .data⟩], none⟩) rfl (fun KQ hK => ?_) AllReadyH.nil)
      go_simp
      refine H124.out.mono ?_
      rintro e y1 ⟨rfl, rfl⟩
      go_wp2_with fail
      refine hK.out _ _ rfl (fun hHeld => ?_)
      clear hK KQ
      try simp only [Act.put, List.setIfInBounds_toArray, List.set_cons_zero, List.set_cons_succ]
      refine tk 8 ⟨some 32, .move (.tmp 40), 80, "program.go:135", #[⟨7, .data⟩], none⟩ (.tuple #[.int .u32 (v : Int), .int .i64 0]) ?_
      simp only [Act.put, List.setIfInBounds_toArray, List.set_cons_zero, List.set_cons_succ]
      refine tk 9 ⟨some 41, .extract (.tmp 32) 0, 22, "program.go:135", #[⟨8, .data⟩], none⟩ (.int .u32 (v : Int)) ?_
      simp only [Act.put, List.setIfInBounds_toArray, List.set_cons_zero, List.set_cons_succ]
      refine tk 10 ⟨some 42, .extract (.tmp 32) 1, 25, "program.go:135", #[⟨8, .data⟩, { on := 11, ground := .gcOnly Departure.lateStores }], none⟩ (.int .i64 0) ?_
      simp only [Act.put, List.setIfInBounds_toArray, List.set_cons_zero, List.set_cons_succ]
      refine wpAnyH_ready (rs := [11]) (by kernel_rfl) (by simp) (AllReadyH.cons (o := ⟨some 10, .assign (.tmp 41), 22, "program.go:135", #[⟨9, .data⟩, ⟨7, .chain⟩, ⟨0, .phase⟩, ⟨1, .phase⟩, ⟨2, .phase⟩, ⟨3, .phase⟩, ⟨4, .phase⟩, ⟨5, .phase⟩, ⟨6, .phase⟩, ⟨7, .phase⟩, ⟨8, .phase⟩, ⟨9, .phase⟩, { on := 10, ground := .textOnly Departure.lateStores }], none⟩) rfl (fun KQ hK => ?_) AllReadyH.nil)
      go_simp
      refine hK.out _ _ rfl (fun hHeld => ?_)
      clear hK KQ
      try simp only [Act.put, List.setIfInBounds_toArray, List.set_cons_zero, List.set_cons_succ]
      refine wpAnyH_ready (rs := [12]) (by kernel_rfl) (by simp) (AllReadyH.cons (o := ⟨some 11, .assign (.tmp 42), 25, "program.go:135", #[⟨10, .data⟩, ⟨11, .chain⟩, ⟨0, .phase⟩, ⟨1, .phase⟩, ⟨2, .phase⟩, ⟨3, .phase⟩, ⟨4, .phase⟩, ⟨5, .phase⟩, ⟨6, .phase⟩, ⟨7, .phase⟩, ⟨8, .phase⟩, ⟨9, .phase⟩, ⟨10, .phase⟩, ⟨11, .phase⟩], none⟩) rfl (fun KQ hK => ?_) AllReadyH.nil)
      go_simp
      refine hK.out _ _ rfl (fun hHeld => ?_)
      clear hK KQ
      try simp only [Act.put, List.setIfInBounds_toArray, List.set_cons_zero, List.set_cons_succ]
      refine wpAnyH_done (by kernel_rfl) ?_ _
      clear hHeld
      have z7 : Z.cell? ⟨g7, 0, none⟩ = some (.slice (some ⟨gO, 0, none⟩) os.length cp) := HZF.out.2.1.cell 0
      have z8 : Z.cell? ⟨g8, 0, none⟩ = some (.int .i64 (q : Int)) := HZF.out.2.2.1.cell 0
      have zr : Z.cell? ⟨gO, q * 3, none⟩ = some (.int .u32 (ov : Int)) := by
        have := HZF.out.2.2.2.2.2.2.2.1.cell q 0 HO.out (by decide)
        rw [HOQ.out] at this
        exact this
      have zf : Z.frozen? ⟨gO, q * 3, none⟩ = false := HZF.out.2.2.2.2.2.2.2.1.free _
      go_wp2_with fail
      have HVL : Hid (PF W (Z.setCell ⟨gO, q * 3, none⟩ (.int .u32 (v : Int))) g gm base line ws labs lat fs (i + 1) vw vl vf ∧ RowAt (Z.setCell ⟨gO, q * 3, none⟩ (.int .u32 (v : Int))) gO (os.set q ⟨v, lb, oc⟩) ∧ (∀ e, e ≠ 197 → KT e Z (Z.setCell ⟨gO, q * 3, none⟩ (.int .u32 (v : Int))))) := hid (by
        have h0 := HZF.out.1.val hi' os (by rw [HD.out]; exact HZF.out.2.2.2.2.2.2.2.1) q HO.out v
        rw [HD.out] at h0
        have e : ({ os[q]'HO.out with val := v } : S.Opn) = ⟨v, lb, oc⟩ := by rw [HOQ.out]
        rw [e] at h0
        exact h0)
      have HU : Hid (Cel (Z.setCell ⟨gO, q * 3, none⟩ (.int .u32 (v : Int))) g5 68 [.pointer (some ⟨g, 0, none⟩)] ∧ Cel (Z.setCell ⟨gO, q * 3, none⟩ (.int .u32 (v : Int))) g9 3 [.int .i64 (place : Int)] ∧ Cel (Z.setCell ⟨gO, q * 3, none⟩ (.int .u32 (v : Int))) g6 188 (kdC k) ∧ Cel (Z.setCell ⟨gO, q * 3, none⟩ (.int .u32 (v : Int))) g7 192 [.slice (some ⟨gO, 0, none⟩) os.length cp]) := hid ⟨HZF.out.2.2.2.1.kt (HVL.out.2.2 _ (by decide)), HZF.out.2.2.2.2.2.2.1.kt (HVL.out.2.2 _ (by decide)), HZF.out.2.2.2.2.2.1.kt (HVL.out.2.2 _ (by decide)), HZF.out.2.1.kt (HVL.out.2.2 _ (by decide))⟩
      have HUP := hid HVL.out.1
      have HUR := hid HVL.out.2.1
      clear HVL HZF z7 z8 zr zf
      generalize Z.setCell ⟨gO, q * 3, none⟩ (.int .u32 (v : Int)) = U at *
      obtain ⟨gW, c, rfl, hnc⟩ : ∃ gW c, vw = .slice (some ⟨gW, 0, none⟩) ws.length c ∧ ws.length ≤ c := by
        rcases HUP.out.wr.2 with ⟨_, h0⟩ | ⟨gW, c, cur, h1, h2, h3, h4, _⟩
        · omega
        · exact ⟨gW, c, h1, h4⟩
      obtain ⟨n, hn⟩ : ∃ n, ws.length = n := ⟨_, rfl⟩
      have HN : Hid (ws.length = n) := hn
      have hpn : place < n := by omega
      have hnc' : n ≤ c := by omega
      have n1 : (place : Int) ≤ (n : Int) := by omega
      have n2 : (n : Int) ≤ 2048 := by have := HUP.out.room; omega
      have n3 : (n : Int) ≤ (c : Int) := by omega
      have n4 : ¬ (c = place) := by omega
      obtain ⟨os2, hos2⟩ : ∃ os2, os.set q ⟨v, lb, oc⟩ = os2 := ⟨_, rfl⟩
      have HOS2 : Hid (S.OsOk k os2 ∧ os2.length = os.length) := hid (by rw [← hos2]; exact ⟨HKO.out.2.1.set HKO.out.2.2 q _ hv, by simp⟩)
      rw [hos2] at HUR HR2
      obtain ⟨xs, hxs⟩ : ∃ xs, S.words k os2 = xs := ⟨_, rfl⟩
      have HXS : Hid (S.words k os2 = xs) := hxs
      have HXP : Hid (0 < xs.length) := hid (by rw [← hxs]; exact S.words_pos HKO.out.2.2)
      rw [hxs] at HR2
      rw [hn] at HUP
      clear hn hos2 hxs hnc hlp
      have HS0 : Hid (Cel U.drew g5 68 [.pointer (some ⟨g, 0, none⟩)] ∧ Cel U.drew g 77 (psC base line (.slice (some ⟨gW, 0, none⟩) n c) vl gm vf) ∧ Cel U.drew g9 3 [.int .i64 (place : Int)] ∧ Cel U.drew g6 188 (kdC k) ∧ Cel U.drew g7 192 [.slice (some ⟨gO, 0, none⟩) os.length cp]) := hid ⟨HU.out.1, HUP.out.cel, HU.out.2.1, HU.out.2.2.1, HU.out.2.2.2⟩
      have HUD : Hid (PF W U.drew g gm base line ws labs lat fs (i + 1) (.slice (some ⟨gW, 0, none⟩) n c) vl vf ∧ RowAt U.drew gO os2) := hid ⟨HUP.out.on (Below.refl _ _).drew, HUR.out⟩
      clear HU HUP HUR
      refine wp_region_held_drew (S := fun x => Cel x g5 68 [.pointer (some ⟨g, 0, none⟩)] ∧ Cel x g 77 (psC base line (.slice (some ⟨gW, 0, none⟩) n c) vl gm vf) ∧ Cel x g9 3 [.int .i64 (place : Int)] ∧ Cel x g6 188 (kdC k) ∧ Cel x g7 192 [.slice (some ⟨gO, 0, none⟩) os.length cp]) (by kernel_rfl) HS0.out (fun hHeld => ?_)
      generalize U.drew = Y2 at *
      refine tk 0 ⟨some 55, .load 68 (.tmp 2), 68, "program.go:140", #[], none⟩ (.pointer (some ⟨g, 0, none⟩)) ?_ (hy := Or.inl ⟨by rfl, by intro w hSw; have hcc : w.cell? ⟨g5, 0, none⟩ = some (.pointer (some ⟨g, 0, none⟩)) := hSw.1.cell 0; go_simp⟩)
      simp only [Act.put, List.setIfInBounds_toArray, List.set_cons_zero, List.set_cons_succ]
      refine tk 1 ⟨some 56, .nilCheck (.tmp 55), 0, "program.go:140", #[⟨0, .data⟩], none⟩ (.pointer (some ⟨g, 0, none⟩)) ?_
      simp only [Act.put, List.setIfInBounds_toArray, List.set_cons_zero, List.set_cons_succ]
      refine tk 2 ⟨some 57, .fieldAddr 77 (.tmp 56) 2, 0, "program.go:140", #[⟨1, .data⟩], none⟩ (.pointer (some ⟨g, 2, none⟩)) ?_
      simp only [Act.put, List.setIfInBounds_toArray, List.set_cons_zero, List.set_cons_succ]
      refine tk 3 ⟨some 58, .load 24 (.tmp 57), 24, "program.go:140", #[⟨2, .data⟩], none⟩ (.slice (some ⟨gW, 0, none⟩) n c) ?_ (hy := Or.inl ⟨by rfl, by intro w hSw; have hcc : w.cell? ⟨g, 2, none⟩ = some (.slice (some ⟨gW, 0, none⟩) n c) := hSw.2.1.cell 2; go_simp⟩)
      simp only [Act.put, List.setIfInBounds_toArray, List.set_cons_zero, List.set_cons_succ]
      refine tk 4 ⟨some 59, .load 3 (.tmp 5), 3, "program.go:140", #[], none⟩ (.int .i64 (place : Int)) ?_ (hy := Or.inl ⟨by rfl, by intro w hSw; have hcc : w.cell? ⟨g9, 0, none⟩ = some (.int .i64 (place : Int)) := hSw.2.2.1.cell 0; go_simp⟩)
      simp only [Act.put, List.setIfInBounds_toArray, List.set_cons_zero, List.set_cons_succ]
      refine tk 5 ⟨some 60, .slice 24 (.tmp 58) (some (.tmp 59)) none none, 24, "program.go:140", #[⟨3, .data⟩, ⟨4, .data⟩], none⟩ (.slice (some ⟨gW, place, none⟩) (n - place) (c - place)) ?_
      simp only [Act.put, List.setIfInBounds_toArray, List.set_cons_zero, List.set_cons_succ]
      refine tk 6 ⟨some 61, .load 188 (.tmp 4), 188, "program.go:140", #[], none⟩ (kdV k) ?_ (hy := yieldsIf_load_mid (by rfl) _ _ rfl _ _ rfl _ _ (fun w hSw => hSw.2.2.2.1.range) Tryz.underlying188 rfl size188)
      simp only [Act.put, List.setIfInBounds_toArray, List.set_cons_zero, List.set_cons_succ]
      refine tk 7 ⟨some 62, .load 192 (.tmp 0), 192, "program.go:140", #[], none⟩ (.slice (some ⟨gO, 0, none⟩) os.length cp) ?_ (hy := Or.inl ⟨by rfl, by intro w hSw; have hcc : w.cell? ⟨g7, 0, none⟩ = some (.slice (some ⟨gO, 0, none⟩) os.length cp) := hSw.2.2.2.2.cell 0; go_simp⟩)
      simp only [Act.put, List.setIfInBounds_toArray, List.set_cons_zero, List.set_cons_succ]
      refine wpAnyH_ready (rs := [8]) (by kernel_rfl) (by simp) (AllReadyH.cons (o := ⟨some 63, .call { callee := .value (.func 91), args := #[.tmp 61, .tmp 62], argTypes := #[188, 192] }, 24, "program.go:140", #[⟨6, .data⟩, ⟨7, .data⟩], none⟩) rfl (fun KQ hK => ?_) AllReadyH.nil)
      go_simp
      refine (words_any6 Y2 (HT.out.on HUD.out.1.below) k HKO.out.1 (some ⟨gO, 0, none⟩) os.length cp os2 HOS2.out.2 HOS2.out.1 HUD.out.2.at).mono ?_
      rintro e w2 ⟨⟨gS, rfl, hgS, hcS⟩, hb2⟩
      rw [HXS.out] at hcS
      rw [HXS.out]
      have HS2 : Hid (Cel w2 g5 68 [.pointer (some ⟨g, 0, none⟩)] ∧ Cel w2 g 77 (psC base line (.slice (some ⟨gW, 0, none⟩) n c) vl gm vf) ∧ Cel w2 g9 3 [.int .i64 (place : Int)] ∧ Cel w2 g6 188 (kdC k) ∧ Cel w2 g7 192 [.slice (some ⟨gO, 0, none⟩) os.length cp]) := hid ⟨HS0.out.1.on hb2, HS0.out.2.1.on hb2, HS0.out.2.2.1.on hb2, HS0.out.2.2.2.1.on hb2, HS0.out.2.2.2.2.on hb2⟩
      have HP2 : Hid (PF W w2 g gm base line ws labs lat fs (i + 1) (.slice (some ⟨gW, 0, none⟩) n c) vl vf) := hid (HUD.out.1.on hb2)
      have HSS : Hid (Cel w2 gS 22 (u32s xs)) := hcS
      clear hgS hcS hb2 HUD HS0
      obtain ⟨cur, hcur, hfit, hPF⟩ := PF.put2 (by rw [HN.out]; exact HP2.out) place (by rw [HN.out]; exact hpn) xs _ rfl
      rw [HN.out] at hfit hPF
      obtain ⟨cs, hcs⟩ : ∃ cs, u32s (xs.take (n - place)) = cs := ⟨_, rfl⟩
      have HCS : Hid (∀ j v, cs[j]? = some v → w2.cell? ((⟨gS, 0, none⟩ : Addr).add j) = some v) := hid (by rw [← hcs]; exact src_cells HSS.out _)
      have HC1 : Hid (∀ v ∈ cs, v.oneCell' = true) := hid (by rw [← hcs]; exact u32s_one _)
      have hcl : cs.length = Nat.min xs.length (n - place) := by rw [← hcs]; simp [u32s, Nat.min_comm]
      rw [hcs] at hfit hPF
      have HF : Hid (PF W (w2.setRow gW (cur.toList.take place ++ cs ++ cur.toList.drop (place + cs.length)).toArray) g gm base line (S.over ws place xs) labs lat fs (i + 1) (.slice (some ⟨gW, 0, none⟩) n c) vl vf) := hPF
      clear hPF hcs
      go_wp2_with fail
      refine hK.out _ _ HS2.out (fun hHeld => ?_)
      clear hK KQ
      try simp only [Act.put, List.setIfInBounds_toArray, List.set_cons_zero, List.set_cons_succ]
      refine wpAnyH_ready (rs := [9]) (by kernel_rfl) (by simp) (AllReadyH.cons (o := ⟨some 64, .call { callee := .builtin .copy, args := #[.tmp 60, .tmp 63], argTypes := #[24, 24] }, 3, "program.go:140", #[⟨5, .data⟩, ⟨8, .data⟩, ⟨8, .chain⟩], none⟩) rfl (fun KQ hK => ?_) AllReadyH.nil)
      rw [if_pos (by rfl)]
      refine wp_copy_row _ _ 24 24 rfl 22 Tryz.underlying24 size22 gW place (n - place) (c - place) ⟨gS, 0, none⟩ xs.length xs.length rfl rfl cur 22 hcur cs hcl HCS.out hfit HC1.out ?_
      refine hK.out _ _ ⟨HS2.out.1.kt (KT.setRow hcur (by decide) _), HS2.out.2.1.kt (KT.setRow hcur (by decide) _), HS2.out.2.2.1.kt (KT.setRow hcur (by decide) _), HS2.out.2.2.2.1.kt (KT.setRow hcur (by decide) _), HS2.out.2.2.2.2.kt (KT.setRow hcur (by decide) _)⟩ (fun hHeld => ?_)
      clear hK KQ
      try simp only [Act.put, List.setIfInBounds_toArray, List.set_cons_zero, List.set_cons_succ]
      refine wpAnyH_done (by kernel_rfl) ?_ _
      clear hHeld
      generalize w2.setRow gW (cur.toList.take place ++ cs ++ cur.toList.drop (place + cs.length)).toArray = w7 at *
      go_wp2_with fail
      go_ret
      rw [HR2.out]
      exact ⟨rfl, by rw [HN.out]; exact HF.out⟩
end Go.Proofs.YtncnogndopgknaaGreatDoor
namespace Go.Proofs.YtncnogndopgknaaGreatDoor
open Go.RowKit

/-! ### Widths -/
namespace T
def mrg : List Nat → List (List UInt8) → List Nat
  | ws, [] => ws
  | [], c :: r => c.length :: mrg [] r
  | w :: ws, c :: r => max w c.length :: mrg ws r
def widths (rows : List (List (List UInt8))) : List Nat := rows.foldl mrg []
def trim (l : List UInt8) : List UInt8 := Lib.trimRightB l 32
def upTo (row : List (List UInt8)) : Nat := (row.reverse.dropWhile fun c => (trim c).isEmpty).length
def fillTo (ws : List Nat) (i : Nat) (c : List UInt8) : List UInt8 := c ++ List.replicate (ws.getD i 0 - c.length) 32 ++ [32, 32]
def fills (ws : List Nat) (row : List (List UInt8)) (k : Nat) : List UInt8 := ((List.range k).map fun i => fillTo ws i (row.getD i [])).flatten
def line (ws : List Nat) (row : List (List UInt8)) : List UInt8 := if upTo row = 0 then [] else fills ws row (upTo row - 1) ++ trim (row.getD (upTo row - 1) [])
def table (rows : List (List (List UInt8))) (ws : List Nat) : List UInt8 := (rows.map fun r => line ws r ++ [10]).flatten
def columns (rows : List (List (List UInt8))) : List UInt8 := table rows (widths rows)
theorem upTo_le (row : List (List UInt8)) : upTo row ≤ row.length := by
  unfold upTo
  have := (List.dropWhile_suffix (l := row.reverse) fun c => (trim c).isEmpty).length_le
  simpa using this
end T
/-! ### Own lists of one-cell values -/
structure HV (W wr : World) (e : TypeId) (v : Value) (xs : List Value) : Prop where
  own : wr.ownsRow W.heap.size e 1 v xs.length xs
  below : Below W.heap.size W wr
theorem HV.nil {W w : World} (e : TypeId) (hb : Below W.heap.size W w) : HV W w e (.slice none 0 0) [] := ⟨World.ownsRow_nil w _ e 1, hb⟩
theorem HV.alloc {W wr : World} {e : TypeId} {v : Value} {l : List Value} (h : HV W wr e v l) (o : Obj) : HV W (wr.alloc o) e v l := ⟨h.own.alloc o, h.below.alloc h.below.size o⟩
theorem HV.drew {W wr : World} {e : TypeId} {v : Value} {l : List Value} (h : HV W wr e v l) : HV W wr.drew e v l := ⟨h.own, h.below.drew⟩
theorem HV.on {W wr w : World} {e : TypeId} {v : Value} {l : List Value} (h : HV W wr e v l) (hb : Below wr.heap.size wr w) : HV W w e v l := ⟨own_below h.own hb, h.below.trans (hb.mono h.below.size)⟩
theorem HV.form {W wr : World} {e : TypeId} {v : Value} {xs : List Value} (h : HV W wr e v xs) (hn : 0 < xs.length) : ∃ g cap cur, v = .slice (some ⟨g, 0, none⟩) xs.length cap ∧ W.heap.size ≤ g ∧ g < wr.heap.size ∧ wr.heap[g]? = some (.cells cur e (0, 0)) ∧ xs.length ≤ cap ∧ cap ≤ maxLen ∧ cur.size = cap ∧ cur.toList.take xs.length = xs := by
  rcases h.own.2 with ⟨_, h0⟩ | ⟨g, cap, cur, h1, h2, h3, h4, h5, h6, h7⟩
  · omega
  · exact ⟨g, cap, cur, h1, h2, (Array.getElem?_eq_some_iff.1 h3).1, h3, h4, h5, by omega, by rw [Nat.mul_one] at h7; exact h7⟩
theorem HV.any {W wr : World} {e : TypeId} {v : Value} {xs : List Value} (h : HV W wr e v xs) : ∃ ao cap, v = .slice ao xs.length cap := by
  obtain ⟨ao, cc, hv⟩ := own_form h.own
  exact ⟨ao, cc, hv⟩
theorem HV.cell {W wr : World} {e : TypeId} {g cap : Nat} {xs : List Value} {n : Nat} (h : HV W wr e (.slice (some ⟨g, 0, none⟩) n cap) xs) (j : Nat) (u : Value) (hj : xs[j]? = some u) : wr.cell? ⟨g, j, none⟩ = some u := by
  have := h.own.cells (g := g) rfl j u hj
  rw [Addr.add_mid, Nat.zero_add] at this
  exact this
theorem HV.free {W wr : World} {e : TypeId} {g cap : Nat} {xs : List Value} {n : Nat} (h : HV W wr e (.slice (some ⟨g, 0, none⟩) n cap) xs) (j : Nat) : wr.frozen? ⟨g, j, none⟩ = false := by
  rcases h.own.2 with ⟨h0, _⟩ | ⟨g', cap', cur, h1, h2, h3, _⟩
  · cases h0
  · cases h1
    exact Lib.frozen_of_heap h3 j
theorem HV.set {W wr : World} {e : TypeId} {g cap : Nat} {xs : List Value} {n : Nat} (h : HV W wr e (.slice (some ⟨g, 0, none⟩) n cap) xs) (j : Nat) (u : Value) : HV W (wr.setCell ⟨g, j, none⟩ u) e (.slice (some ⟨g, 0, none⟩) n cap) (xs.set j u) := by
  rcases h.own.2 with ⟨h0, _⟩ | ⟨g', cap', cur, h1, h2, h3, h4, h5, h6, h7⟩
  · cases h0
  · injection h1 with a1 a2 a3
    injection a1 with a1
    injection a1 with a1
    subst a1 a3
    refine ⟨⟨by simp, .inr ⟨g, cap, cur.setIfInBounds j u, ?_, h2, ?_, ?_, h5, by simpa using h6, ?_⟩⟩, h.below.setCell (p := ⟨g, j, none⟩) h2 u⟩
    · rw [List.length_set, a2]
    · exact heap_setCell_same wr g j _ e _ h3
    · rw [List.length_set]; exact h4
    · rw [List.length_set, Array.toList_setIfInBounds, List.take_set, h7]
end Go.Proofs.YtncnogndopgknaaGreatDoor
namespace Go.Proofs.YtncnogndopgknaaGreatDoor
open Go.RowKit

def wth (c : UInt8) : Int := match T.hexV c with
  | some d => (d : Int)
  | none => -1
def dig16 : ByteArray := ⟨#[48, 49, 50, 51, 52, 53, 54, 55, 56, 57, 97, 98, 99, 100, 101, 102]⟩
end Go.Proofs.YtncnogndopgknaaGreatDoor
