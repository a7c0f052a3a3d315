import Derived.Test.YtncnogndopgknaaGreatDoorP19
import Derived.Test.YtncnogndopgknaaGreatDoorP01
namespace Go.Proofs.YtncnogndopgknaaGreatDoor
open Go.RowKit
def opsC (os : List S.Opn) : List Value := (os.map opC).flatten
theorem opsC_append (a b : List S.Opn) : opsC (a ++ b) = opsC a ++ opsC b := by simp [opsC]
structure HO (W wr : World) (v : Value) (os : List S.Opn) : Prop where
  own : wr.ownsRow W.heap.size 197 3 v os.length (opsC os)
  below : Below W.heap.size W wr
theorem HO.start {W w : World} (h : Below W.heap.size W w) : HO W w (.slice none 0 0) [] := ⟨World.ownsRow_nil w _ 197 3, h⟩
theorem HO.on {W wr w : World} {v : Value} {l : List S.Opn} (h : HO W wr v l) (hb : Below wr.heap.size wr w) : HO W w v l := ⟨own_below h.own hb, h.below.trans (hb.mono h.below.size)⟩
theorem HO.alloc {W wr : World} {v : Value} {l : List S.Opn} (h : HO W wr v l) (o : Obj) : HO W (wr.alloc o) v l := ⟨h.own.alloc o, h.below.alloc h.below.size o⟩
theorem Tryz.info197 : (Tryz.prog.info? 197).map (fun i => (i.zero, i.size, i.bytes)) = some (some (.agg #[.int .u32 0, .string ⟨#[]⟩, .int .i64 0]), 3, 32) := by kernel_rfl
theorem wpList_append_ops {P : Program} {W w : World} {ops : Array Oper} {rest : List Oper} {o : Oper} {a : Act} {Q : Exit → Act → World → Prop} (hgd : o.guard = none) (s x : Operand) (t : TypeId)
    (ho : o.op = .call { callee := .builtin .append, args := #[s, x], argTypes := #[t, t] }) (i : TypeInfo) (ht : P.underlying t = some (.slice 197)) (hi : P.info? 197 = some i) (hz : i.zero = some (.agg #[.int .u32 0, .string ⟨#[]⟩, .int .i64 0])) (hsize : i.size = 3) (hby : i.bytes = 32)
    (v : Value) (l : List S.Opn) (hs : a.eval s = v) (H : HO W w v l) (ad : Addr) (c : Nat) (m : S.Opn) (hx : a.eval x = .slice (some ad) 1 c) (hc : ∀ j u, (opC m)[j]? = some u → w.cell? (ad.add j) = some u) (h63 : l.length ≤ 1000000000)
    (h : ∀ v' w', HO W w' v' (l ++ [m]) → wpList P ops Q rest (a.put o.dst v') w') : wpList P ops Q (o :: rest) a w := by
  obtain ⟨v', w', hr, h1, h2, _⟩ := run_append_own (P := P) w W.heap.size t o.type 197 i _ 3 32 ht hi hz hsize hby rfl (by decide) v l.length _ H.own ad 1 c (opC m) rfl hc (by simp [opC, Value.oneCell']) (by unfold maxLen; omega) (by omega) H.below.size
  refine wpList_plain hgd fun K hK => ?_
  unfold Oper.wp execOp
  simp only [ho, resolve, invoke, builtin, Sem.run_bind, Sem.run_pure, Result.andThen_ok, List.map_toArray, List.map_cons, List.map_nil, hs, hx, hr]
  refine hK _ _ (h _ _ ⟨?_, H.below.grown h2 H.below.size fun g hg => (H.own.lt g hg).1⟩)
  rw [opsC_append, List.length_append]
  simpa [opsC] using h1
def WdAt (w : World) (ao : Option Addr) (rs : List T.Wd) : Prop := rs = [] ∨ ∃ b o, ao = some ⟨b, o, none⟩ ∧ b < w.heap.size ∧ ∀ i (h : i < rs.length), w.rangeAt b (o + i * 3) (wdC rs[i])
theorem WdAt.on {W w : World} {ao : Option Addr} {l : List T.Wd} (h : WdAt W ao l) (hb : Below W.heap.size W w) : WdAt w ao l := by
  rcases h with h0 | ⟨b, o, e, hlt, hc⟩
  · exact .inl h0
  · refine .inr ⟨b, o, e, Nat.lt_of_lt_of_le hlt hb.size, fun i hi j v hv => ?_⟩
    rw [hb.cell (p := ⟨b, o + i * 3 + j, none⟩) hlt]
    exact hc i hi j v hv
theorem size154 : (Tryz.prog.info? 154).map (·.size) = some 3 := by kernel_rfl
def RoPost (W : World) (line : Nat) (r : (Int × Nat) ⊕ List S.Opn) (x : Ending) (w' : World) : Prop :=
  match r with
  | .inl f => x = .returned (.tuple #[.slice none 0 0, bk f.1 line f.2]) ∧ Below W.heap.size W w'
  | .inr os => ∃ v, x = .returned (.tuple #[v, .nilIface]) ∧ HO W w' v os
theorem HO.up {W V wr : World} {v : Value} {os : List S.Opn} (h : HO V wr v os) (hV : Below W.heap.size W V) : HO W wr v os :=
  ⟨⟨h.own.1, h.own.2.imp id fun ⟨g, cap, cur, hv, hb, r⟩ => ⟨g, cap, cur, hv, Nat.le_trans hV.size hb, r⟩⟩, hV.trans (h.below.mono hV.size)⟩
set_option maxRecDepth 40000 in
set_option maxHeartbeats 4000000 in
theorem readOperands_any (W : World) (hT : TM W) (g : Nat) (line : Nat) (hgl : W.cell? ⟨g, 1, none⟩ = some (.int .i64 (line : Int))) (k : S.Kd) (h3 : k.shape.length ≤ 3) (hl : ∀ i (h : i < k.shape.length), letter6 k.shape[i].toNat) (name : T.Wd)
    (ao : Option Addr) (n c : Nat) (rs : List T.Wd) (hn : rs.length = n) (hn1 : n ≤ 1000000000) (hrs : ∀ w ∈ rs, w.text.length ≤ 1000000000) (hat : WdAt W ao rs) :
    Calls Tryz.prog 90 #[.pointer (some ⟨g, 0, none⟩), kdV k, wdV name, .slice ao n c] W fun x w' => RoPost W line (S.rdOps name.col (k.shape.map (·.toNat)) rs) x w' := by
  obtain ⟨i0, hi, hz0, hz1, hz2⟩ := info_parts Tryz.info197
  have HT : Hid (∀ x, Below W.heap.size W x → TM x) := hid (fun x hx => hT.on hx)
  obtain ⟨r, hr⟩ : ∃ r, S.rdOps name.col (k.shape.map (·.toNat)) rs = r := ⟨_, rfl⟩
  have HR : Hid (S.rdOps name.col (k.shape.map (·.toNat)) rs = r) := hr
  rw [hr]
  have hglt : g < W.heap.size := by
    rcases Nat.lt_or_ge g W.heap.size with h | h
    · exact h
    · simp [World.cell?, Array.getElem?_eq_none h] at hgl
  have HG : Hid (∀ x, Below W.heap.size W x → x.cell? ⟨g, 1, none⟩ = some (.int .i64 (line : Int))) := hid (fun x hx => by rw [hx.cell (p := ⟨g, 1, none⟩) hglt]; exact hgl)
  have HA : Hid (WdAt W ao rs) := hat
  have HN : Hid (rs.length = n) := hn
  have HRS : Hid (∀ w ∈ rs, w.text.length ≤ 1000000000) := hrs
  have HL : Hid (∀ i (h : i < k.shape.length), letter6 k.shape[i].toNat) := hl
  obtain ⟨m, hm⟩ : ∃ m, k.shape.length = m := ⟨_, rfl⟩
  have HM : Hid (k.shape.length = m) := hm
  have m3 : (m : Int) ≤ 3 := by omega
  have n1 : (n : Int) ≤ 1000000000 := by omega
  obtain ⟨sh, hsh⟩ : ∃ sh : ByteArray, sh = ⟨k.shape.toArray⟩ := ⟨_, rfl⟩
  have hsz : sh.size = m := by rw [hsh]; simp [ByteArray.size, hm]
  have HSX : Hid (∀ q (hq : q < k.shape.length) h, (sh[q]'h).toNat = k.shape[q].toNat) := hid (fun q hq h => by subst hsh; show k.shape.toArray[q].toNat = _; simp)
  obtain ⟨nt, nq, nc⟩ := name
  obtain ⟨kn, ks, kl, ko⟩ := k
  simp only at hm HM HSX HR HL
  simp only [kdV, kdC, wdV]
  rw [← hsh]
  clear hT hgl hat hn hrs hl hr h3 hm hsh
  go_enter Tryz.func90, Tryz.ntmps90
  go_wp2_with fail
  have HV : Hid (Below W.heap.size W ((W.alloc (Obj.cells #[Value.string { data := kn.toArray }, Value.string sh, Value.int IntKind.i64 ↑kl, Value.int IntKind.i64 ↑ko] 188)).alloc (Obj.cells #[Value.string { data := nt.toArray }, Value.bool nq, Value.int IntKind.i64 ↑nc] 154)) ∧ Cel ((W.alloc (Obj.cells #[Value.string { data := kn.toArray }, Value.string sh, Value.int IntKind.i64 ↑kl, Value.int IntKind.i64 ↑ko] 188)).alloc (Obj.cells #[Value.string { data := nt.toArray }, Value.bool nq, Value.int IntKind.i64 ↑nc] 154)) W.heap.size 188 [Value.string { data := kn.toArray }, Value.string sh, Value.int IntKind.i64 ↑kl, Value.int IntKind.i64 ↑ko] ∧ Cel ((W.alloc (Obj.cells #[Value.string { data := kn.toArray }, Value.string sh, Value.int IntKind.i64 ↑kl, Value.int IntKind.i64 ↑ko] 188)).alloc (Obj.cells #[Value.string { data := nt.toArray }, Value.bool nq, Value.int IntKind.i64 ↑nc] 154)) (W.heap.size + 1) 154 [Value.string { data := nt.toArray }, Value.bool nq, Value.int IntKind.i64 ↑nc]) := hid ⟨below_two _ _ _, (Cel.new W 188 _).on (below_one _ _), new_at2 _ _ _⟩
  generalize (W.alloc (Obj.cells #[Value.string { data := kn.toArray }, Value.string sh, Value.int IntKind.i64 ↑kl, Value.int IntKind.i64 ↑ko] 188)).alloc (Obj.cells #[Value.string { data := nt.toArray }, Value.bool nq, Value.int IntKind.i64 ↑nc] 154) = V at *
  generalize hgk : W.heap.size = gk at HV ⊢
  have HVW : Hid (Below W.heap.size W V) := hid (by rw [hgk]; exact HV.out.1)
  obtain ⟨gn, hgn⟩ : ∃ gn, gk + 1 = gn := ⟨_, rfl⟩
  rw [hgn] at HV ⊢
  have HK : Hid (∀ x, Below V.heap.size V x → x.cell? ⟨gk, 1, none⟩ = some (.string sh)) := hid (fun x hx => (HV.out.2.1.on hx).cell 1)
  have HNc : Hid (∀ x, Below V.heap.size V x → x.cell? ⟨gn, 2, none⟩ = some (.int .i64 (nc : Int))) := hid (fun x hx => (HV.out.2.2.on hx).cell 2)
  have HG2 : Hid (∀ x, Below V.heap.size V x → x.cell? ⟨g, 1, none⟩ = some (.int .i64 (line : Int))) := hid (fun x hx => HG.out x (HVW.out.trans (hx.mono HVW.out.size)))
  clear hgk hgn HV HG
  go_loopw [10, 11, 12, 13, 17] (fun v _ _ _ j wr => ∃ (q : Nat) (pre : List S.Opn), q ≤ m ∧ j = .int .i64 q ∧ Hid (HO V wr v pre ∧ pre.length = q ∧ q ≤ n ∧ (match S.rdOps nc ((ks.map (·.toNat)).drop q) (rs.drop q) with | .inl f => .inl f | .inr os => .inr (pre ++ os)) = r)) (fun _ _ _ _ j _ => m - (intOf j).toNat)
  case atStart => exact ⟨0, [], Nat.zero_le _, rfl, hid ⟨HO.start (Below.refl _ _), rfl, Nat.zero_le _, by rw [← HR.out]; simp only [List.drop_zero, List.nil_append]; cases S.rdOps nc (ks.map (·.toNat)) rs <;> rfl⟩⟩
  case round =>
    obtain ⟨q, pre, hq, rfl, HQ⟩ := hrel
    have hk1 := HK.out _ HQ.out.1.below
    by_cases hlt : q < m
    · have c1 : (q : Int) < (m : Int) := by omega
      have hqs : q < ks.length := by rw [HM.out]; exact hlt
      have hdr : (ks.map (·.toNat)).drop q = ks[q].toNat :: (ks.map (·.toNat)).drop (q + 1) := by rw [List.drop_eq_getElem_cons (by simp; exact hqs)]; simp
      by_cases hqn : q = n
      · subst hqn
        have hde : rs.drop q = [] := List.drop_of_length_le (by rw [HN.out]; exact Nat.le_refl _)
        have HF : Hid (r = .inl (62, nc)) := hid (by rw [← HQ.out.2.2.2, hdr, hde]; rfl)
        clear hde
        clear hdr hqs
        have HGx : Hid (∀ x, Below wr.heap.size wr x → x.cell? ⟨g, 1, none⟩ = some (.int .i64 (line : Int))) := hid (fun x hx => HG2.out x (HQ.out.1.below.trans (hx.mono HQ.out.1.below.size)))
        have HNx : Hid (∀ x, Below wr.heap.size wr x → x.cell? ⟨gn, 2, none⟩ = some (.int .i64 (nc : Int))) := hid (fun x hx => HNc.out x (HQ.out.1.below.trans (hx.mono HQ.out.1.below.size)))
        go_wp2_with fail
        refine wp_region_held_drew (S := fun x => Below wr.heap.size wr x) (by kernel_rfl) ((Below.refl _ _).drew) (fun hHeld => ?_)
        refine tk 0 ⟨some 24, .move (.tmp 0), 68, "program.go:112", #[], none⟩ (.pointer (some ⟨g, 0, none⟩)) ?_
        simp only [Act.put, List.setIfInBounds_toArray, List.set_cons_zero, List.set_cons_succ]
        refine tk 1 ⟨some 25, .nilCheck (.tmp 24), 0, "program.go:112", #[⟨0, .data⟩], none⟩ (.pointer (some ⟨g, 0, none⟩)) ?_
        simp only [Act.put, List.setIfInBounds_toArray, List.set_cons_zero, List.set_cons_succ]
        refine tk 2 ⟨some 26, .fieldAddr 77 (.tmp 25) 1, 0, "program.go:112", #[⟨1, .data⟩], none⟩ (.pointer (some ⟨g, 1, none⟩)) ?_
        simp only [Act.put, List.setIfInBounds_toArray, List.set_cons_zero, List.set_cons_succ]
        refine tk 3 ⟨some 27, .load 3 (.tmp 26), 3, "program.go:112", #[⟨2, .data⟩], none⟩ (.int .i64 (line : Int)) ?_ (hy := Or.inl ⟨by rfl, by intro w hSw; have hcc := HGx.out w hSw; go_simp⟩)
        simp only [Act.put, List.setIfInBounds_toArray, List.set_cons_zero, List.set_cons_succ]
        refine tk 4 ⟨some 28, .fieldAddr 154 (.tmp 6) 2, 0, "program.go:112", #[], none⟩ (.pointer (some ⟨gn, 2, none⟩)) ?_
        simp only [Act.put, List.setIfInBounds_toArray, List.set_cons_zero, List.set_cons_succ]
        refine tk 5 ⟨some 29, .load 3 (.tmp 28), 3, "program.go:112", #[⟨4, .data⟩], none⟩ (.int .i64 (nc : Int)) ?_ (hy := Or.inl ⟨by rfl, by intro w hSw; have hcc := HNx.out w hSw; go_simp⟩)
        simp only [Act.put, List.setIfInBounds_toArray, List.set_cons_zero, List.set_cons_succ]
        refine wpAnyH_ready (rs := [6]) (by kernel_rfl) (by simp) (AllReadyH.cons (o := ⟨some 30, .call { callee := .value (.func 38), args := #[.const (.int .i64 62), .tmp 27, .tmp 29], argTypes := #[25, 3, 3] }, 70, "program.go:112", #[⟨3, .data⟩, ⟨5, .data⟩], none⟩) rfl (fun KQ hK => ?_) AllReadyH.nil)
        go_simp
        refine (faultAt_any _ 62 (line : Int) (nc : Int)).mono ?_
        rintro e y1 ⟨rfl, rfl⟩
        have HY1 : Hid (Below wr.heap.size wr wr.drew) := hid (Below.refl _ _).drew
        go_wp2_with fail
        refine hK.out _ _ HY1.out (fun hHeld => ?_)
        clear hK KQ
        try simp only [Act.put, List.setIfInBounds_toArray, List.set_cons_zero, List.set_cons_succ]
        refine wpAnyH_ready (rs := [7]) (by kernel_rfl) (by simp) (AllReadyH.cons (o := ⟨some 8, .assign (.const (.slice none 0 0)), 192, "program.go:112", #[⟨6, .chain⟩, { on := 0, ground := .textOnly Departure.lateStores }, { on := 1, ground := .textOnly Departure.lateStores }, { on := 2, ground := .textOnly Departure.lateStores }, { on := 3, ground := .textOnly Departure.lateStores }, { on := 4, ground := .textOnly Departure.lateStores }, { on := 5, ground := .textOnly Departure.lateStores }, { on := 6, ground := .textOnly Departure.lateStoresUnsure }], none⟩) rfl (fun KQ hK => ?_) AllReadyH.nil)
        go_simp
        refine hK.out _ _ HY1.out (fun hHeld => ?_)
        clear hK KQ
        try simp only [Act.put, List.setIfInBounds_toArray, List.set_cons_zero, List.set_cons_succ]
        refine wpAnyH_ready (rs := [8]) (by kernel_rfl) (by simp) (AllReadyH.cons (o := ⟨some 9, .assign (.tmp 30), 70, "program.go:112", #[⟨6, .data⟩, ⟨7, .chain⟩, ⟨0, .phase⟩, ⟨1, .phase⟩, ⟨2, .phase⟩, ⟨3, .phase⟩, ⟨4, .phase⟩, ⟨5, .phase⟩, ⟨6, .phase⟩, ⟨7, .phase⟩], none⟩) rfl (fun KQ hK => ?_) AllReadyH.nil)
        go_simp
        refine hK.out _ _ HY1.out (fun hHeld => ?_)
        clear hK KQ
        try simp only [Act.put, List.setIfInBounds_toArray, List.set_cons_zero, List.set_cons_succ]
        refine wpAnyH_done (by kernel_rfl) ?_ _
        clear hHeld
        go_wp2_with fail
        go_ret2
        rw [HF.out]
        exact ⟨rfl, HVW.out.trans ((below_on HQ.out.1.below HY1.out).mono HVW.out.size)⟩
      · have hqn' : q < n := by have := HQ.out.2.2.1; omega
        have hqr : q < rs.length := by rw [HN.out]; exact hqn'
        have c2 : ((q : Int) == (n : Int)) = false := by simp; omega
        have c3 : (q : Int) < (n : Int) := by omega
        have hdr2 : rs.drop q = rs[q] :: rs.drop (q + 1) := List.drop_eq_getElem_cons hqr
        obtain ⟨l, hlq⟩ : ∃ l, ks[q].toNat = l := ⟨_, rfl⟩
        have hlk : ∀ h, (sh[q]'h).toNat = l := fun h => by rw [HSX.out q hqs h, hlq]
        have HLL : Hid (letter6 l) := hid (by have := HL.out q hqs; rw [hlq] at this; exact this)
        have HTX : Hid (rs[q].text.length ≤ 1000000000) := hid (HRS.out _ (List.getElem_mem _))
        rcases HA.out with h0 | ⟨b, o, rfl, hb, hc⟩
        · rw [h0] at hqr; simp at hqr
        have hcq := hc q hqr
        have HRow : Hid (∀ x, Below wr.heap.size wr x → x.rangeAt b (o + q * 3) (wdC rs[q])) := hid (fun x hx j v hv => by
          have hB : Below W.heap.size W x := HVW.out.trans ((HQ.out.1.below.trans (hx.mono HQ.out.1.below.size)).mono HVW.out.size)
          rw [hB.cell (p := ⟨b, o + q * 3 + j, none⟩) hb]
          exact hcq j v hv)
        have HCol : Hid (∀ x, Below wr.heap.size wr x → x.cell? ⟨b, o + q * 3 + 2, none⟩ = some (.int .i64 (rs[q].col : Int))) := hid (fun x hx => HRow.out x hx 2 _ rfl)
        have HKx : Hid (∀ x, Below wr.heap.size wr x → x.cell? ⟨gk, 1, none⟩ = some (.string sh)) := hid (fun x hx => HK.out x (HQ.out.1.below.trans (hx.mono HQ.out.1.below.size)))
        have HGx : Hid (∀ x, Below wr.heap.size wr x → x.cell? ⟨g, 1, none⟩ = some (.int .i64 (line : Int))) := hid (fun x hx => HG2.out x (HQ.out.1.below.trans (hx.mono HQ.out.1.below.size)))
        have H120 : Hid (∀ x, Below wr.heap.size wr x → Calls Tryz.prog 120 #[.int .u8 (l : Int), wdV rs[q]] x fun y w' => OpPost (S.readOperand l rs[q]) y ∧ Below x.heap.size x w') := hid (fun x hx => readOperand_any x (HT.out x (HVW.out.trans ((HQ.out.1.below.trans (hx.mono HQ.out.1.below.size)).mono HVW.out.size))) l HLL.out _ rfl rs[q] HTX.out)
        have HST : Hid ((match S.readOperand l rs[q] with | none => .inl (61, rs[q].col) | some x => (match S.rdOps nc ((ks.map (·.toNat)).drop (q + 1)) (rs.drop (q + 1)) with | .inl f => .inl f | .inr os => .inr (pre ++ x :: os))) = r) := hid (by
          rw [← HQ.out.2.2.2, hdr, hdr2, hlq]
          simp only [S.rdOps]
          cases S.readOperand l rs[q] with
          | none => rfl
          | some x => cases S.rdOps nc ((ks.map (·.toNat)).drop (q + 1)) (rs.drop (q + 1)) <;> rfl)
        have k0 : 0 ≤ (q : Int) := by omega
        clear hc hcq hdr hdr2 hlq hk1
        generalize rs[q] = rq at *
        clear hqs hqr
        generalize S.readOperand l rq = ro at *
        go_wp2_with fail
        refine wp_region_held_drew (S := fun x => Below wr.heap.size wr x) (by kernel_rfl) ((Below.refl _ _).drew) (fun hHeld => ?_)
        refine tk 0 ⟨some 32, .fieldAddr 188 (.tmp 5) 1, 0, "program.go:114", #[], none⟩ (.pointer (some ⟨gk, 1, none⟩)) ?_
        simp only [Act.put, List.setIfInBounds_toArray, List.set_cons_zero, List.set_cons_succ]
        refine tk 1 ⟨some 33, .load 9 (.tmp 32), 9, "program.go:114", #[⟨0, .data⟩], none⟩ (.string sh) ?_ (hy := Or.inl ⟨by rfl, by intro w hSw; have hcc := HKx.out w hSw; go_simp⟩)
        simp only [Act.put, List.setIfInBounds_toArray, List.set_cons_zero, List.set_cons_succ]
        refine tk 2 ⟨some 34, .move (.tmp 11), 3, "program.go:114", #[], none⟩ (.int .i64 (q : Int)) ?_
        simp only [Act.put, List.setIfInBounds_toArray, List.set_cons_zero, List.set_cons_succ]
        refine tk 3 ⟨some 35, .index 9 (.tmp 33) (.tmp 34), 5, "program.go:114", #[⟨1, .data⟩, ⟨2, .data⟩], none⟩ (.int .u8 (l : Int)) ?_
        simp only [Act.put, List.setIfInBounds_toArray, List.set_cons_zero, List.set_cons_succ]
        refine tk 4 ⟨some 36, .move (.tmp 3), 149, "program.go:114", #[], none⟩ (.slice (some ⟨b, o, none⟩) n c) ?_
        simp only [Act.put, List.setIfInBounds_toArray, List.set_cons_zero, List.set_cons_succ]
        refine tk 5 ⟨some 37, .move (.tmp 11), 3, "program.go:114", #[], none⟩ (.int .i64 (q : Int)) ?_
        simp only [Act.put, List.setIfInBounds_toArray, List.set_cons_zero, List.set_cons_succ]
        refine tk 6 ⟨some 38, .indexAddr 149 (.tmp 36) (.tmp 37), 0, "program.go:114", #[⟨4, .data⟩, ⟨5, .data⟩], none⟩ (.pointer (some ⟨b, o + q * 3, none⟩)) ?_
        simp only [Act.put, List.setIfInBounds_toArray, List.set_cons_zero, List.set_cons_succ]
        refine tk 7 ⟨some 39, .load 154 (.tmp 38), 154, "program.go:114", #[⟨6, .data⟩], none⟩ (wdV rq) ?_ (hy := yieldsIf_load_mid (by rfl) _ _ rfl _ _ rfl _ _ (fun w hSw => HRow.out w hSw) Tryz.underlying154 rfl size154)
        simp only [Act.put, List.setIfInBounds_toArray, List.set_cons_zero, List.set_cons_succ]
        have Bx0 : Below wr.heap.size wr wr.drew := (Below.refl _ _).drew
        generalize wr.drew = x0 at *
        refine wpAnyH_ready (rs := [8, 12]) (by kernel_rfl) (by simp) (AllReadyH.cons (o := ⟨some 40, .call { callee := .value (.func 120), args := #[.tmp 35, .tmp 39], argTypes := #[5, 154] }, 235, "program.go:114", #[⟨3, .data⟩, ⟨7, .data⟩], none⟩) rfl (fun KQ hK => ?_) (AllReadyH.cons (o := ⟨some 12, .alloc 197, 0, "program.go:114", #[], none⟩) rfl (fun KQ hK => ?_) AllReadyH.nil))
        · go_simp
          refine (H120.out _ Bx0).mono ?_
          rintro e w1 ⟨⟨nv, ns, nk, rfl, hop⟩, hb1⟩
          have B1 : Below wr.heap.size wr w1 := below_on Bx0 hb1
          go_wp2_with fail
          refine hK.out _ _ B1 (fun hHeld => ?_)
          clear hK KQ
          try simp only [Act.put, List.setIfInBounds_toArray, List.set_cons_zero, List.set_cons_succ]
          refine tk 9 ⟨some 31, .move (.tmp 40), 235, "program.go:114", #[⟨8, .data⟩], none⟩ (.tuple #[.agg #[.int .u32 nv, .string ns, .int .i64 nk], .bool ro.isSome]) ?_
          simp only [Act.put, List.setIfInBounds_toArray, List.set_cons_zero, List.set_cons_succ]
          refine tk 10 ⟨some 41, .extract (.tmp 31) 0, 197, "program.go:114", #[⟨9, .data⟩], none⟩ (.agg #[.int .u32 nv, .string ns, .int .i64 nk]) ?_
          simp only [Act.put, List.setIfInBounds_toArray, List.set_cons_zero, List.set_cons_succ]
          refine tk 11 ⟨some 42, .extract (.tmp 31) 1, 4, "program.go:114", #[⟨9, .data⟩, { on := 13, ground := .gcOnly Departure.lateStores }], none⟩ (.bool ro.isSome) ?_
          simp only [Act.put, List.setIfInBounds_toArray, List.set_cons_zero, List.set_cons_succ]
          refine wpAnyH_ready (rs := [12]) (by kernel_rfl) (by simp) (AllReadyH.cons (o := ⟨some 12, .alloc 197, 0, "program.go:114", #[], none⟩) rfl (fun KQ hK => ?_) AllReadyH.nil)
          go_simp
          have Bal : Below wr.heap.size wr (w1.alloc (Obj.cells #[Value.int .u32 0, Value.string ⟨#[]⟩, Value.int .i64 0] 197)) := Below.alloc B1 (Below.size B1) _
          have CF : Cel (w1.alloc (Obj.cells #[Value.int .u32 0, Value.string ⟨#[]⟩, Value.int .i64 0] 197)) w1.heap.size 197 [Value.int .u32 0, Value.string ⟨#[]⟩, Value.int .i64 0] := Cel.new _ _ _
          have zA : wr.heap.size ≤ w1.heap.size := Below.size B1
          refine hK.out _ _ Bal (fun hHeld => ?_)
          clear hK KQ
          try simp only [Act.put, List.setIfInBounds_toArray, List.set_cons_zero, List.set_cons_succ]
          generalize w1.alloc (Obj.cells #[Value.int .u32 0, Value.string ⟨#[]⟩, Value.int .i64 0] 197) = wal at *
          generalize w1.heap.size = gf at *
          refine wpAnyH_ready (rs := [13]) (by kernel_rfl) (by simp) (AllReadyH.cons (o := ⟨none, .store 197 (.tmp 12) (.tmp 41), 0, "program.go:114", #[⟨12, .data⟩, ⟨10, .data⟩, ⟨8, .chain⟩, ⟨0, .phase⟩, ⟨1, .phase⟩, ⟨2, .phase⟩, ⟨3, .phase⟩, ⟨4, .phase⟩, ⟨5, .phase⟩, ⟨6, .phase⟩, ⟨7, .phase⟩, ⟨8, .phase⟩, ⟨9, .phase⟩, ⟨10, .phase⟩, { on := 11, ground := .textOnly Departure.lateStores }, ⟨12, .phase⟩], none⟩) rfl (fun KQ hK => ?_) AllReadyH.nil)
          rw [if_pos (by rfl)]
          refine wp_store_st 197 _ _ rfl gf [Value.int .u32 nv, Value.string ns, Value.int .i64 nk] rfl rfl CF size197 rfl rfl ?_
          refine hK.out _ _ (Bal.trans ((but_setRow _ _ _).below zA (Below.size Bal))) (fun hHeld => ?_)
          clear hK KQ
          simp only [Act.put]
          refine wpAnyH_ready (rs := [14]) (by kernel_rfl) (by simp) (AllReadyH.cons (o := ⟨some 13, .assign (.tmp 42), 4, "program.go:114", #[⟨11, .data⟩, ⟨13, .chain⟩, ⟨0, .phase⟩, ⟨1, .phase⟩, ⟨2, .phase⟩, ⟨3, .phase⟩, ⟨4, .phase⟩, ⟨5, .phase⟩, ⟨6, .phase⟩, ⟨7, .phase⟩, ⟨8, .phase⟩, ⟨9, .phase⟩, ⟨10, .phase⟩, ⟨11, .phase⟩, ⟨12, .phase⟩, ⟨13, .phase⟩], none⟩) rfl (fun KQ hK => ?_) AllReadyH.nil)
          go_simp
          refine hK.out _ _ (Bal.trans ((but_setRow _ _ _).below zA (Below.size Bal))) (fun hHeld => ?_)
          clear hK KQ
          try simp only [Act.put, List.setIfInBounds_toArray, List.set_cons_zero, List.set_cons_succ]
          refine wpAnyH_done (by kernel_rfl) ?_ _
          have HEND : Hid (Below wr.heap.size wr (wal.setRow gf [Value.int .u32 nv, Value.string ns, Value.int .i64 nk].toArray)) := hid (Bal.trans ((but_setRow _ _ _).below zA (Below.size Bal)))
          have HCE : Hid (Cel (wal.setRow gf [Value.int .u32 nv, Value.string ns, Value.int .i64 nk].toArray) gf 197 [Value.int .u32 nv, Value.string ns, Value.int .i64 nk]) := hid (CF.set [Value.int .u32 nv, Value.string ns, Value.int .i64 nk])
          clear hHeld
          generalize (wal.setRow gf [Value.int .u32 nv, Value.string ns, Value.int .i64 nk].toArray) = w9 at *
          have HOP : Hid (∀ u, ro = some u → nv = (u.val : Int) ∧ ns = ⟨u.lab.toArray⟩ ∧ nk = (u.col : Int)) := hop
          clear hop
          cases ro with
          | none =>
            have HF : Hid (r = .inl (61, rq.col)) := hid HST.out.symm
            have HGy : Hid (∀ x, Below w9.heap.size w9 x → x.cell? ⟨g, 1, none⟩ = some (.int .i64 (line : Int))) := hid (fun x hx => HGx.out x (below_on HEND.out hx))
            have HCy : Hid (∀ x, Below w9.heap.size w9 x → x.cell? ⟨b, o + q * 3 + 2, none⟩ = some (.int .i64 (rq.col : Int))) := hid (fun x hx => HCol.out x (below_on HEND.out hx))
            go_wp2_with fail
            refine wp_region_held_drew (S := fun x => Below w9.heap.size w9 x) (by kernel_rfl) ((Below.refl _ _).drew) (fun hHeld => ?_)
            refine tk 0 ⟨some 45, .move (.tmp 0), 68, "program.go:116", #[], none⟩ (.pointer (some ⟨g, 0, none⟩)) ?_
            simp only [Act.put, List.setIfInBounds_toArray, List.set_cons_zero, List.set_cons_succ]
            refine tk 1 ⟨some 46, .nilCheck (.tmp 45), 0, "program.go:116", #[⟨0, .data⟩], none⟩ (.pointer (some ⟨g, 0, none⟩)) ?_
            simp only [Act.put, List.setIfInBounds_toArray, List.set_cons_zero, List.set_cons_succ]
            refine tk 2 ⟨some 47, .fieldAddr 77 (.tmp 46) 1, 0, "program.go:116", #[⟨1, .data⟩], none⟩ (.pointer (some ⟨g, 1, none⟩)) ?_
            simp only [Act.put, List.setIfInBounds_toArray, List.set_cons_zero, List.set_cons_succ]
            refine tk 3 ⟨some 48, .load 3 (.tmp 47), 3, "program.go:116", #[⟨2, .data⟩], none⟩ (.int .i64 (line : Int)) ?_ (hy := Or.inl ⟨by rfl, by intro w hSw; have hcc := HGy.out w hSw; go_simp⟩)
            simp only [Act.put, List.setIfInBounds_toArray, List.set_cons_zero, List.set_cons_succ]
            refine tk 4 ⟨some 49, .move (.tmp 3), 149, "program.go:116", #[], none⟩ (.slice (some ⟨b, o, none⟩) n c) ?_
            simp only [Act.put, List.setIfInBounds_toArray, List.set_cons_zero, List.set_cons_succ]
            refine tk 5 ⟨some 50, .move (.tmp 11), 3, "program.go:116", #[], none⟩ (.int .i64 (q : Int)) ?_
            simp only [Act.put, List.setIfInBounds_toArray, List.set_cons_zero, List.set_cons_succ]
            refine tk 6 ⟨some 51, .indexAddr 149 (.tmp 49) (.tmp 50), 0, "program.go:116", #[⟨4, .data⟩, ⟨5, .data⟩], none⟩ (.pointer (some ⟨b, o + q * 3, none⟩)) ?_
            simp only [Act.put, List.setIfInBounds_toArray, List.set_cons_zero, List.set_cons_succ]
            refine tk 7 ⟨some 52, .fieldAddr 154 (.tmp 51) 2, 0, "program.go:116", #[⟨6, .data⟩], none⟩ (.pointer (some ⟨b, o + q * 3 + 2, none⟩)) ?_
            simp only [Act.put, List.setIfInBounds_toArray, List.set_cons_zero, List.set_cons_succ]
            refine tk 8 ⟨some 53, .load 3 (.tmp 52), 3, "program.go:116", #[⟨7, .data⟩], none⟩ (.int .i64 (rq.col : Int)) ?_ (hy := Or.inl ⟨by rfl, by intro w hSw; have hcc := HCy.out w hSw; go_simp⟩)
            simp only [Act.put, List.setIfInBounds_toArray, List.set_cons_zero, List.set_cons_succ]
            refine wpAnyH_ready (rs := [9]) (by kernel_rfl) (by simp) (AllReadyH.cons (o := ⟨some 54, .call { callee := .value (.func 38), args := #[.const (.int .i64 61), .tmp 48, .tmp 53], argTypes := #[25, 3, 3] }, 70, "program.go:116", #[⟨3, .data⟩, ⟨8, .data⟩], none⟩) rfl (fun KQ hK => ?_) AllReadyH.nil)
            go_simp
            refine (faultAt_any _ 61 (line : Int) (rq.col : Int)).mono ?_
            rintro e y1 ⟨rfl, rfl⟩
            have HY1 : Hid (Below w9.heap.size w9 w9.drew) := hid (Below.refl _ _).drew
            go_wp2_with fail
            refine hK.out _ _ HY1.out (fun hHeld => ?_)
            clear hK KQ
            try simp only [Act.put, List.setIfInBounds_toArray, List.set_cons_zero, List.set_cons_succ]
            refine wpAnyH_ready (rs := [10]) (by kernel_rfl) (by simp) (AllReadyH.cons (o := ⟨some 8, .assign (.const (.slice none 0 0)), 192, "program.go:116", #[⟨9, .chain⟩, { on := 0, ground := .textOnly Departure.lateStores }, { on := 1, ground := .textOnly Departure.lateStores }, { on := 2, ground := .textOnly Departure.lateStores }, { on := 3, ground := .textOnly Departure.lateStores }, { on := 4, ground := .textOnly Departure.lateStores }, { on := 5, ground := .textOnly Departure.lateStores }, { on := 6, ground := .textOnly Departure.lateStores }, { on := 7, ground := .textOnly Departure.lateStores }, { on := 8, ground := .textOnly Departure.lateStores }, { on := 9, ground := .textOnly Departure.lateStoresUnsure }], none⟩) rfl (fun KQ hK => ?_) AllReadyH.nil)
            go_simp
            refine hK.out _ _ HY1.out (fun hHeld => ?_)
            clear hK KQ
            try simp only [Act.put, List.setIfInBounds_toArray, List.set_cons_zero, List.set_cons_succ]
            refine wpAnyH_ready (rs := [11]) (by kernel_rfl) (by simp) (AllReadyH.cons (o := ⟨some 9, .assign (.tmp 54), 70, "program.go:116", #[⟨9, .data⟩, ⟨10, .chain⟩, ⟨0, .phase⟩, ⟨1, .phase⟩, ⟨2, .phase⟩, ⟨3, .phase⟩, ⟨4, .phase⟩, ⟨5, .phase⟩, ⟨6, .phase⟩, ⟨7, .phase⟩, ⟨8, .phase⟩, ⟨9, .phase⟩, ⟨10, .phase⟩], none⟩) rfl (fun KQ hK => ?_) AllReadyH.nil)
            go_simp
            refine hK.out _ _ HY1.out (fun hHeld => ?_)
            clear hK KQ
            try simp only [Act.put, List.setIfInBounds_toArray, List.set_cons_zero, List.set_cons_succ]
            refine wpAnyH_done (by kernel_rfl) ?_ _
            clear hHeld
            go_wp2_with fail
            go_ret2
            rw [HF.out]
            exact ⟨rfl, HVW.out.trans ((below_on HQ.out.1.below (below_on HEND.out HY1.out)).mono HVW.out.size)⟩
          | some u =>
            obtain ⟨rfl, rfl, rfl⟩ := HOP.out u rfl
            have HO9 : Hid (HO V w9 u10 pre) := hid (HQ.out.1.on HEND.out)
            have e0 : w9.cell? ⟨gf, 0, none⟩ = some (.int .u32 (u.val : Int)) := HCE.out.cell 0
            have e1 : w9.cell? ⟨gf, 1, none⟩ = some (.string ⟨u.lab.toArray⟩) := HCE.out.cell 1
            have e2 : w9.cell? ⟨gf, 2, none⟩ = some (.int .i64 (u.col : Int)) := HCE.out.cell 2
            go_wp2_with (at_builtin; refine wpList_append_ops rfl _ _ 192 rfl i0 Tryz.underlying192 hi hz0 hz1 hz2 _ _ rfl (HO9.out.alloc _) _ _ u rfl (cells_new3 _ _ _ (opC u) rfl) (by have := HQ.out.2.1; omega) ?_; intro v6 w6 F6)
            go_roundw
            case measure => simp [intOf] <;> omega
            case rel => exact ⟨q + 1, pre ++ [u], by omega, by go_num, hid ⟨F6, by rw [List.length_append, HQ.out.2.1]; rfl, by omega, by rw [← HST.out]; cases S.rdOps nc ((ks.map (·.toNat)).drop (q + 1)) (rs.drop (q + 1)) <;> simp⟩⟩
        · go_simp
          have Bal : Below wr.heap.size wr (x0.alloc (Obj.cells #[Value.int .u32 0, Value.string ⟨#[]⟩, Value.int .i64 0] 197)) := Below.alloc Bx0 (Below.size Bx0) _
          have CF : Cel (x0.alloc (Obj.cells #[Value.int .u32 0, Value.string ⟨#[]⟩, Value.int .i64 0] 197)) x0.heap.size 197 [Value.int .u32 0, Value.string ⟨#[]⟩, Value.int .i64 0] := Cel.new _ _ _
          have zA : wr.heap.size ≤ x0.heap.size := Below.size Bx0
          refine hK.out _ _ Bal (fun hHeld => ?_)
          clear hK KQ
          try simp only [Act.put, List.setIfInBounds_toArray, List.set_cons_zero, List.set_cons_succ]
          generalize x0.alloc (Obj.cells #[Value.int .u32 0, Value.string ⟨#[]⟩, Value.int .i64 0] 197) = wal at *
          generalize x0.heap.size = gf at *
          refine wpAnyH_ready (rs := [8]) (by kernel_rfl) (by simp) (AllReadyH.cons (o := ⟨some 40, .call { callee := .value (.func 120), args := #[.tmp 35, .tmp 39], argTypes := #[5, 154] }, 235, "program.go:114", #[⟨3, .data⟩, ⟨7, .data⟩], none⟩) rfl (fun KQ hK => ?_) AllReadyH.nil)
          go_simp
          refine (H120.out _ Bal).mono ?_
          rintro e w1 ⟨⟨nv, ns, nk, rfl, hop⟩, hb1⟩
          have B1 : Below wr.heap.size wr w1 := below_on Bal hb1
          have CF1 := CF.on hb1
          go_wp2_with fail
          refine hK.out _ _ B1 (fun hHeld => ?_)
          clear hK KQ
          try simp only [Act.put, List.setIfInBounds_toArray, List.set_cons_zero, List.set_cons_succ]
          refine tk 9 ⟨some 31, .move (.tmp 40), 235, "program.go:114", #[⟨8, .data⟩], none⟩ (.tuple #[.agg #[.int .u32 nv, .string ns, .int .i64 nk], .bool ro.isSome]) ?_
          simp only [Act.put, List.setIfInBounds_toArray, List.set_cons_zero, List.set_cons_succ]
          refine tk 10 ⟨some 41, .extract (.tmp 31) 0, 197, "program.go:114", #[⟨9, .data⟩], none⟩ (.agg #[.int .u32 nv, .string ns, .int .i64 nk]) ?_
          simp only [Act.put, List.setIfInBounds_toArray, List.set_cons_zero, List.set_cons_succ]
          refine tk 11 ⟨some 42, .extract (.tmp 31) 1, 4, "program.go:114", #[⟨9, .data⟩, { on := 13, ground := .gcOnly Departure.lateStores }], none⟩ (.bool ro.isSome) ?_
          simp only [Act.put, List.setIfInBounds_toArray, List.set_cons_zero, List.set_cons_succ]
          refine wpAnyH_ready (rs := [13]) (by kernel_rfl) (by simp) (AllReadyH.cons (o := ⟨none, .store 197 (.tmp 12) (.tmp 41), 0, "program.go:114", #[⟨12, .data⟩, ⟨10, .data⟩, ⟨8, .chain⟩, ⟨0, .phase⟩, ⟨1, .phase⟩, ⟨2, .phase⟩, ⟨3, .phase⟩, ⟨4, .phase⟩, ⟨5, .phase⟩, ⟨6, .phase⟩, ⟨7, .phase⟩, ⟨8, .phase⟩, ⟨9, .phase⟩, ⟨10, .phase⟩, { on := 11, ground := .textOnly Departure.lateStores }, ⟨12, .phase⟩], none⟩) rfl (fun KQ hK => ?_) AllReadyH.nil)
          rw [if_pos (by rfl)]
          refine wp_store_st 197 _ _ rfl gf [Value.int .u32 nv, Value.string ns, Value.int .i64 nk] rfl rfl CF1 size197 rfl rfl ?_
          refine hK.out _ _ (B1.trans ((but_setRow _ _ _).below zA (Below.size B1))) (fun hHeld => ?_)
          clear hK KQ
          simp only [Act.put]
          refine wpAnyH_ready (rs := [14]) (by kernel_rfl) (by simp) (AllReadyH.cons (o := ⟨some 13, .assign (.tmp 42), 4, "program.go:114", #[⟨11, .data⟩, ⟨13, .chain⟩, ⟨0, .phase⟩, ⟨1, .phase⟩, ⟨2, .phase⟩, ⟨3, .phase⟩, ⟨4, .phase⟩, ⟨5, .phase⟩, ⟨6, .phase⟩, ⟨7, .phase⟩, ⟨8, .phase⟩, ⟨9, .phase⟩, ⟨10, .phase⟩, ⟨11, .phase⟩, ⟨12, .phase⟩, ⟨13, .phase⟩], none⟩) rfl (fun KQ hK => ?_) AllReadyH.nil)
          go_simp
          refine hK.out _ _ (B1.trans ((but_setRow _ _ _).below zA (Below.size B1))) (fun hHeld => ?_)
          clear hK KQ
          try simp only [Act.put, List.setIfInBounds_toArray, List.set_cons_zero, List.set_cons_succ]
          refine wpAnyH_done (by kernel_rfl) ?_ _
          have HEND : Hid (Below wr.heap.size wr (w1.setRow gf [Value.int .u32 nv, Value.string ns, Value.int .i64 nk].toArray)) := hid (B1.trans ((but_setRow _ _ _).below zA (Below.size B1)))
          have HCE : Hid (Cel (w1.setRow gf [Value.int .u32 nv, Value.string ns, Value.int .i64 nk].toArray) gf 197 [Value.int .u32 nv, Value.string ns, Value.int .i64 nk]) := hid (CF1.set [Value.int .u32 nv, Value.string ns, Value.int .i64 nk])
          clear hHeld
          generalize (w1.setRow gf [Value.int .u32 nv, Value.string ns, Value.int .i64 nk].toArray) = w9 at *
          have HOP : Hid (∀ u, ro = some u → nv = (u.val : Int) ∧ ns = ⟨u.lab.toArray⟩ ∧ nk = (u.col : Int)) := hop
          clear hop
          cases ro with
          | none =>
            have HF : Hid (r = .inl (61, rq.col)) := hid HST.out.symm
            have HGy : Hid (∀ x, Below w9.heap.size w9 x → x.cell? ⟨g, 1, none⟩ = some (.int .i64 (line : Int))) := hid (fun x hx => HGx.out x (below_on HEND.out hx))
            have HCy : Hid (∀ x, Below w9.heap.size w9 x → x.cell? ⟨b, o + q * 3 + 2, none⟩ = some (.int .i64 (rq.col : Int))) := hid (fun x hx => HCol.out x (below_on HEND.out hx))
            go_wp2_with fail
            refine wp_region_held_drew (S := fun x => Below w9.heap.size w9 x) (by kernel_rfl) ((Below.refl _ _).drew) (fun hHeld => ?_)
            refine tk 0 ⟨some 45, .move (.tmp 0), 68, "program.go:116", #[], none⟩ (.pointer (some ⟨g, 0, none⟩)) ?_
            simp only [Act.put, List.setIfInBounds_toArray, List.set_cons_zero, List.set_cons_succ]
            refine tk 1 ⟨some 46, .nilCheck (.tmp 45), 0, "program.go:116", #[⟨0, .data⟩], none⟩ (.pointer (some ⟨g, 0, none⟩)) ?_
            simp only [Act.put, List.setIfInBounds_toArray, List.set_cons_zero, List.set_cons_succ]
            refine tk 2 ⟨some 47, .fieldAddr 77 (.tmp 46) 1, 0, "program.go:116", #[⟨1, .data⟩], none⟩ (.pointer (some ⟨g, 1, none⟩)) ?_
            simp only [Act.put, List.setIfInBounds_toArray, List.set_cons_zero, List.set_cons_succ]
            refine tk 3 ⟨some 48, .load 3 (.tmp 47), 3, "program.go:116", #[⟨2, .data⟩], none⟩ (.int .i64 (line : Int)) ?_ (hy := Or.inl ⟨by rfl, by intro w hSw; have hcc := HGy.out w hSw; go_simp⟩)
            simp only [Act.put, List.setIfInBounds_toArray, List.set_cons_zero, List.set_cons_succ]
            refine tk 4 ⟨some 49, .move (.tmp 3), 149, "program.go:116", #[], none⟩ (.slice (some ⟨b, o, none⟩) n c) ?_
            simp only [Act.put, List.setIfInBounds_toArray, List.set_cons_zero, List.set_cons_succ]
            refine tk 5 ⟨some 50, .move (.tmp 11), 3, "program.go:116", #[], none⟩ (.int .i64 (q : Int)) ?_
            simp only [Act.put, List.setIfInBounds_toArray, List.set_cons_zero, List.set_cons_succ]
            refine tk 6 ⟨some 51, .indexAddr 149 (.tmp 49) (.tmp 50), 0, "program.go:116", #[⟨4, .data⟩, ⟨5, .data⟩], none⟩ (.pointer (some ⟨b, o + q * 3, none⟩)) ?_
            simp only [Act.put, List.setIfInBounds_toArray, List.set_cons_zero, List.set_cons_succ]
            refine tk 7 ⟨some 52, .fieldAddr 154 (.tmp 51) 2, 0, "program.go:116", #[⟨6, .data⟩], none⟩ (.pointer (some ⟨b, o + q * 3 + 2, none⟩)) ?_
            simp only [Act.put, List.setIfInBounds_toArray, List.set_cons_zero, List.set_cons_succ]
            refine tk 8 ⟨some 53, .load 3 (.tmp 52), 3, "program.go:116", #[⟨7, .data⟩], none⟩ (.int .i64 (rq.col : Int)) ?_ (hy := Or.inl ⟨by rfl, by intro w hSw; have hcc := HCy.out w hSw; go_simp⟩)
            simp only [Act.put, List.setIfInBounds_toArray, List.set_cons_zero, List.set_cons_succ]
            refine wpAnyH_ready (rs := [9]) (by kernel_rfl) (by simp) (AllReadyH.cons (o := ⟨some 54, .call { callee := .value (.func 38), args := #[.const (.int .i64 61), .tmp 48, .tmp 53], argTypes := #[25, 3, 3] }, 70, "program.go:116", #[⟨3, .data⟩, ⟨8, .data⟩], none⟩) rfl (fun KQ hK => ?_) AllReadyH.nil)
            go_simp
            refine (faultAt_any _ 61 (line : Int) (rq.col : Int)).mono ?_
            rintro e y1 ⟨rfl, rfl⟩
            have HY1 : Hid (Below w9.heap.size w9 w9.drew) := hid (Below.refl _ _).drew
            go_wp2_with fail
            refine hK.out _ _ HY1.out (fun hHeld => ?_)
            clear hK KQ
            try simp only [Act.put, List.setIfInBounds_toArray, List.set_cons_zero, List.set_cons_succ]
            refine wpAnyH_ready (rs := [10]) (by kernel_rfl) (by simp) (AllReadyH.cons (o := ⟨some 8, .assign (.const (.slice none 0 0)), 192, "program.go:116", #[⟨9, .chain⟩, { on := 0, ground := .textOnly Departure.lateStores }, { on := 1, ground := .textOnly Departure.lateStores }, { on := 2, ground := .textOnly Departure.lateStores }, { on := 3, ground := .textOnly Departure.lateStores }, { on := 4, ground := .textOnly Departure.lateStores }, { on := 5, ground := .textOnly Departure.lateStores }, { on := 6, ground := .textOnly Departure.lateStores }, { on := 7, ground := .textOnly Departure.lateStores }, { on := 8, ground := .textOnly Departure.lateStores }, { on := 9, ground := .textOnly Departure.lateStoresUnsure }], none⟩) rfl (fun KQ hK => ?_) AllReadyH.nil)
            go_simp
            refine hK.out _ _ HY1.out (fun hHeld => ?_)
            clear hK KQ
            try simp only [Act.put, List.setIfInBounds_toArray, List.set_cons_zero, List.set_cons_succ]
            refine wpAnyH_ready (rs := [11]) (by kernel_rfl) (by simp) (AllReadyH.cons (o := ⟨some 9, .assign (.tmp 54), 70, "program.go:116", #[⟨9, .data⟩, ⟨10, .chain⟩, ⟨0, .phase⟩, ⟨1, .phase⟩, ⟨2, .phase⟩, ⟨3, .phase⟩, ⟨4, .phase⟩, ⟨5, .phase⟩, ⟨6, .phase⟩, ⟨7, .phase⟩, ⟨8, .phase⟩, ⟨9, .phase⟩, ⟨10, .phase⟩], none⟩) rfl (fun KQ hK => ?_) AllReadyH.nil)
            go_simp
            refine hK.out _ _ HY1.out (fun hHeld => ?_)
            clear hK KQ
            try simp only [Act.put, List.setIfInBounds_toArray, List.set_cons_zero, List.set_cons_succ]
            refine wpAnyH_done (by kernel_rfl) ?_ _
            clear hHeld
            go_wp2_with fail
            go_ret2
            rw [HF.out]
            exact ⟨rfl, HVW.out.trans ((below_on HQ.out.1.below (below_on HEND.out HY1.out)).mono HVW.out.size)⟩
          | some u =>
            obtain ⟨rfl, rfl, rfl⟩ := HOP.out u rfl
            have HO9 : Hid (HO V w9 u10 pre) := hid (HQ.out.1.on HEND.out)
            have e0 : w9.cell? ⟨gf, 0, none⟩ = some (.int .u32 (u.val : Int)) := HCE.out.cell 0
            have e1 : w9.cell? ⟨gf, 1, none⟩ = some (.string ⟨u.lab.toArray⟩) := HCE.out.cell 1
            have e2 : w9.cell? ⟨gf, 2, none⟩ = some (.int .i64 (u.col : Int)) := HCE.out.cell 2
            go_wp2_with (at_builtin; refine wpList_append_ops rfl _ _ 192 rfl i0 Tryz.underlying192 hi hz0 hz1 hz2 _ _ rfl (HO9.out.alloc _) _ _ u rfl (cells_new3 _ _ _ (opC u) rfl) (by have := HQ.out.2.1; omega) ?_; intro v6 w6 F6)
            go_roundw
            case measure => simp [intOf] <;> omega
            case rel => exact ⟨q + 1, pre ++ [u], by omega, by go_num, hid ⟨F6, by rw [List.length_append, HQ.out.2.1]; rfl, by omega, by rw [← HST.out]; cases S.rdOps nc ((ks.map (·.toNat)).drop (q + 1)) (rs.drop (q + 1)) <;> simp⟩⟩
    · obtain rfl : q = m := by omega
      have hds : (ks.map (·.toNat)).drop q = [] := List.drop_of_length_le (by simp [HM.out])
      by_cases hqn : q < n
      · have c4 : (q : Int) < (n : Int) := by omega
        have hqr : q < rs.length := by rw [HN.out]; exact hqn
        have hdr2 : rs.drop q = rs[q] :: rs.drop (q + 1) := List.drop_eq_getElem_cons hqr
        have HF : Hid (r = .inl (62, rs[q].col)) := hid (by rw [← HQ.out.2.2.2, hds, hdr2]; rfl)
        rcases HA.out with h0 | ⟨b, o, rfl, hb, hc⟩
        · rw [h0] at hqr; simp at hqr
        have hcq := hc q hqr
        have HCol : Hid (∀ x, Below wr.heap.size wr x → x.cell? ⟨b, o + q * 3 + 2, none⟩ = some (.int .i64 (rs[q].col : Int))) := hid (fun x hx => by
          have hB : Below W.heap.size W x := HVW.out.trans ((HQ.out.1.below.trans (hx.mono HQ.out.1.below.size)).mono HVW.out.size)
          rw [hB.cell (p := ⟨b, o + q * 3 + 2, none⟩) hb]
          exact hcq 2 _ rfl)
        have HKx : Hid (∀ x, Below wr.heap.size wr x → x.cell? ⟨gk, 1, none⟩ = some (.string sh)) := hid (fun x hx => HK.out x (HQ.out.1.below.trans (hx.mono HQ.out.1.below.size)))
        have HGx : Hid (∀ x, Below wr.heap.size wr x → x.cell? ⟨g, 1, none⟩ = some (.int .i64 (line : Int))) := hid (fun x hx => HG2.out x (HQ.out.1.below.trans (hx.mono HQ.out.1.below.size)))
        have k0 : 0 ≤ (q : Int) := by omega
        clear hc hcq hds hdr2 hlt
        generalize rs[q] = rq at *
        clear hqr
        go_wp2_with fail
        refine wp_region_held_drew (S := fun x => Below wr.heap.size wr x) (by kernel_rfl) ((Below.refl _ _).drew) (fun hHeld => ?_)
        refine tk 0 ⟨some 66, .move (.tmp 0), 68, "program.go:121", #[], none⟩ (.pointer (some ⟨g, 0, none⟩)) ?_
        simp only [Act.put, List.setIfInBounds_toArray, List.set_cons_zero, List.set_cons_succ]
        refine tk 1 ⟨some 67, .nilCheck (.tmp 66), 0, "program.go:121", #[⟨0, .data⟩], none⟩ (.pointer (some ⟨g, 0, none⟩)) ?_
        simp only [Act.put, List.setIfInBounds_toArray, List.set_cons_zero, List.set_cons_succ]
        refine tk 2 ⟨some 68, .fieldAddr 77 (.tmp 67) 1, 0, "program.go:121", #[⟨1, .data⟩], none⟩ (.pointer (some ⟨g, 1, none⟩)) ?_
        simp only [Act.put, List.setIfInBounds_toArray, List.set_cons_zero, List.set_cons_succ]
        refine tk 3 ⟨some 69, .load 3 (.tmp 68), 3, "program.go:121", #[⟨2, .data⟩], none⟩ (.int .i64 (line : Int)) ?_ (hy := Or.inl ⟨by rfl, by intro w hSw; have hcc := HGx.out w hSw; go_simp⟩)
        simp only [Act.put, List.setIfInBounds_toArray, List.set_cons_zero, List.set_cons_succ]
        refine tk 4 ⟨some 70, .move (.tmp 3), 149, "program.go:121", #[], none⟩ (.slice (some ⟨b, o, none⟩) n c) ?_
        simp only [Act.put, List.setIfInBounds_toArray, List.set_cons_zero, List.set_cons_succ]
        refine tk 5 ⟨some 71, .fieldAddr 188 (.tmp 5) 1, 0, "program.go:121", #[], none⟩ (.pointer (some ⟨gk, 1, none⟩)) ?_
        simp only [Act.put, List.setIfInBounds_toArray, List.set_cons_zero, List.set_cons_succ]
        refine tk 6 ⟨some 72, .load 9 (.tmp 71), 9, "program.go:121", #[⟨5, .data⟩], none⟩ (.string sh) ?_ (hy := Or.inl ⟨by rfl, by intro w hSw; have hcc := HKx.out w hSw; go_simp⟩)
        simp only [Act.put, List.setIfInBounds_toArray, List.set_cons_zero, List.set_cons_succ]
        refine tk 7 ⟨some 73, .call { callee := .builtin .len, args := #[.tmp 72], argTypes := #[9] }, 3, "program.go:121", #[⟨6, .data⟩], none⟩ (.int .i64 (q : Int)) ?_
        simp only [Act.put, List.setIfInBounds_toArray, List.set_cons_zero, List.set_cons_succ]
        refine tk 8 ⟨some 74, .indexAddr 149 (.tmp 70) (.tmp 73), 0, "program.go:121", #[⟨4, .data⟩, ⟨7, .data⟩], none⟩ (.pointer (some ⟨b, o + q * 3, none⟩)) ?_
        simp only [Act.put, List.setIfInBounds_toArray, List.set_cons_zero, List.set_cons_succ]
        refine tk 9 ⟨some 75, .fieldAddr 154 (.tmp 74) 2, 0, "program.go:121", #[⟨8, .data⟩], none⟩ (.pointer (some ⟨b, o + q * 3 + 2, none⟩)) ?_
        simp only [Act.put, List.setIfInBounds_toArray, List.set_cons_zero, List.set_cons_succ]
        refine tk 10 ⟨some 76, .load 3 (.tmp 75), 3, "program.go:121", #[⟨9, .data⟩], none⟩ (.int .i64 (rq.col : Int)) ?_ (hy := Or.inl ⟨by rfl, by intro w hSw; have hcc := HCol.out w hSw; go_simp⟩)
        simp only [Act.put, List.setIfInBounds_toArray, List.set_cons_zero, List.set_cons_succ]
        refine wpAnyH_ready (rs := [11]) (by kernel_rfl) (by simp) (AllReadyH.cons (o := ⟨some 77, .call { callee := .value (.func 38), args := #[.const (.int .i64 62), .tmp 69, .tmp 76], argTypes := #[25, 3, 3] }, 70, "program.go:121", #[⟨3, .data⟩, ⟨10, .data⟩], none⟩) rfl (fun KQ hK => ?_) AllReadyH.nil)
        go_simp
        refine (faultAt_any _ 62 (line : Int) (rq.col : Int)).mono ?_
        rintro e y1 ⟨rfl, rfl⟩
        have HY1 : Hid (Below wr.heap.size wr wr.drew) := hid (Below.refl _ _).drew
        go_wp2_with fail
        refine hK.out _ _ HY1.out (fun hHeld => ?_)
        clear hK KQ
        try simp only [Act.put, List.setIfInBounds_toArray, List.set_cons_zero, List.set_cons_succ]
        refine wpAnyH_ready (rs := [12]) (by kernel_rfl) (by simp) (AllReadyH.cons (o := ⟨some 8, .assign (.const (.slice none 0 0)), 192, "program.go:121", #[⟨11, .chain⟩, { on := 0, ground := .textOnly Departure.lateStores }, { on := 1, ground := .textOnly Departure.lateStores }, { on := 2, ground := .textOnly Departure.lateStores }, { on := 3, ground := .textOnly Departure.lateStores }, { on := 4, ground := .textOnly Departure.lateStores }, { on := 5, ground := .textOnly Departure.lateStores }, { on := 6, ground := .textOnly Departure.lateStores }, { on := 7, ground := .textOnly Departure.lateStoresUnsure }, { on := 8, ground := .textOnly Departure.lateStores }, { on := 9, ground := .textOnly Departure.lateStores }, { on := 10, ground := .textOnly Departure.lateStores }, { on := 11, ground := .textOnly Departure.lateStoresUnsure }], none⟩) rfl (fun KQ hK => ?_) AllReadyH.nil)
        go_simp
        refine hK.out _ _ HY1.out (fun hHeld => ?_)
        clear hK KQ
        try simp only [Act.put, List.setIfInBounds_toArray, List.set_cons_zero, List.set_cons_succ]
        refine wpAnyH_ready (rs := [13]) (by kernel_rfl) (by simp) (AllReadyH.cons (o := ⟨some 9, .assign (.tmp 77), 70, "program.go:121", #[⟨11, .data⟩, ⟨12, .chain⟩, ⟨0, .phase⟩, ⟨1, .phase⟩, ⟨2, .phase⟩, ⟨3, .phase⟩, ⟨4, .phase⟩, ⟨5, .phase⟩, ⟨6, .phase⟩, ⟨7, .phase⟩, ⟨8, .phase⟩, ⟨9, .phase⟩, ⟨10, .phase⟩, ⟨11, .phase⟩, ⟨12, .phase⟩], none⟩) rfl (fun KQ hK => ?_) AllReadyH.nil)
        go_simp
        refine hK.out _ _ HY1.out (fun hHeld => ?_)
        clear hK KQ
        try simp only [Act.put, List.setIfInBounds_toArray, List.set_cons_zero, List.set_cons_succ]
        refine wpAnyH_done (by kernel_rfl) ?_ _
        clear hHeld
        go_wp2_with fail
        go_ret2
        rw [HF.out]
        exact ⟨rfl, HVW.out.trans ((below_on HQ.out.1.below HY1.out).mono HVW.out.size)⟩
      · have c4 : ¬ ((q : Int) < (n : Int)) := by omega
        have HF : Hid (r = .inr pre) := hid (by rw [← HQ.out.2.2.2, hds, List.drop_of_length_le (by rw [HN.out]; omega)]; simp [S.rdOps])
        clear hds hlt
        go_wp2_with fail
        go_ret2
        rw [HF.out]
        exact ⟨_, rfl, HQ.out.1.up HVW.out⟩
end Go.Proofs.YtncnogndopgknaaGreatDoor
