import Derived.Test.YtdfnbcbnmiohnaaGreatDoorP22
import Derived.Laws.CopyOwn
import Derived.Deep.OwnRows
import Derived.Test.YtdfnbcbnmiohnaaGreatDoorP01
namespace Go.Proofs.YtdfnbcbnmiohnaaGreatDoor
open Go.RowKit
def In (off : Int) : Prop := 0 ≤ off ∧ off < 1024
instance (off : Int) : Decidable (In off) := by unfold In; exact inferInstance
def MS.err (m : MS) (s : Bool) (p off : Int) : Int := match m.at s p with
  | none => 5
  | some _ => if In off then 0 else 70
def pa (f : Fp) (o : Option Nat) (off : Int) : Value := match o with
  | none => .pointer none
  | some k => if In off then .pointer (some ⟨f.b k, off.toNat, none⟩) else .pointer none
theorem at_any (w : World) (f : Fp) (m : MS) (h : Mem w f m) (s : Bool) (p off : Int) :
    Calls Tryz.prog 66 #[ptr f.gm, fr s p, .int .i64 off] w fun x w' => x = .returned (.tuple #[pa f (m.at s p) off, .int .i64 (m.err s p off)]) ∧ Below w.heap.size w w' := by
  have hX := h.on (below_one w (.cells #[.bool s, .int .i64 p] 64))
  have hB := hid (below_one w (.cells #[.bool s, .int .i64 p] 64))
  have HF := hid (find_any _ f m hX s p)
  have h1 := h.ns0
  have hlt : Hid (∀ k, m.at s p = some k → k < m.P.length) := fun k hk => MS.at_lt h1 hk
  have H := hid hX
  clear h hX h1
  unfold MS.err
  generalize hr : m.at s p = r at *
  cases r with
  | none =>
    simp only [fr, ptr, pv, pa] at *
    go_enter Tryz.func66, Tryz.ntmps66
    go_wp2_with fail
    refine HF.out.mono ?_
    rintro x w1 ⟨rfl, hb1⟩
    have HB1 := hid (below_on hB.out hb1)
    clear hb1
    go_wp2_with fail
    go_ret2
    exact ⟨rfl, HB1.out⟩
  | some k =>
    have hk := hlt.out k rfl
    by_cases ho : In off
    · simp only [fr, ptr, pv, pa, if_pos ho] at *
      obtain ⟨o0, o1⟩ := ho
      go_enter Tryz.func66, Tryz.ntmps66
      go_wp2_with fail
      refine HF.out.mono ?_
      rintro x w1 ⟨rfl, hb1⟩
      have HB1 := hid (below_on hB.out hb1)
      clear hb1
      go_wp2_with fail
      go_ret2
      exact ⟨rfl, HB1.out⟩
    · simp only [fr, ptr, pv, pa, if_neg ho] at *
      have ho' : off < 0 ∨ 1024 ≤ off := by unfold In at ho; omega
      clear ho
      go_enter Tryz.func66, Tryz.ntmps66
      go_wp2_with fail
      refine HF.out.mono ?_
      rintro x w1 ⟨rfl, hb1⟩
      have HB1 := hid (below_on hB.out hb1)
      clear hb1
      rcases ho' with ho | ho
      all_goals go_wp2_with fail
      all_goals go_ret2
      all_goals exact ⟨rfl, HB1.out⟩
theorem meter_any (w : World) (f : Fp) (m : MS) (h : Mem w f m) :
    Calls Tryz.prog 37 #[ptr f.gm] w fun x w' => x = .returned (.int .i64 m.c) ∧ w' = w := by
  have c2 := h.cm
  clear h
  simp only [ptr] at *
  go_enter Tryz.func37, Tryz.ntmps37
  go_wp2_with fail
  go_ret
  exact ⟨rfl, rfl⟩
def MS.word (m : MS) (s : Bool) (p off : Int) : Int := match m.at s p with
  | none => 0
  | some k => if In off then wd (m.p k) off.toNat else 0
theorem Mem.word {w : World} {f : Fp} {m : MS} (h : Mem w f m) (k : Nat) (hk : k < m.P.length) (j : Nat) (hj : j < 1024) : w.cell? ⟨f.b k, j, none⟩ = some (.int .u32 (wd (m.p k) j)) := by
  have := h.full k hk
  rw [(h.pg k hk).cell j, u32s, List.getElem?_map, List.getElem?_eq_getElem (by omega)]
  simp [wd, List.getD_eq_getElem?_getD, List.getElem?_eq_getElem (show j < (m.p k).length by omega)]
theorem peek_any (w : World) (f : Fp) (m : MS) (h : Mem w f m) (s : Bool) (p off : Int) :
    Calls Tryz.prog 25 #[ptr f.gm, fr s p, .int .i64 off] w fun x w' => x = .returned (.int .u32 (m.word s p off)) ∧ Below w.heap.size w w' := by
  have hX := h.on (below_one w (.cells #[.bool s, .int .i64 p] 64))
  have hB := hid (below_one w (.cells #[.bool s, .int .i64 p] 64))
  have HF := hid (at_any _ f m hX s p off)
  have h1 := h.ns0
  have hlt : Hid (∀ k, m.at s p = some k → k < m.P.length) := fun k hk => MS.at_lt h1 hk
  have H := hid hX
  clear h hX h1
  unfold MS.err at HF
  unfold MS.word
  generalize hr : m.at s p = r at *
  cases r with
  | none =>
    simp only [fr, ptr, pa] at *
    go_enter Tryz.func25, Tryz.ntmps25
    go_wp2_with fail
    refine HF.out.mono ?_
    rintro x w1 ⟨rfl, hb1⟩
    have HB1 := hid (below_on hB.out hb1)
    clear hb1
    go_wp2_with fail
    go_ret
    exact ⟨rfl, HB1.out⟩
  | some k =>
    have hk := hlt.out k rfl
    by_cases ho : In off
    · simp only [fr, ptr, pa, if_pos ho] at *
      obtain ⟨o0, o1⟩ := ho
      go_enter Tryz.func25, Tryz.ntmps25
      go_wp2_with fail
      refine HF.out.mono ?_
      rintro x w1 ⟨rfl, hb1⟩
      have HB1 := hid (below_on hB.out hb1)
      have cc := (H.out.on hb1).word k hk off.toNat (by omega)
      clear hb1
      go_wp2_with fail
      go_ret
      exact ⟨rfl, HB1.out⟩
    · simp only [fr, ptr, pa, if_neg ho] at *
      clear ho
      go_enter Tryz.func25, Tryz.ntmps25
      go_wp2_with fail
      refine HF.out.mono ?_
      rintro x w1 ⟨rfl, hb1⟩
      have HB1 := hid (below_on hB.out hb1)
      clear hb1
      go_wp2_with fail
      go_ret
      exact ⟨rfl, HB1.out⟩
end Go.Proofs.YtdfnbcbnmiohnaaGreatDoor
namespace Go.Proofs.YtdfnbcbnmiohnaaGreatDoor
open Go.RowKit
def MS.tick (m : MS) (n : Int) : MS := { m with c := wrap64 (m.c + n) }
theorem Mem.tick {w : World} {f : Fp} {m : MS} (h : Mem w f m) (n : Int) : Mem (w.setCell ⟨f.gm, 2, none⟩ (.int .i64 (wrap64 (m.c + n)))) f (m.tick n) := h.meter _
def MS.read (m : MS) (s : Bool) (p off : Int) : MS := match m.at s p with
  | none => m
  | some _ => if In off then m.tick 1 else m
theorem u32s_set (L : List Int) (j : Nat) (v : Int) : (u32s L).set j (.int .u32 v) = u32s (L.set j v) := by simp [u32s, List.map_set]
theorem Mem.put {w : World} {f : Fp} {m : MS} (h : Mem w f m) (k : Nat) (hk : k < m.P.length) (j : Nat) (v : Int) : Mem (w.setCell ⟨f.b k, j, none⟩ (.int .u32 v)) f { m with P := m.P.set k ((m.p k).set j v) } :=
  h.page k hk _ (by rw [List.length_set]; exact h.full k hk) (.setCell _ _ _ _ (by simp)) (by rw [← u32s_set]; exact (h.pg k hk).setCell j _)
def MS.write (m : MS) (s : Bool) (p off v : Int) : MS := match m.at s p with
  | none => m
  | some k => if In off then { m.tick 1 with P := m.P.set k ((m.p k).set off.toNat v) } else m
theorem write_any (w : World) (f : Fp) (m : MS) (h : Mem w f m) (s : Bool) (p off v : Int) :
    Calls Tryz.prog 53 #[ptr f.gm, fr s p, .int .i64 off, .int .u32 v] w fun x w' => x = .returned (.int .i64 (m.err s p off)) ∧ Mem w' f (m.write s p off v) ∧ ButL f.w w w' := by
  have hX := h.on (below_one w (.cells #[.bool s, .int .i64 p] 64))
  have hB := hid (below_one w (.cells #[.bool s, .int .i64 p] 64))
  have HF := hid (at_any _ f m hX s p off)
  have h1 := h.ns0
  have hlt : Hid (∀ k, m.at s p = some k → k < m.P.length) := fun k hk => MS.at_lt h1 hk
  have H := hid hX
  clear h hX h1
  unfold MS.err at HF ⊢
  unfold MS.write
  generalize hr : m.at s p = r at *
  cases r with
  | none =>
    simp only [fr, ptr, pa] at *
    go_enter Tryz.func53, Tryz.ntmps53
    go_wp2_with fail
    refine HF.out.mono ?_
    rintro x w1 ⟨rfl, hb1⟩
    have HB1 := hid (below_on hB.out hb1)
    have HM := hid (H.out.on hb1)
    clear hb1
    go_wp2_with fail
    go_ret
    exact ⟨rfl, HM.out, .of HB1.out⟩
  | some k =>
    have hk := hlt.out k rfl
    by_cases ho : In off
    · simp only [fr, ptr, pa, if_pos ho] at *
      obtain ⟨o0, o1⟩ := ho
      go_enter Tryz.func53, Tryz.ntmps53
      go_wp2_with fail
      refine HF.out.mono ?_
      rintro x w1 ⟨rfl, hb1⟩
      have HB1 := hid (below_on hB.out hb1)
      have HM := hid (H.out.on hb1)
      have c2 := HM.out.cm
      have f2 := HM.out.cel.free 2
      have cc : (w1.setCell ⟨f.gm, 2, none⟩ (.int .i64 (wrap64 (m.c + 1)))).cell? ⟨f.b k, off.toNat, none⟩ = some (.int .u32 (wd (m.p k) off.toNat)) := (HM.out.tick 1).word k hk off.toNat (by omega)
      have cf : (w1.setCell ⟨f.gm, 2, none⟩ (.int .i64 (wrap64 (m.c + 1)))).frozen? ⟨f.b k, off.toNat, none⟩ = false := ((HM.out.tick 1).pg k hk).free _
      have HT := hid ((HM.out.tick 1).put k hk off.toNat v)
      have HG := hid (HM.out.mem k hk)
      clear hb1
      go_wp2_with fail
      go_ret
      exact ⟨rfl, HT.out, ((ButL.of HB1.out).trans (.setCell _ _ _ _ (by simp [Fp.w]))).trans (.setCell _ _ _ _ (by simp only [Fp.w, List.mem_cons]; exact .inr HG.out))⟩
    · simp only [fr, ptr, pa, if_neg ho] at *
      clear ho
      go_enter Tryz.func53, Tryz.ntmps53
      go_wp2_with fail
      refine HF.out.mono ?_
      rintro x w1 ⟨rfl, hb1⟩
      have HB1 := hid (below_on hB.out hb1)
      have HM := hid (H.out.on hb1)
      clear hb1
      go_wp2_with fail
      go_ret
      exact ⟨rfl, HM.out, .of HB1.out⟩
end Go.Proofs.YtdfnbcbnmiohnaaGreatDoor
namespace Go.Proofs.YtdfnbcbnmiohnaaGreatDoor
open Go.RowKit
def pgV (L : List Int) : Value := .agg (u32s L).toArray
def zs : List Int := List.replicate 1024 0
theorem zs_len : zs.length = 1024 := List.length_replicate
theorem under24 : Tryz.prog.underlying 51 = some (.slice 43) := by kernel_rfl
theorem info85 : (Tryz.prog.info? 132).map (fun i => (i.zero, i.size)) = some (some (.agg (u32s zs).toArray), 1024) := by kernel_rfl
theorem size32 : (Tryz.prog.info? 43).map (·.size) = some 1 := by kernel_rfl
theorem u32s_one (L : List Int) : ∀ v ∈ u32s L, v.oneCell' = true := by
  intro v hv
  simp only [u32s, List.mem_map] at hv
  obtain ⟨x, _, rfl⟩ := hv
  rfl
theorem zeroCells_one (z : Value) (n : Nat) : (Builtin.zeroCells #[z] n).toList = List.replicate n z := by
  simp [Builtin.zeroCells]
  apply List.ext_getElem
  · simp
  · intro i h1 h2
    simp [Nat.mod_one]
theorem run_clear_row (w : World) (g : Nat) (ty : TypeId) (n c : Nat) (cs : List Value) (hg : Cel w g 132 cs) (hn : cs.length = n) (h0 : 0 < n) :
    (Builtin.clear_ #[51] ty #[.slice (some ⟨g, 0, none⟩) n c]).run Tryz.prog w = .ok (.tuple #[]) (w.setRow g (List.replicate n (Value.int .u32 0)).toArray) := by
  have hz : ∀ w, (zeroValue 43).run Tryz.prog w = .ok (.int .u32 0) w := fun w => by
    have : (Tryz.prog.info? 43).map (fun i => i.zero) = some (some (.int .u32 0)) := by kernel_rfl
    cases hq : Tryz.prog.info? 43 with
    | none => simp [hq] at this
    | some i => simp [hq] at this; simp [zeroValue, typeInfo, hq, this]
  have hzc : (Builtin.zeroCells (Value.int .u32 0).cells n).toList = List.replicate n (Value.int .u32 0) := zeroCells_one _ n
  have hst := run_storeCells_at Tryz.prog g 0 132 (List.replicate n (Value.int .u32 0)) 0 cs.toArray w hg (by simp [hn]) (by intro v hv; rw [List.eq_of_mem_replicate hv]; rfl)
  simp only [Nat.add_zero, Nat.zero_add] at hst
  have e : List.take 0 cs.toArray.toList ++ List.replicate n (Value.int .u32 0) ++ List.drop (List.replicate n (Value.int .u32 0)).length cs.toArray.toList = List.replicate n (Value.int .u32 0) := by
    rw [List.drop_eq_nil_of_le (by simp [hn])]; simp
  rw [e] at hst
  clear hn
  obtain ⟨m, rfl⟩ : ∃ m, n = m + 1 := ⟨n - 1, by omega⟩
  simp [Builtin.clear_, run_underlying under24, hz, hzc, hst]
theorem wpList_clear_pg {ops : Array Oper} {rest : List Oper} {o : Oper} {a : Act} {w : World} {Q : Exit → Act → World → Prop} (hgd : o.guard = none) (x : Operand) (ho : o.op = .call { callee := .builtin .clear, args := #[x], argTypes := #[51] })
    (g c : Nat) (L : List Int) (hx : a.eval x = .slice (some ⟨g, 0, none⟩) 1024 c) (hg : Cel w g 132 (u32s L)) (hL : L.length = 1024)
    (h : ∀ w', Cel w' g 132 (u32s zs) → ButL [g] w w' → w'.heap.size = w.heap.size → wpList Tryz.prog ops Q rest (a.put o.dst (.tuple #[])) w') : wpList Tryz.prog ops Q (o :: rest) a w := by
  refine wpList_plain hgd fun K hK => ?_
  have hz : List.replicate 1024 (Value.int .u32 0) = u32s zs := (List.map_replicate).symm
  have hrun := run_clear_row w g o.type 1024 c _ hg (by rw [u32s_len, hL]) (by decide)
  rw [hz] at hrun
  unfold Oper.wp
  simp only [execOp, ho, resolve, invoke, builtin, hx, Sem.run_bind, Sem.run_pure, hrun, Result.andThen_ok, List.map_toArray, List.map_cons, List.map_nil]
  exact hK _ _ (h _ (hg.set _) (.setRow _ _ _ (by simp)) (by simp))
theorem Cel.src {w : World} {g : Nat} {t : TypeId} {cs : List Value} (h : Cel w g t cs) : ∀ j v, cs[j]? = some v → w.cell? ((⟨g, 0, none⟩ : Addr).add j) = some v := by
  intro j v hv
  rw [Addr.add_mid, Nat.zero_add, h.cell j, hv]
end Go.Proofs.YtdfnbcbnmiohnaaGreatDoor
namespace Go.Proofs.YtdfnbcbnmiohnaaGreatDoor
open Go.RowKit
def MS.zero (m : MS) (s : Bool) (p : Int) : MS := match m.at s p with
  | none => m
  | some k => { m.tick 1024 with P := m.P.set k zs }
def MS.perr (m : MS) (s : Bool) (p : Int) : Int := if (m.at s p).isSome then 0 else 5
theorem zero_any (w : World) (f : Fp) (m : MS) (h : Mem w f m) (s : Bool) (p : Int) :
    Calls Tryz.prog 98 #[ptr f.gm, fr s p] w fun x w' => x = .returned (.int .i64 (m.perr s p)) ∧ Mem w' f (m.zero s p) ∧ ButL f.w w w' := by
  have hX := h.on (below_one w (.cells #[.bool s, .int .i64 p] 64))
  have hB := hid (below_one w (.cells #[.bool s, .int .i64 p] 64))
  have HF := hid (find_any _ f m hX s p)
  have h1 := h.ns0
  have hlt : Hid (∀ k, m.at s p = some k → k < m.P.length) := fun k hk => MS.at_lt h1 hk
  have H := hid hX
  clear h hX h1
  unfold MS.zero MS.perr
  generalize hr : m.at s p = r at *
  cases r with
  | none =>
    simp only [fr, ptr, pv] at *
    go_enter Tryz.func98, Tryz.ntmps98
    go_wp2_with fail
    refine HF.out.mono ?_
    rintro x w1 ⟨rfl, hb1⟩
    have HB1 := hid (below_on hB.out hb1)
    have HM := hid (H.out.on hb1)
    clear hb1
    go_wp2_with fail
    go_ret
    exact ⟨rfl, HM.out, .of HB1.out⟩
  | some k =>
    have hk := hlt.out k rfl
    simp only [fr, ptr, pv] at *
    go_enter Tryz.func98, Tryz.ntmps98
    go_wp2_with fail
    refine HF.out.mono ?_
    rintro x w1 ⟨rfl, hb1⟩
    have HB1 := hid (below_on hB.out hb1)
    have HM := hid (H.out.on hb1)
    have c2 := HM.out.cm
    have f2 := HM.out.cel.free 2
    have HT := hid (HM.out.tick 1024)
    have HG := hid (HM.out.mem k hk)
    have HBT : Hid (ButL f.w w (w1.setCell ⟨f.gm, 2, none⟩ (.int .i64 (wrap64 (m.c + 1024))))) := hid ((ButL.of HB1.out).trans (.setCell _ _ _ _ (by simp [Fp.w])))
    clear hb1
    go_wp2_with (refine wpList_clear_pg rfl _ rfl (f.b k) 1024 (m.p k) rfl (HT.out.pg k hk) (HT.out.full k hk) ?_; intro w2 hc2 hb2 hs2; have HC2 := hid hc2; have HB2 := hid hb2; clear hc2 hb2)
    go_ret
    exact ⟨rfl, HT.out.page k hk zs zs_len HB2.out HC2.out, HBT.out.trans (HB2.out.mono (by intro g hg; rw [List.mem_singleton] at hg; subst hg; simp only [Fp.w, List.mem_cons]; exact .inr HG.out))⟩
theorem wpList_make_cel {ops : Array Oper} {rest : List Oper} {o : Oper} {a : Act} {w : World} {Q : Exit → Act → World → Prop} (hgd : o.guard = none) (l c : Operand) (t e : TypeId) (ho : o.op = Op.makeSlice t l c) (z : Value) (b : Nat)
    (hu : Tryz.prog.underlying t = some (.slice e)) (hinfo : (Tryz.prog.info? e).map (fun i => (i.zero, i.size, i.bytes)) = some (some z, 1, b)) (hz1 : z.cells = #[z]) (n : Nat) (L C : Int) (hl : a.eval l = .int .i64 L) (hc : a.eval c = .int .i64 C) (hL : L = (n : Int)) (hC : C = (n : Int))
    (hb : b * n ≤ 281474976710656) (hn : n ≤ 9223372036854775807)
    (h : ∀ w', Cel w' w.heap.size e (List.replicate n z) → Below w.heap.size w w' → w'.heap.size = w.heap.size + 1 → wpList Tryz.prog ops Q rest (a.put o.dst (.slice (some ⟨w.heap.size, 0, none⟩) n n)) w') :
    wpList Tryz.prog ops Q (o :: rest) a w := by
  obtain ⟨i, hi, hzz⟩ := Option.map_eq_some_iff.1 hinfo
  simp only [Prod.mk.injEq] at hzz
  obtain ⟨hz, hs, hbb⟩ := hzz
  subst hL hC
  refine wpList_make_row w hgd l c t ho e i z hu hi hz hs hz1 .i64 .i64 n hl hc (by rw [hbb]; exact hb) hn ?_
  have e1 : madeCells #[z] n = (List.replicate n z).toArray := by rw [← toList_madeCells_one]
  rw [e1]
  exact h _ (Cel.new _ _ _) (below_one _ _) (by simp)
theorem info32 : (Tryz.prog.info? 43).map (fun i => (i.zero, i.size, i.bytes)) = some (some (.int .u32 0), 1, 4) := by kernel_rfl
def MS.tk (m : MS) (s : Bool) (p n : Int) : MS := if (m.at s p).isSome then m.tick n else m
def PageIs (w w' : World) (m : MS) (s : Bool) (p : Int) (v : Value) : Prop := match m.at s p with
  | none => v = .slice none 0 0
  | some k => ∃ g, w.heap.size ≤ g ∧ v = .slice (some ⟨g, 0, none⟩) 1024 1024 ∧ Cel w' g 43 (u32s (m.p k))
def MS.bl (m : MS) (s : Bool) (p : Int) : Bool := match m.at s p with
  | none => false
  | some k => decide (m.p k = zs)
def MS.lerr (m : MS) (s : Bool) (p : Int) (L : List Int) : Int := match m.at s p with
  | none => 5
  | some _ => if L.length = 1024 then 0 else 2
def MS.lay (m : MS) (s : Bool) (p : Int) (L : List Int) : MS := match m.at s p with
  | none => m
  | some k => if L.length = 1024 then { m.tick 1024 with P := m.P.set k L } else m
end Go.Proofs.YtdfnbcbnmiohnaaGreatDoor
namespace Go.Proofs.YtdfnbcbnmiohnaaGreatDoor
open Go.RowKit
theorem wpList_alloc_pg {ops : Array Oper} {rest : List Oper} {o : Oper} {a : Act} {w : World} {Q : Exit → Act → World → Prop} (hgd : o.guard = none) (ho : o.op = .alloc 132)
    (h : ∀ w', Cel w' w.heap.size 132 (u32s zs) → Below w.heap.size w w' → w'.heap.size = w.heap.size + 1 → wpList Tryz.prog ops Q rest (a.put o.dst (.pointer (some ⟨w.heap.size, 0, none⟩))) w') : wpList Tryz.prog ops Q (o :: rest) a w := by
  refine wpList_plain hgd fun K hK => ?_
  have hi := info85
  obtain ⟨i, hi, hzz⟩ := Option.map_eq_some_iff.1 hi
  simp only [Prod.mk.injEq] at hzz
  have hz : ∀ w, (zeroValue 132).run Tryz.prog w = .ok (.agg (u32s zs).toArray) w := fun w => by simp [zeroValue, typeInfo, hi, hzz.1]
  have hn : (newVar 132 (.agg (u32s zs).toArray)).run Tryz.prog w = .ok ⟨w.heap.size, 0, none⟩ (w.alloc (.cells (u32s zs).toArray 132)) := by
    simp [newVar, newRow, Value.cells]
  unfold Oper.wp execOp
  simp only [ho, Instr.alloc, Sem.run_bind, Sem.run_pure, hz, hn, Result.andThen_ok]
  exact hK _ _ (h _ (Cel.new _ _ _) (below_one _ _) (by simp))
theorem under75 : Tryz.prog.underlying 93 = some (.slice 129) := by kernel_rfl
theorem info82 : (Tryz.prog.info? 129).map (fun i => (i.zero, i.size, i.bytes)) = some (some (.pointer none), 1, 8) := by kernel_rfl
structure ZP (w w' : World) (g : Nat) (bs : List Nat) (n : Nat) : Prop where
  below : Below w.heap.size w w'
  hg : w.heap.size ≤ g
  cel : Cel w' g 129 (bs.map ptr ++ List.replicate (n - bs.length) (.pointer none))
  le : bs.length ≤ n
  pages : ∀ b ∈ bs, w.heap.size ≤ b ∧ Cel w' b 132 (u32s zs)
  nodup : bs.Nodup
theorem ZP.on {w w' w2 : World} {g : Nat} {bs : List Nat} {n : Nat} (h : ZP w w' g bs n) (hb : Below w'.heap.size w' w2) : ZP w w2 g bs n :=
  ⟨below_on h.below hb, h.hg, h.cel.on hb, h.le, fun b hbs => ⟨(h.pages b hbs).1, (h.pages b hbs).2.on hb⟩, h.nodup⟩
theorem ZP.step {w w' w2 : World} {g : Nat} {bs : List Nat} {n : Nat} (h : ZP w w' g bs n) (hlt : bs.length < n) (hb : Below w'.heap.size w' w2) (hc : Cel w2 w'.heap.size 132 (u32s zs)) :
    ZP w (w2.setCell ⟨g, bs.length, none⟩ (.pointer (some ⟨w'.heap.size, 0, none⟩))) g (bs ++ [w'.heap.size]) n := by
  have h2 := h.on hb
  have hgl := h.cel.lt
  have hne : ∀ b, b ≠ g → ∀ t cs, Cel w2 b t cs → Cel (w2.setCell ⟨g, bs.length, none⟩ (.pointer (some ⟨w'.heap.size, 0, none⟩))) b t cs := fun b hbg t cs hcc => hcc.but (ButL.setCell (G := [g]) w2 g _ _ (by simp)) (by rw [List.mem_singleton]; exact hbg)
  refine ⟨h2.below.setCell (p := ⟨g, bs.length, none⟩) h.hg _, h.hg, ?_, by simp; omega, ?_, ?_⟩
  · have := h2.cel.setCell bs.length (.pointer (some ⟨w'.heap.size, 0, none⟩))
    have e : (bs.map ptr ++ List.replicate (n - bs.length) (Value.pointer none)).set bs.length (.pointer (some ⟨w'.heap.size, 0, none⟩)) = (bs ++ [w'.heap.size]).map ptr ++ List.replicate (n - (bs ++ [w'.heap.size]).length) (Value.pointer none) := by
      rw [List.set_append_right _ _ (by simp)]
      obtain ⟨k, hk⟩ : ∃ k, n - bs.length = k + 1 := ⟨n - bs.length - 1, by omega⟩
      have hk2 : n - (bs ++ [w'.heap.size]).length = k := by simp; omega
      rw [hk, hk2]
      simp [List.replicate_succ, ptr]
    rw [e] at this
    exact this
  · intro b hb'
    rw [List.mem_append, List.mem_singleton] at hb'
    rcases hb' with hb' | rfl
    · refine ⟨(h.pages b hb').1, hne b ?_ _ _ (h2.pages b hb').2⟩
      intro e; subst e
      exact absurd (h.cel.ty (h.pages _ hb').2) (by decide)
    · exact ⟨h.below.size, hne _ (by omega) _ _ hc⟩
  · rw [List.nodup_append]
    refine ⟨h.nodup, by simp, ?_⟩
    intro a ha b hb'
    rw [List.mem_singleton] at hb'
    subst hb'
    have := (h.pages a ha).2.lt
    omega
theorem zeroPages_any (w : World) (n : Nat) (hn : n ≤ 64) :
    Calls Tryz.prog 47 #[.int .i64 (n : Int)] w fun x w' => ∃ g bs, x = .returned (.slice (some ⟨g, 0, none⟩) n n) ∧ ZP w w' g bs n ∧ bs.length = n := by
  have n1 : (n : Int) ≤ 64 := by omega
  go_enter Tryz.func47, Tryz.ntmps47
  go_wp2_with (first | (at_make; refine wpList_make_cel rfl _ _ 93 129 rfl (.pointer none) 8 under75 info82 rfl n _ _ rfl rfl rfl rfl (by omega) (by omega) ?_))
  intro w1 hc1 hb1 hs1
  have HZ : Hid (ZP w w1 w.heap.size [] n) := hid ⟨hb1, Nat.le_refl _, by simpa using hc1, by simp, by simp, by simp⟩
  clear hc1 hb1 hs1
  generalize w.heap.size = g at *
  go_wp2_with fail
  go_loopw [4, 9] (fun _ v wr => ∃ bs : List Nat, v = .int .i64 (bs.length : Int) ∧ Hid (ZP w wr g bs n)) (fun _ v _ => n - (intOf v).toNat)
  case atStart => exact ⟨[], rfl, HZ⟩
  case round =>
    obtain ⟨bs, rfl, HQ⟩ := hrel
    have hle := HQ.out.le
    by_cases hlt : bs.length < n
    · have c1 : (bs.length : Int) < (n : Int) := by omega
      have q1 : (bs.length : Int) ≤ 64 := by omega
      have HG := hid HQ.out.cel
      go_wp2_with (first | (refine wpList_alloc_pg rfl rfl ?_))
      intro w2 hc2 hb2 hs2
      have HS := hid (HQ.out.step hlt hb2 hc2)
      have fz := (HG.out.on hb2).free bs.length
      have cz : w2.cell? ⟨g, bs.length, none⟩ = some (.pointer none) := by
        rw [(HG.out.on hb2).cell bs.length, List.getElem?_append_right (by simp)]
        simp [List.getElem?_replicate]; omega
      clear hc2 hb2 hs2
      go_wp2_with fail
      go_roundw
      case measure => simp [intOf] <;> omega
      case rel => exact ⟨bs ++ [wr.heap.size], by simp, HS⟩
    · have hqe : bs.length = n := by omega
      have c1 : ¬ (bs.length : Int) < (n : Int) := by omega
      go_wp2_with fail
      go_ret
      exact ⟨g, rfl, bs, HQ.out, hqe⟩
def MS.new (s n : Nat) : MS := ⟨s, List.replicate (s + n) zs, 0⟩
theorem rep_p (k n : Nat) (hk : k < n) : (List.replicate n zs).getD k [] = zs := by
  simp [List.getD_eq_getElem?_getD, hk]
theorem getD_mem {l : List Nat} {k : Nat} (hk : k < l.length) : l.getD k 0 ∈ l := by
  rw [List.getD_eq_getElem?_getD, List.getElem?_eq_getElem hk]; simp
theorem mem_of {w w1 w2 w3 : World} {g1 g2 gm : Nat} {bs1 bs2 : List Nat} {s n : Nat} (h1 : ZP w w1 g1 bs1 s) (h2 : ZP w1 w2 g2 bs2 n) (hs : bs1.length = s) (hn : bs2.length = n) (hm : s + n ≤ 128) (hb : Below w2.heap.size w2 w3) (hgm : w.heap.size ≤ gm) (c : Int)
    (hc : Cel w3 gm 96 [.slice (some ⟨g1, 0, none⟩) s s, .slice (some ⟨g2, 0, none⟩) n n, .int .i64 c]) (P : List (List Int)) (hP : P = List.replicate (s + n) zs) :
    Mem w3 ⟨gm, g1, g2, bs1 ++ bs2⟩ ⟨s, P, c⟩ ∧ (∀ k ∈ (⟨gm, g1, g2, bs1 ++ bs2⟩ : Fp).all, w.heap.size ≤ k) := by
  subst hP
  have h1' := (h1.on h2.below).on hb
  have h2' := h2.on hb
  refine ⟨⟨?_, ?_, ?_, ?_, ?_, ?_, ?_, ?_, ?_⟩, ?_⟩
  · simpa using hc
  · have := h1'.cel
    simpa [hs, List.take_left' hs] using this
  · have := h2'.cel
    simpa [hn, List.drop_left' hs] using this
  · simp [hs, hn]
  · simp
  · simpa using hm
  · intro k hk
    simp only [List.length_replicate] at hk
    have e : (⟨s, List.replicate (s + n) zs, c⟩ : MS).p k = zs := rep_p k (s + n) hk
    rw [e]
    have hmem := getD_mem (l := bs1 ++ bs2) (k := k) (by simp [hs, hn]; exact hk)
    have hb' : (⟨gm, g1, g2, bs1 ++ bs2⟩ : Fp).b k ∈ bs1 ++ bs2 := hmem
    rw [List.mem_append] at hb'
    rcases hb' with hb' | hb'
    · exact (h1'.pages _ hb').2
    · exact (h2'.pages _ hb').2
  · intro k hk
    simp only [List.length_replicate] at hk
    have e : (⟨s, List.replicate (s + n) zs, c⟩ : MS).p k = zs := rep_p k (s + n) hk
    rw [e, zs_len]
  · rw [List.nodup_append]
    refine ⟨h1.nodup, h2.nodup, ?_⟩
    intro a ha b hb' e
    subst e
    have := (h1.pages a ha).2.lt
    have := (h2.pages a hb').1
    omega
  · intro k hk
    have := h1.below.size
    simp only [Fp.all, List.mem_cons, List.mem_append] at hk
    rcases hk with rfl | rfl | rfl | hk | hk
    · exact hgm
    · exact h1.hg
    · have := h2.hg; omega
    · exact (h1.pages k hk).1
    · have := (h2.pages k hk).1; omega
structure NewMem (w w' : World) (f : Fp) (m : MS) : Prop where
  mem : Mem w' f m
  below : Below w.heap.size w w'
  new : ∀ k ∈ f.all, w.heap.size ≤ k
theorem new_any (w : World) (s n : Nat) (s1 : 1 ≤ s) (s2 : s ≤ 64) (n1 : 1 ≤ n) (n2 : n ≤ 64) :
    Calls Tryz.prog 13 #[.int .i64 (s : Int), .int .i64 (n : Int)] w fun x w' => ∃ f, x = .returned (.tuple #[ptr f.gm, .int .i64 0]) ∧ NewMem w w' f (MS.new s n) := by
  have H1 := hid (zeroPages_any w s s2)
  have a1 : (1 : Int) ≤ (s : Int) := by omega
  have a2 : (s : Int) ≤ 64 := by omega
  have a3 : (1 : Int) ≤ (n : Int) := by omega
  have a4 : (n : Int) ≤ 64 := by omega
  have HM : Hid (s + n ≤ 128) := hid (by omega)
  have HN : Hid (n ≤ 64) := n2
  clear s1 s2 n1 n2
  go_enter Tryz.func13, Tryz.ntmps13
  go_wp2_with fail
  refine H1.out.mono ?_
  rintro x w1 ⟨g1, bs1, rfl, hz1, hl1⟩
  have HZ1 := hid hz1
  have HL1 := hid hl1
  have H2 := hid (zeroPages_any w1 n HN.out)
  clear hz1 hl1 H1
  go_wp2_with fail
  refine H2.out.mono ?_
  rintro x w2 ⟨g2, bs2, rfl, hz2, hl2⟩
  have HZ2 := hid hz2
  have HL2 := hid hl2
  clear hz2 hl2 H2
  go_wp2_with fail
  go_ret2
  have h := mem_of HZ1.out HZ2.out HL1.out HL2.out HM.out (below_one w2 (.cells #[.slice (some ⟨g1, 0, none⟩) s s, .slice (some ⟨g2, 0, none⟩) n n, .int .i64 0] 96)) (gm := w2.heap.size) (by have := HZ1.out.below.size; have := HZ2.out.below.size; omega) 0 (Cel.new _ _ [.slice (some ⟨g1, 0, none⟩) s s, .slice (some ⟨g2, 0, none⟩) n n, .int .i64 0]) _ rfl
  exact ⟨⟨w2.heap.size, g1, g2, bs1 ++ bs2⟩, rfl, h.1, below_on (below_on HZ1.out.below HZ2.out.below) (below_one _ _), h.2⟩
end Go.Proofs.YtdfnbcbnmiohnaaGreatDoor
namespace Go.Proofs.YtdfnbcbnmiohnaaGreatDoor
open Go.RowKit
structure CP (w w' : World) (g : Nat) (bs : List Nat) (Q : List (List Int)) : Prop where
  below : Below w.heap.size w w'
  hg : w.heap.size ≤ g
  cel : Cel w' g 129 (bs.map ptr)
  len : bs.length = Q.length
  pages : ∀ k, k < Q.length → w.heap.size ≤ bs.getD k 0 ∧ Cel w' (bs.getD k 0) 132 (u32s (Q.getD k []))
  full : ∀ k, k < Q.length → (Q.getD k []).length = 1024
  nodup : bs.Nodup
theorem CP.on {w w' w2 : World} {g : Nat} {bs : List Nat} {Q : List (List Int)} (h : CP w w' g bs Q) (hb : Below w'.heap.size w' w2) : CP w w2 g bs Q :=
  ⟨below_on h.below hb, h.hg, h.cel.on hb, h.len, fun k hk => ⟨(h.pages k hk).1, (h.pages k hk).2.on hb⟩, h.full, h.nodup⟩
theorem CP.start {w w' : World} {g : Nat} {bs : List Nat} {n : Nat} (h : ZP w w' g bs n) (hn : bs.length = n) : CP w w' g bs (List.replicate n zs) := by
  refine ⟨h.below, h.hg, ?_, by simp [hn], fun k hk => ?_, fun k hk => ?_, h.nodup⟩
  · have := h.cel; simpa [hn] using this
  · simp only [List.length_replicate] at hk
    rw [rep_p k n hk]
    exact h.pages _ (getD_mem (by omega))
  · simp only [List.length_replicate] at hk
    rw [rep_p k n hk, zs_len]
theorem getD_inj {bs : List Nat} (h : bs.Nodup) {j k : Nat} (hj : j < bs.length) (hk : k < bs.length) (he : bs.getD j 0 = bs.getD k 0) : j = k := by
  simp only [List.getD_eq_getElem?_getD, List.getElem?_eq_getElem hj, List.getElem?_eq_getElem hk, Option.getD_some] at he
  rcases Nat.lt_trichotomy j k with hlt | e | hlt
  · exact absurd he (List.pairwise_iff_getElem.1 h j k hj hk hlt)
  · exact e
  · exact absurd he.symm (List.pairwise_iff_getElem.1 h k j hk hj hlt)
theorem CP.set {w w' w2 : World} {g : Nat} {bs : List Nat} {Q : List (List Int)} (h : CP w w' g bs Q) (k : Nat) (hk : k < Q.length) (L : List Int) (hL : L.length = 1024) (hb : ButL [bs.getD k 0] w' w2) (hc : Cel w2 (bs.getD k 0) 132 (u32s L)) : CP w w2 g bs (Q.set k L) := by
  have hp := h.pages k hk
  refine ⟨h.below.trans (hb.below (fun x hx => by rw [List.mem_singleton] at hx; rw [hx]; exact hp.1) h.below.size), h.hg, h.cel.but hb (fun hm => by rw [List.mem_singleton] at hm; have := h.cel; rw [hm] at this; exact absurd (this.ty hp.2) (by decide)), by simp [h.len], fun j hj => ?_, fun j hj => ?_, h.nodup⟩
  · simp only [List.length_set] at hj
    by_cases e : j = k
    · subst e
      have e2 : (Q.set j L).getD j [] = L := by rw [List.getD_eq_getElem?_getD, List.getElem?_set_self hj]; rfl
      rw [e2]
      exact ⟨hp.1, hc⟩
    · have e2 : (Q.set k L).getD j [] = Q.getD j [] := by rw [List.getD_eq_getElem?_getD, List.getElem?_set_ne (Ne.symm e), ← List.getD_eq_getElem?_getD]
      rw [e2]
      refine ⟨(h.pages j hj).1, (h.pages j hj).2.but hb (fun hm => ?_)⟩
      rw [List.mem_singleton] at hm
      exact e (getD_inj h.nodup (by rw [h.len]; exact hj) (by rw [h.len]; exact hk) hm)
  · simp only [List.length_set] at hj
    by_cases e : j = k
    · subst e
      have e2 : (Q.set j L).getD j [] = L := by rw [List.getD_eq_getElem?_getD, List.getElem?_set_self hj]; rfl
      rw [e2, hL]
    · have e2 : (Q.set k L).getD j [] = Q.getD j [] := by rw [List.getD_eq_getElem?_getD, List.getElem?_set_ne (Ne.symm e), ← List.getD_eq_getElem?_getD]
      rw [e2]; exact h.full j hj
structure RP (w : World) (g : Nat) (bs : List Nat) (Q : List (List Int)) : Prop where
  cel : Cel w g 129 (bs.map ptr)
  len : bs.length = Q.length
  pages : ∀ k, k < Q.length → Cel w (bs.getD k 0) 132 (u32s (Q.getD k []))
  full : ∀ k, k < Q.length → (Q.getD k []).length = 1024
theorem RP.on {w w2 : World} {g : Nat} {bs : List Nat} {Q : List (List Int)} (h : RP w g bs Q) (hb : Below w.heap.size w w2) : RP w2 g bs Q :=
  ⟨h.cel.on hb, h.len, fun k hk => (h.pages k hk).on hb, h.full⟩
theorem RP.at {w : World} {g : Nat} {bs : List Nat} {Q : List (List Int)} (h : RP w g bs Q) (k : Nat) (hk : k < Q.length) : w.cell? ⟨g, k, none⟩ = some (.pointer (some ⟨bs.getD k 0, 0, none⟩)) := by
  have := h.len
  rw [h.cel.cell k, List.getElem?_map, List.getElem?_eq_getElem (by omega)]
  simp [ptr, List.getD_eq_getElem?_getD, List.getElem?_eq_getElem (show k < bs.length by omega)]
end Go.Proofs.YtdfnbcbnmiohnaaGreatDoor
namespace Go.Proofs.YtdfnbcbnmiohnaaGreatDoor
open Go.RowKit
theorem getD_take {α : Type} (l : List α) (d : α) (n k : Nat) (h : k < n) : (l.take n).getD k d = l.getD k d := by
  rw [List.getD_eq_getElem?_getD, List.getElem?_take_of_lt h, ← List.getD_eq_getElem?_getD]
theorem getD_drop {α : Type} (l : List α) (d : α) (n k : Nat) : (l.drop n).getD k d = l.getD (n + k) d := by
  rw [List.getD_eq_getElem?_getD, List.getElem?_drop, ← List.getD_eq_getElem?_getD]
theorem Mem.rs {w : World} {f : Fp} {m : MS} (h : Mem w f m) : RP w f.gs (f.bs.take m.ns) (m.P.take m.ns) := by
  have := h.ns0
  refine ⟨h.sec, by rw [List.length_take, List.length_take, h.len], fun k hk => ?_, fun k hk => ?_⟩
  · rw [List.length_take] at hk
    rw [getD_take _ _ _ _ (by omega), getD_take _ _ _ _ (by omega)]
    exact h.pg k (by omega)
  · rw [List.length_take] at hk
    rw [getD_take _ _ _ _ (by omega)]
    exact h.full k (by omega)
theorem CP.from {w w0 w' : World} {g : Nat} {bs : List Nat} {Q : List (List Int)} (h : CP w0 w' g bs Q) (hb : Below w.heap.size w w0) : CP w w' g bs Q :=
  ⟨below_on hb h.below, Nat.le_trans hb.size h.hg, h.cel, h.len, fun k hk => ⟨Nat.le_trans hb.size (h.pages k hk).1, (h.pages k hk).2⟩, h.full, h.nodup⟩
def MS.same (m o : MS) : Bool := decide (m.P.take m.ns = o.P.take o.ns) && decide (m.P.drop m.ns = o.P.drop o.ns)
end Go.Proofs.YtdfnbcbnmiohnaaGreatDoor
namespace Go.Proofs.YtdfnbcbnmiohnaaGreatDoor
open Go.RowKit
structure DS where
  m : MS
  b : Int
  E : List En
def ew (x : En) : List Int := [e0 x, e1 x]
def wdsOf (b : Int) (E : List En) : List Int := b :: E.flatMap ew
def DS.ws (d : DS) : List Int := wdsOf d.b d.E
def DS.at (d : DS) (p : Nat) : En := d.E.getD p En.zero
structure Dp where
  g : Nat
  gw : Nat
  f : Fp
structure DS.Ok (d : DS) : Prop where
  len : d.E.length = d.m.ns
  n64 : d.m.ns ≤ 64
  ok : ∀ k, k < d.m.ns → (d.at k).ok = true
  own : ∀ k, k < d.m.ns → (d.at k).o < (d.m.ns : Int)
  b0 : 0 ≤ d.b
  b1 : d.b ≤ 64
structure DB (w : World) (p : Dp) (d : DS) : Prop where
  mem : Mem w p.f d.m
  cel : Cel w p.g 99 [ptr p.f.gm, .slice (some ⟨p.gw, 0, none⟩) (1 + 2 * d.m.ns) (1 + 2 * d.m.ns)]
  wds : Cel w p.gw 43 (u32s d.ws)
  ok : d.Ok
def Dp.all (p : Dp) : List Nat := p.g :: p.gw :: p.f.all
def Dp.w (p : Dp) : List Nat := p.gw :: p.f.w
theorem flat_len (E : List En) : (E.flatMap ew).length = 2 * E.length := by
  induction E with
  | nil => rfl
  | cons x E ih => simp only [List.flatMap_cons, List.length_append, ih, ew, List.length_cons, List.length_nil]; omega
theorem wdsOf_len (b : Int) (E : List En) : (wdsOf b E).length = 1 + 2 * E.length := by simp only [wdsOf, List.length_cons, flat_len]; omega
theorem DS.ws_len {d : DS} (h : d.Ok) : d.ws.length = 1 + 2 * d.m.ns := by rw [DS.ws, wdsOf_len, h.len]
theorem flat_at (E : List En) (k : Nat) (h : k < E.length) : (E.flatMap ew)[2 * k]? = some (e0 (E.getD k En.zero)) ∧ (E.flatMap ew)[2 * k + 1]? = some (e1 (E.getD k En.zero)) := by
  induction E generalizing k with
  | nil => simp at h
  | cons x E ih =>
    cases k with
    | zero => exact ⟨rfl, rfl⟩
    | succ k =>
      have := ih k (by simpa using h)
      simp only [List.flatMap_cons, ew, List.cons_append, List.nil_append]
      rw [show 2 * (k + 1) = 2 * k + 1 + 1 by omega]
      simpa using this
theorem wdsOf_at (b : Int) (E : List En) (k : Nat) (h : k < E.length) : (wdsOf b E)[1 + 2 * k]? = some (e0 (E.getD k En.zero)) ∧ (wdsOf b E)[2 + 2 * k]? = some (e1 (E.getD k En.zero)) := by
  have := flat_at E k h
  rw [wdsOf, show 1 + 2 * k = 2 * k + 1 by omega, show 2 + 2 * k = 2 * k + 1 + 1 by omega]
  simpa using this
theorem flat_set (E : List En) (k : Nat) (x : En) (h : k < E.length) : (E.set k x).flatMap ew = ((E.flatMap ew).set (2 * k) (e0 x)).set (2 * k + 1) (e1 x) := by
  induction E generalizing k with
  | nil => simp at h
  | cons y E ih =>
    cases k with
    | zero => simp [ew]
    | succ k =>
      have := ih k (by simpa using h)
      simp only [xzC, List.flatMap_cons, this, ew, List.cons_append, List.nil_append]
      rw [show 2 * (k + 1) = 2 * k + 1 + 1 by omega, show 2 * k + 1 + 1 + 1 = (2 * k + 1) + 1 + 1 by omega]
      simp
theorem wdsOf_set (b : Int) (E : List En) (k : Nat) (x : En) (h : k < E.length) : wdsOf b (E.set k x) = ((wdsOf b E).set (1 + 2 * k) (e0 x)).set (2 + 2 * k) (e1 x) := by
  rw [wdsOf, wdsOf, flat_set E k x h, show 1 + 2 * k = 2 * k + 1 by omega, show 2 + 2 * k = 2 * k + 1 + 1 by omega]
  simp
theorem DB.lt {w : World} {p : Dp} {d : DS} (h : DB w p d) : ∀ k ∈ p.all, k < w.heap.size := by
  intro k hk
  simp only [Dp.all, List.mem_cons] at hk
  rcases hk with rfl | rfl | hk
  · exact h.cel.lt
  · exact h.wds.lt
  · exact h.mem.lt k hk
theorem DB.frame {w w' : World} {p : Dp} {d : DS} {G : List Nat} (h : DB w p d) (hb : ButL G w w') (hd : ∀ k ∈ p.all, k ∉ G) : DB w' p d :=
  ⟨h.mem.frame hb (fun k hk => hd k (by simp [Dp.all, hk])), h.cel.but hb (hd _ (by simp [Dp.all])), h.wds.but hb (hd _ (by simp [Dp.all])), h.ok⟩
theorem DB.on {w w' : World} {p : Dp} {d : DS} (h : DB w p d) (hb : Below w.heap.size w w') : DB w' p d := h.frame (G := []) (.of hb) (by simp)
theorem Mem.ty_w {w : World} {f : Fp} {m : MS} (h : Mem w f m) : ∀ k ∈ f.all, ∀ t cs, Cel w k t cs → t = 96 ∨ t = 129 ∨ t = 132 := by
  intro k hk t cs hc
  simp only [Fp.all, List.mem_cons] at hk
  rcases hk with rfl | rfl | rfl | hk
  · exact .inl (hc.ty h.cel)
  · exact .inr (.inl (hc.ty h.sec))
  · exact .inr (.inl (hc.ty h.ins))
  · obtain ⟨i, hi, rfl⟩ := List.mem_iff_getElem.1 hk
    have := h.pg i (by rw [← h.len]; exact hi)
    simp only [Fp.b, List.getD_eq_getElem?_getD, List.getElem?_eq_getElem hi, Option.getD_some] at this
    exact .inr (.inr (hc.ty this))
theorem Mem.off {w : World} {f : Fp} {m : MS} (h : Mem w f m) {g : Nat} {t : TypeId} {cs : List Value} (hc : Cel w g t cs) (ht : t ≠ 96 ∧ t ≠ 129 ∧ t ≠ 132) : g ∉ f.all := fun hm => by
  rcases h.ty_w g hm t cs hc with e | e | e
  · exact ht.1 e
  · exact ht.2.1 e
  · exact ht.2.2 e
theorem Fp.w_all {f : Fp} {k : Nat} (h : k ∈ f.w) : k ∈ f.all := by
  simp only [Fp.w, Fp.all, List.mem_cons] at h ⊢
  rcases h with h | h <;> simp [h]
theorem DB.memory {w w' : World} {p : Dp} {d : DS} {m' : MS} (h : DB w p d) (hm : Mem w' p.f m') (hb : ButL p.f.w w w') (hn : m'.ns = d.m.ns) : DB w' p { d with m := m' } :=
  ⟨hm, by simpa only [hn] using h.cel.but hb (fun hk => h.mem.off h.cel (by decide) (Fp.w_all hk)), h.wds.but hb (fun hk => h.mem.off h.wds (by decide) (Fp.w_all hk)), by
    obtain ⟨a, b, c, e, f, g⟩ := h.ok
    exact ⟨by simpa only [hn] using a, by simpa only [hn] using b, fun k hk => c k (by have hk' : k < m'.ns := hk; omega), fun k hk => by
      have hk' : k < m'.ns := hk
      have := e k (by omega)
      show (d.at k).o < (m'.ns : Int)
      rw [hn]; exact this, f, g⟩⟩
theorem DB.words {w w' : World} {p : Dp} {d : DS} {b' : Int} {E' : List En} (h : DB w p d) (hc : Cel w' p.gw 43 (u32s (wdsOf b' E'))) (hb : ButL [p.gw] w w') (hk : DS.Ok { d with b := b', E := E' }) : DB w' p { d with b := b', E := E' } := by
  have h1 : p.g ∉ [p.gw] := fun hm => by rw [List.mem_singleton] at hm; have := h.cel; rw [hm] at this; exact absurd (this.ty h.wds) (by decide)
  refine ⟨h.mem.frame hb (fun k hk hm => ?_), h.cel.but hb h1, hc, hk⟩
  rw [List.mem_singleton] at hm
  subst hm
  exact h.mem.off h.wds (by decide) hk
structure DV (w : World) (g gm gw off n c : Nat) (L : List Int) : Prop where
  cel : Cel w g 99 [ptr gm, .slice (some ⟨gw, off, none⟩) n c]
  rng : w.rangeAt gw off (u32s L)
  len : L.length = n
  lt : gw < w.heap.size
theorem DV.on {w w' : World} {g gm gw off n c : Nat} {L : List Int} (h : DV w g gm gw off n c L) (hb : Below w.heap.size w w') : DV w' g gm gw off n c L :=
  ⟨h.cel.on hb, fun j v hv => by
    have := h.rng j v hv
    unfold World.cell? at this ⊢
    rw [hb.block gw h.lt]
    exact this, h.len, by have := hb.size; have := h.lt; omega⟩
theorem DV.at {w : World} {g gm gw off n c : Nat} {L : List Int} (h : DV w g gm gw off n c L) (j : Nat) (x : Int) (hj : L[j]? = some x) : w.cell? ⟨gw, off + j, none⟩ = some (.int .u32 x) := h.rng j _ (by rw [u32s, List.getElem?_map, hj]; rfl)
theorem DB.dv {w : World} {p : Dp} {d : DS} (h : DB w p d) : DV w p.g p.f.gm p.gw 0 (1 + 2 * d.m.ns) (1 + 2 * d.m.ns) d.ws := ⟨h.cel, h.wds.range, d.ws_len h.ok, h.wds.lt⟩
end Go.Proofs.YtdfnbcbnmiohnaaGreatDoor
