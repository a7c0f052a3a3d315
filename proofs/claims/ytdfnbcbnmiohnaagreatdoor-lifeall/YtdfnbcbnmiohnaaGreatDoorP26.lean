import Derived.Test.YtdfnbcbnmiohnaaGreatDoorP24
import Derived.Test.YtdfnbcbnmiohnaaGreatDoorP01
import Derived.Laws.CopyOwn
import Derived.Deep.OwnRows
namespace Go.Proofs.YtdfnbcbnmiohnaaGreatDoor
open Go.RowKit
theorem find_any (w : World) (f : Fp) (m : MS) (h : Mem w f m) (s : Bool) (p : Int) :
    Calls Tryz.prog 71 #[ptr f.gm, fr s p] w fun x w' => x = .returned (pv f (m.at s p)) ∧ Below w.heap.size w w' := by
  have hX := h.on (below_one w (.cells #[.bool s, .int .i64 p] 64))
  have hB := hid (below_one w (.cells #[.bool s, .int .i64 p] 64))
  have c0 := hX.cel.cell 0
  have c1 := hX.cel.cell 1
  have H := hid hX
  have h1 := h.ns0; have h2 := h.most
  clear h hX
  simp only [tqG, tqH] at c0 c1
  have HN : Hid (p < 0 ∨ (((if s then m.ns else m.P.length - m.ns) : Nat) : Int) ≤ p → m.at s p = none) := by
    intro hh; unfold MS.at; cases s <;> simp at hh ⊢ <;> omega
  have HS : Hid (s = true → 0 ≤ p → p < (m.ns : Int) → m.at s p = some p.toNat) := by
    intro hs a b; unfold MS.at; rw [if_pos a, if_pos hs, if_pos b]
  have HI : Hid (s = false → 0 ≤ p → p < ((m.P.length - m.ns : Nat) : Int) → m.at s p = some (m.ns + p.toNat)) := by
    intro hs a b; unfold MS.at; rw [if_pos a, if_neg (by simp [hs]), if_pos b]
  generalize m.at s p = r at *
  cases s
  · by_cases hp : p < 0 ∨ ((m.P.length - m.ns : Nat) : Int) ≤ p
    · have hr := HN.out (by simpa using hp)
      clear HN HS HI
      subst hr
      simp only [ptr, fr, pv] at *
      go_enter Tryz.func71, Tryz.ntmps71
      rcases hp with hp | hp
      all_goals go_wp2_with fail
      all_goals go_ret
      all_goals exact ⟨rfl, hB.out⟩
    · have q0 : 0 ≤ p := by omega
      have q1 : p < ((m.P.length - m.ns : Nat) : Int) := by omega
      have hr := HI.out rfl q0 q1
      clear HN HS HI hp
      subst hr
      have cc := H.out.insAt p.toNat (by omega)
      simp only [ptr, fr, pv] at *
      go_enter Tryz.func71, Tryz.ntmps71
      go_wp2_with fail
      all_goals go_ret
      all_goals exact ⟨rfl, hB.out⟩
  · by_cases hp : p < 0 ∨ (m.ns : Int) ≤ p
    · have hr := HN.out (by simpa using hp)
      clear HN HS HI
      subst hr
      simp only [ptr, fr, pv] at *
      go_enter Tryz.func71, Tryz.ntmps71
      rcases hp with hp | hp
      all_goals go_wp2_with fail
      all_goals go_ret
      all_goals exact ⟨rfl, hB.out⟩
    · have q0 : 0 ≤ p := by omega
      have q1 : p < (m.ns : Int) := by omega
      have hr := HS.out rfl q0 q1
      clear HN HS HI hp
      subst hr
      have cc := H.out.secAt p.toNat (by omega)
      simp only [ptr, fr, pv] at *
      go_enter Tryz.func71, Tryz.ntmps71
      go_wp2_with fail
      all_goals go_ret
      all_goals exact ⟨rfl, hB.out⟩
def In (off : Int) : Prop := 0 ≤ off ∧ off < 1024
instance (off : Int) : Decidable (In off) := by unfold In; exact inferInstance
def MS.err (m : MS) (s : Bool) (p off : Int) : Int := match m.at s p with
  | none => 5
  | some _ => if In off then 0 else 70
def pa (f : Fp) (o : Option Nat) (off : Int) : Value := match o with
  | none => .pointer none
  | some k => if In off then .pointer (some ⟨f.b k, off.toNat, none⟩) else .pointer none
theorem at_any (w : World) (f : Fp) (m : MS) (h : Mem w f m) (s : Bool) (p off : Int) :
    Calls Tryz.prog 66 #[ptr f.gm, fr s p, .int .i64 off] w fun x w' => x = .returned (.tuple #[pa f (m.at s p) off, .int .i64 (m.err s p off)]) ∧ Below w.heap.size w w' := by
  have hX := h.on (below_one w (.cells #[.bool s, .int .i64 p] 64))
  have hB := hid (below_one w (.cells #[.bool s, .int .i64 p] 64))
  have HF := hid (find_any _ f m hX s p)
  have h1 := h.ns0
  have hlt : Hid (∀ k, m.at s p = some k → k < m.P.length) := fun k hk => MS.at_lt h1 hk
  have H := hid hX
  clear h hX h1
  unfold MS.err
  generalize hr : m.at s p = r at *
  cases r with
  | none =>
    simp only [fr, ptr, pv, pa] at *
    go_enter Tryz.func66, Tryz.ntmps66
    go_wp2_with fail
    refine HF.out.mono ?_
    rintro x w1 ⟨rfl, hb1⟩
    have HB1 := hid (below_on hB.out hb1)
    clear hb1
    go_wp2_with fail
    go_ret2
    exact ⟨rfl, HB1.out⟩
  | some k =>
    have hk := hlt.out k rfl
    by_cases ho : In off
    · simp only [fr, ptr, pv, pa, if_pos ho] at *
      obtain ⟨o0, o1⟩ := ho
      go_enter Tryz.func66, Tryz.ntmps66
      go_wp2_with fail
      refine HF.out.mono ?_
      rintro x w1 ⟨rfl, hb1⟩
      have HB1 := hid (below_on hB.out hb1)
      clear hb1
      go_wp2_with fail
      go_ret2
      exact ⟨rfl, HB1.out⟩
    · simp only [fr, ptr, pv, pa, if_neg ho] at *
      have ho' : off < 0 ∨ 1024 ≤ off := by unfold In at ho; omega
      clear ho
      go_enter Tryz.func66, Tryz.ntmps66
      go_wp2_with fail
      refine HF.out.mono ?_
      rintro x w1 ⟨rfl, hb1⟩
      have HB1 := hid (below_on hB.out hb1)
      clear hb1
      rcases ho' with ho | ho
      all_goals go_wp2_with fail
      all_goals go_ret2
      all_goals exact ⟨rfl, HB1.out⟩
theorem meter_any (w : World) (f : Fp) (m : MS) (h : Mem w f m) :
    Calls Tryz.prog 37 #[ptr f.gm] w fun x w' => x = .returned (.int .i64 m.c) ∧ w' = w := by
  have c2 := h.cm
  clear h
  simp only [ptr] at *
  go_enter Tryz.func37, Tryz.ntmps37
  go_wp2_with fail
  go_ret
  exact ⟨rfl, rfl⟩
def MS.word (m : MS) (s : Bool) (p off : Int) : Int := match m.at s p with
  | none => 0
  | some k => if In off then wd (m.p k) off.toNat else 0
theorem Mem.word {w : World} {f : Fp} {m : MS} (h : Mem w f m) (k : Nat) (hk : k < m.P.length) (j : Nat) (hj : j < 1024) : w.cell? ⟨f.b k, j, none⟩ = some (.int .u32 (wd (m.p k) j)) := by
  have := h.full k hk
  rw [(h.pg k hk).cell j, u32s, List.getElem?_map, List.getElem?_eq_getElem (by omega)]
  simp [wd, List.getD_eq_getElem?_getD, List.getElem?_eq_getElem (show j < (m.p k).length by omega)]
theorem peek_any (w : World) (f : Fp) (m : MS) (h : Mem w f m) (s : Bool) (p off : Int) :
    Calls Tryz.prog 25 #[ptr f.gm, fr s p, .int .i64 off] w fun x w' => x = .returned (.int .u32 (m.word s p off)) ∧ Below w.heap.size w w' := by
  have hX := h.on (below_one w (.cells #[.bool s, .int .i64 p] 64))
  have hB := hid (below_one w (.cells #[.bool s, .int .i64 p] 64))
  have HF := hid (at_any _ f m hX s p off)
  have h1 := h.ns0
  have hlt : Hid (∀ k, m.at s p = some k → k < m.P.length) := fun k hk => MS.at_lt h1 hk
  have H := hid hX
  clear h hX h1
  unfold MS.err at HF
  unfold MS.word
  generalize hr : m.at s p = r at *
  cases r with
  | none =>
    simp only [fr, ptr, pa] at *
    go_enter Tryz.func25, Tryz.ntmps25
    go_wp2_with fail
    refine HF.out.mono ?_
    rintro x w1 ⟨rfl, hb1⟩
    have HB1 := hid (below_on hB.out hb1)
    clear hb1
    go_wp2_with fail
    go_ret
    exact ⟨rfl, HB1.out⟩
  | some k =>
    have hk := hlt.out k rfl
    by_cases ho : In off
    · simp only [fr, ptr, pa, if_pos ho] at *
      obtain ⟨o0, o1⟩ := ho
      go_enter Tryz.func25, Tryz.ntmps25
      go_wp2_with fail
      refine HF.out.mono ?_
      rintro x w1 ⟨rfl, hb1⟩
      have HB1 := hid (below_on hB.out hb1)
      have cc := (H.out.on hb1).word k hk off.toNat (by omega)
      clear hb1
      go_wp2_with fail
      go_ret
      exact ⟨rfl, HB1.out⟩
    · simp only [fr, ptr, pa, if_neg ho] at *
      clear ho
      go_enter Tryz.func25, Tryz.ntmps25
      go_wp2_with fail
      refine HF.out.mono ?_
      rintro x w1 ⟨rfl, hb1⟩
      have HB1 := hid (below_on hB.out hb1)
      clear hb1
      go_wp2_with fail
      go_ret
      exact ⟨rfl, HB1.out⟩
def MS.tick (m : MS) (n : Int) : MS := { m with c := wrap64 (m.c + n) }
theorem Mem.tick {w : World} {f : Fp} {m : MS} (h : Mem w f m) (n : Int) : Mem (w.setCell ⟨f.gm, 2, none⟩ (.int .i64 (wrap64 (m.c + n)))) f (m.tick n) := h.meter _
def MS.read (m : MS) (s : Bool) (p off : Int) : MS := match m.at s p with
  | none => m
  | some _ => if In off then m.tick 1 else m
theorem u32s_set (L : List Int) (j : Nat) (v : Int) : (u32s L).set j (.int .u32 v) = u32s (L.set j v) := by simp [u32s, List.map_set]
theorem Mem.put {w : World} {f : Fp} {m : MS} (h : Mem w f m) (k : Nat) (hk : k < m.P.length) (j : Nat) (v : Int) : Mem (w.setCell ⟨f.b k, j, none⟩ (.int .u32 v)) f { m with P := m.P.set k ((m.p k).set j v) } :=
  h.page k hk _ (by rw [List.length_set]; exact h.full k hk) (.setCell _ _ _ _ (by simp)) (by rw [← u32s_set]; exact (h.pg k hk).setCell j _)
def MS.write (m : MS) (s : Bool) (p off v : Int) : MS := match m.at s p with
  | none => m
  | some k => if In off then { m.tick 1 with P := m.P.set k ((m.p k).set off.toNat v) } else m
theorem write_any (w : World) (f : Fp) (m : MS) (h : Mem w f m) (s : Bool) (p off v : Int) :
    Calls Tryz.prog 53 #[ptr f.gm, fr s p, .int .i64 off, .int .u32 v] w fun x w' => x = .returned (.int .i64 (m.err s p off)) ∧ Mem w' f (m.write s p off v) ∧ ButL f.w w w' := by
  have hX := h.on (below_one w (.cells #[.bool s, .int .i64 p] 64))
  have hB := hid (below_one w (.cells #[.bool s, .int .i64 p] 64))
  have HF := hid (at_any _ f m hX s p off)
  have h1 := h.ns0
  have hlt : Hid (∀ k, m.at s p = some k → k < m.P.length) := fun k hk => MS.at_lt h1 hk
  have H := hid hX
  clear h hX h1
  unfold MS.err at HF ⊢
  unfold MS.write
  generalize hr : m.at s p = r at *
  cases r with
  | none =>
    simp only [fr, ptr, pa] at *
    go_enter Tryz.func53, Tryz.ntmps53
    go_wp2_with fail
    refine HF.out.mono ?_
    rintro x w1 ⟨rfl, hb1⟩
    have HB1 := hid (below_on hB.out hb1)
    have HM := hid (H.out.on hb1)
    clear hb1
    go_wp2_with fail
    go_ret
    exact ⟨rfl, HM.out, .of HB1.out⟩
  | some k =>
    have hk := hlt.out k rfl
    by_cases ho : In off
    · simp only [fr, ptr, pa, if_pos ho] at *
      obtain ⟨o0, o1⟩ := ho
      go_enter Tryz.func53, Tryz.ntmps53
      go_wp2_with fail
      refine HF.out.mono ?_
      rintro x w1 ⟨rfl, hb1⟩
      have HB1 := hid (below_on hB.out hb1)
      have HM := hid (H.out.on hb1)
      have c2 := HM.out.cm
      have f2 := HM.out.cel.free 2
      have cc : (w1.setCell ⟨f.gm, 2, none⟩ (.int .i64 (wrap64 (m.c + 1)))).cell? ⟨f.b k, off.toNat, none⟩ = some (.int .u32 (wd (m.p k) off.toNat)) := (HM.out.tick 1).word k hk off.toNat (by omega)
      have cf : (w1.setCell ⟨f.gm, 2, none⟩ (.int .i64 (wrap64 (m.c + 1)))).frozen? ⟨f.b k, off.toNat, none⟩ = false := ((HM.out.tick 1).pg k hk).free _
      have HT := hid ((HM.out.tick 1).put k hk off.toNat v)
      have HG := hid (HM.out.mem k hk)
      clear hb1
      go_wp2_with fail
      go_ret
      exact ⟨rfl, HT.out, ((ButL.of HB1.out).trans (.setCell _ _ _ _ (by simp [Fp.w]))).trans (.setCell _ _ _ _ (by simp only [Fp.w, List.mem_cons]; exact .inr HG.out))⟩
    · simp only [fr, ptr, pa, if_neg ho] at *
      clear ho
      go_enter Tryz.func53, Tryz.ntmps53
      go_wp2_with fail
      refine HF.out.mono ?_
      rintro x w1 ⟨rfl, hb1⟩
      have HB1 := hid (below_on hB.out hb1)
      have HM := hid (H.out.on hb1)
      clear hb1
      go_wp2_with fail
      go_ret
      exact ⟨rfl, HM.out, .of HB1.out⟩
def pgV (L : List Int) : Value := .agg (u32s L).toArray
def zs : List Int := List.replicate 1024 0
theorem zs_len : zs.length = 1024 := List.length_replicate
theorem under24 : Tryz.prog.underlying 51 = some (.slice 43) := by kernel_rfl
theorem info85 : (Tryz.prog.info? 132).map (fun i => (i.zero, i.size)) = some (some (.agg (u32s zs).toArray), 1024) := by kernel_rfl
theorem size32 : (Tryz.prog.info? 43).map (·.size) = some 1 := by kernel_rfl
theorem u32s_one (L : List Int) : ∀ v ∈ u32s L, v.oneCell' = true := by
  intro v hv
  simp only [u32s, List.mem_map] at hv
  obtain ⟨x, _, rfl⟩ := hv
  rfl
theorem zeroCells_one (z : Value) (n : Nat) : (Builtin.zeroCells #[z] n).toList = List.replicate n z := by
  simp [Builtin.zeroCells]
  apply List.ext_getElem
  · simp
  · intro i h1 h2
    simp [Nat.mod_one]
theorem run_clear_row (w : World) (g : Nat) (ty : TypeId) (n c : Nat) (cs : List Value) (hg : Cel w g 132 cs) (hn : cs.length = n) (h0 : 0 < n) :
    (Builtin.clear_ #[51] ty #[.slice (some ⟨g, 0, none⟩) n c]).run Tryz.prog w = .ok (.tuple #[]) (w.setRow g (List.replicate n (Value.int .u32 0)).toArray) := by
  have hz : ∀ w, (zeroValue 43).run Tryz.prog w = .ok (.int .u32 0) w := fun w => by
    have : (Tryz.prog.info? 43).map (fun i => i.zero) = some (some (.int .u32 0)) := by kernel_rfl
    cases hq : Tryz.prog.info? 43 with
    | none => simp [hq] at this
    | some i => simp [hq] at this; simp [zeroValue, typeInfo, hq, this]
  have hzc : (Builtin.zeroCells (Value.int .u32 0).cells n).toList = List.replicate n (Value.int .u32 0) := zeroCells_one _ n
  have hst := run_storeCells_at Tryz.prog g 0 132 (List.replicate n (Value.int .u32 0)) 0 cs.toArray w hg (by simp [hn]) (by intro v hv; rw [List.eq_of_mem_replicate hv]; rfl)
  simp only [Nat.add_zero, Nat.zero_add] at hst
  have e : List.take 0 cs.toArray.toList ++ List.replicate n (Value.int .u32 0) ++ List.drop (List.replicate n (Value.int .u32 0)).length cs.toArray.toList = List.replicate n (Value.int .u32 0) := by
    rw [List.drop_eq_nil_of_le (by simp [hn])]; simp
  rw [e] at hst
  clear hn
  obtain ⟨m, rfl⟩ : ∃ m, n = m + 1 := ⟨n - 1, by omega⟩
  simp [Builtin.clear_, run_underlying under24, hz, hzc, hst]
theorem wpList_clear_pg {ops : Array Oper} {rest : List Oper} {o : Oper} {a : Act} {w : World} {Q : Exit → Act → World → Prop} (hgd : o.guard = none) (x : Operand) (ho : o.op = .call { callee := .builtin .clear, args := #[x], argTypes := #[51] })
    (g c : Nat) (L : List Int) (hx : a.eval x = .slice (some ⟨g, 0, none⟩) 1024 c) (hg : Cel w g 132 (u32s L)) (hL : L.length = 1024)
    (h : ∀ w', Cel w' g 132 (u32s zs) → ButL [g] w w' → w'.heap.size = w.heap.size → wpList Tryz.prog ops Q rest (a.put o.dst (.tuple #[])) w') : wpList Tryz.prog ops Q (o :: rest) a w := by
  refine wpList_plain hgd fun K hK => ?_
  have hz : List.replicate 1024 (Value.int .u32 0) = u32s zs := (List.map_replicate).symm
  have hrun := run_clear_row w g o.type 1024 c _ hg (by rw [u32s_len, hL]) (by decide)
  rw [hz] at hrun
  unfold Oper.wp
  simp only [execOp, ho, resolve, invoke, builtin, hx, Sem.run_bind, Sem.run_pure, hrun, Result.andThen_ok, List.map_toArray, List.map_cons, List.map_nil]
  exact hK _ _ (h _ (hg.set _) (.setRow _ _ _ (by simp)) (by simp))
theorem Cel.src {w : World} {g : Nat} {t : TypeId} {cs : List Value} (h : Cel w g t cs) : ∀ j v, cs[j]? = some v → w.cell? ((⟨g, 0, none⟩ : Addr).add j) = some v := by
  intro j v hv
  rw [Addr.add_mid, Nat.zero_add, h.cell j, hv]
def MS.zero (m : MS) (s : Bool) (p : Int) : MS := match m.at s p with
  | none => m
  | some k => { m.tick 1024 with P := m.P.set k zs }
def MS.perr (m : MS) (s : Bool) (p : Int) : Int := if (m.at s p).isSome then 0 else 5
theorem zero_any (w : World) (f : Fp) (m : MS) (h : Mem w f m) (s : Bool) (p : Int) :
    Calls Tryz.prog 98 #[ptr f.gm, fr s p] w fun x w' => x = .returned (.int .i64 (m.perr s p)) ∧ Mem w' f (m.zero s p) ∧ ButL f.w w w' := by
  have hX := h.on (below_one w (.cells #[.bool s, .int .i64 p] 64))
  have hB := hid (below_one w (.cells #[.bool s, .int .i64 p] 64))
  have HF := hid (find_any _ f m hX s p)
  have h1 := h.ns0
  have hlt : Hid (∀ k, m.at s p = some k → k < m.P.length) := fun k hk => MS.at_lt h1 hk
  have H := hid hX
  clear h hX h1
  unfold MS.zero MS.perr
  generalize hr : m.at s p = r at *
  cases r with
  | none =>
    simp only [fr, ptr, pv] at *
    go_enter Tryz.func98, Tryz.ntmps98
    go_wp2_with fail
    refine HF.out.mono ?_
    rintro x w1 ⟨rfl, hb1⟩
    have HB1 := hid (below_on hB.out hb1)
    have HM := hid (H.out.on hb1)
    clear hb1
    go_wp2_with fail
    go_ret
    exact ⟨rfl, HM.out, .of HB1.out⟩
  | some k =>
    have hk := hlt.out k rfl
    simp only [fr, ptr, pv] at *
    go_enter Tryz.func98, Tryz.ntmps98
    go_wp2_with fail
    refine HF.out.mono ?_
    rintro x w1 ⟨rfl, hb1⟩
    have HB1 := hid (below_on hB.out hb1)
    have HM := hid (H.out.on hb1)
    have c2 := HM.out.cm
    have f2 := HM.out.cel.free 2
    have HT := hid (HM.out.tick 1024)
    have HG := hid (HM.out.mem k hk)
    have HBT : Hid (ButL f.w w (w1.setCell ⟨f.gm, 2, none⟩ (.int .i64 (wrap64 (m.c + 1024))))) := hid ((ButL.of HB1.out).trans (.setCell _ _ _ _ (by simp [Fp.w])))
    clear hb1
    go_wp2_with (refine wpList_clear_pg rfl _ rfl (f.b k) 1024 (m.p k) rfl (HT.out.pg k hk) (HT.out.full k hk) ?_; intro w2 hc2 hb2 hs2; have HC2 := hid hc2; have HB2 := hid hb2; clear hc2 hb2)
    go_ret
    exact ⟨rfl, HT.out.page k hk zs zs_len HB2.out HC2.out, HBT.out.trans (HB2.out.mono (by intro g hg; rw [List.mem_singleton] at hg; subst hg; simp only [Fp.w, List.mem_cons]; exact .inr HG.out))⟩
theorem wpList_make_cel {ops : Array Oper} {rest : List Oper} {o : Oper} {a : Act} {w : World} {Q : Exit → Act → World → Prop} (hgd : o.guard = none) (l c : Operand) (t e : TypeId) (ho : o.op = Op.makeSlice t l c) (z : Value) (b : Nat)
    (hu : Tryz.prog.underlying t = some (.slice e)) (hinfo : (Tryz.prog.info? e).map (fun i => (i.zero, i.size, i.bytes)) = some (some z, 1, b)) (hz1 : z.cells = #[z]) (n : Nat) (L C : Int) (hl : a.eval l = .int .i64 L) (hc : a.eval c = .int .i64 C) (hL : L = (n : Int)) (hC : C = (n : Int))
    (hb : b * n ≤ 281474976710656) (hn : n ≤ 9223372036854775807)
    (h : ∀ w', Cel w' w.heap.size e (List.replicate n z) → Below w.heap.size w w' → w'.heap.size = w.heap.size + 1 → wpList Tryz.prog ops Q rest (a.put o.dst (.slice (some ⟨w.heap.size, 0, none⟩) n n)) w') :
    wpList Tryz.prog ops Q (o :: rest) a w := by
  obtain ⟨i, hi, hzz⟩ := Option.map_eq_some_iff.1 hinfo
  simp only [Prod.mk.injEq] at hzz
  obtain ⟨hz, hs, hbb⟩ := hzz
  subst hL hC
  refine wpList_make_row w hgd l c t ho e i z hu hi hz hs hz1 .i64 .i64 n hl hc (by rw [hbb]; exact hb) hn ?_
  have e1 : madeCells #[z] n = (List.replicate n z).toArray := by rw [← toList_madeCells_one]
  rw [e1]
  exact h _ (Cel.new _ _ _) (below_one _ _) (by simp)
theorem info32 : (Tryz.prog.info? 43).map (fun i => (i.zero, i.size, i.bytes)) = some (some (.int .u32 0), 1, 4) := by kernel_rfl
def MS.tk (m : MS) (s : Bool) (p n : Int) : MS := if (m.at s p).isSome then m.tick n else m
def PageIs (w w' : World) (m : MS) (s : Bool) (p : Int) (v : Value) : Prop := match m.at s p with
  | none => v = .slice none 0 0
  | some k => ∃ g, w.heap.size ≤ g ∧ v = .slice (some ⟨g, 0, none⟩) 1024 1024 ∧ Cel w' g 43 (u32s (m.p k))
def MS.bl (m : MS) (s : Bool) (p : Int) : Bool := match m.at s p with
  | none => false
  | some k => decide (m.p k = zs)
def MS.lerr (m : MS) (s : Bool) (p : Int) (L : List Int) : Int := match m.at s p with
  | none => 5
  | some _ => if L.length = 1024 then 0 else 2
def MS.lay (m : MS) (s : Bool) (p : Int) (L : List Int) : MS := match m.at s p with
  | none => m
  | some k => if L.length = 1024 then { m.tick 1024 with P := m.P.set k L } else m
theorem wpList_alloc_pg {ops : Array Oper} {rest : List Oper} {o : Oper} {a : Act} {w : World} {Q : Exit → Act → World → Prop} (hgd : o.guard = none) (ho : o.op = .alloc 132)
    (h : ∀ w', Cel w' w.heap.size 132 (u32s zs) → Below w.heap.size w w' → w'.heap.size = w.heap.size + 1 → wpList Tryz.prog ops Q rest (a.put o.dst (.pointer (some ⟨w.heap.size, 0, none⟩))) w') : wpList Tryz.prog ops Q (o :: rest) a w := by
  refine wpList_plain hgd fun K hK => ?_
  have hi := info85
  obtain ⟨i, hi, hzz⟩ := Option.map_eq_some_iff.1 hi
  simp only [Prod.mk.injEq] at hzz
  have hz : ∀ w, (zeroValue 132).run Tryz.prog w = .ok (.agg (u32s zs).toArray) w := fun w => by simp [zeroValue, typeInfo, hi, hzz.1]
  have hn : (newVar 132 (.agg (u32s zs).toArray)).run Tryz.prog w = .ok ⟨w.heap.size, 0, none⟩ (w.alloc (.cells (u32s zs).toArray 132)) := by
    simp [newVar, newRow, Value.cells]
  unfold Oper.wp execOp
  simp only [ho, Instr.alloc, Sem.run_bind, Sem.run_pure, hz, hn, Result.andThen_ok]
  exact hK _ _ (h _ (Cel.new _ _ _) (below_one _ _) (by simp))
theorem under75 : Tryz.prog.underlying 93 = some (.slice 129) := by kernel_rfl
theorem info82 : (Tryz.prog.info? 129).map (fun i => (i.zero, i.size, i.bytes)) = some (some (.pointer none), 1, 8) := by kernel_rfl
structure ZP (w w' : World) (g : Nat) (bs : List Nat) (n : Nat) : Prop where
  below : Below w.heap.size w w'
  hg : w.heap.size ≤ g
  cel : Cel w' g 129 (bs.map ptr ++ List.replicate (n - bs.length) (.pointer none))
  le : bs.length ≤ n
  pages : ∀ b ∈ bs, w.heap.size ≤ b ∧ Cel w' b 132 (u32s zs)
  nodup : bs.Nodup
theorem ZP.on {w w' w2 : World} {g : Nat} {bs : List Nat} {n : Nat} (h : ZP w w' g bs n) (hb : Below w'.heap.size w' w2) : ZP w w2 g bs n :=
  ⟨below_on h.below hb, h.hg, h.cel.on hb, h.le, fun b hbs => ⟨(h.pages b hbs).1, (h.pages b hbs).2.on hb⟩, h.nodup⟩
theorem ZP.step {w w' w2 : World} {g : Nat} {bs : List Nat} {n : Nat} (h : ZP w w' g bs n) (hlt : bs.length < n) (hb : Below w'.heap.size w' w2) (hc : Cel w2 w'.heap.size 132 (u32s zs)) :
    ZP w (w2.setCell ⟨g, bs.length, none⟩ (.pointer (some ⟨w'.heap.size, 0, none⟩))) g (bs ++ [w'.heap.size]) n := by
  have h2 := h.on hb
  have hgl := h.cel.lt
  have hne : ∀ b, b ≠ g → ∀ t cs, Cel w2 b t cs → Cel (w2.setCell ⟨g, bs.length, none⟩ (.pointer (some ⟨w'.heap.size, 0, none⟩))) b t cs := fun b hbg t cs hcc => hcc.but (ButL.setCell (G := [g]) w2 g _ _ (by simp)) (by rw [List.mem_singleton]; exact hbg)
  refine ⟨h2.below.setCell (p := ⟨g, bs.length, none⟩) h.hg _, h.hg, ?_, by simp; omega, ?_, ?_⟩
  · have := h2.cel.setCell bs.length (.pointer (some ⟨w'.heap.size, 0, none⟩))
    have e : (bs.map ptr ++ List.replicate (n - bs.length) (Value.pointer none)).set bs.length (.pointer (some ⟨w'.heap.size, 0, none⟩)) = (bs ++ [w'.heap.size]).map ptr ++ List.replicate (n - (bs ++ [w'.heap.size]).length) (Value.pointer none) := by
      rw [List.set_append_right _ _ (by simp)]
      obtain ⟨k, hk⟩ : ∃ k, n - bs.length = k + 1 := ⟨n - bs.length - 1, by omega⟩
      have hk2 : n - (bs ++ [w'.heap.size]).length = k := by simp; omega
      rw [hk, hk2]
      simp [List.replicate_succ, ptr]
    rw [e] at this
    exact this
  · intro b hb'
    rw [List.mem_append, List.mem_singleton] at hb'
    rcases hb' with hb' | rfl
    · refine ⟨(h.pages b hb').1, hne b ?_ _ _ (h2.pages b hb').2⟩
      intro e; subst e
      exact absurd (h.cel.ty (h.pages _ hb').2) (by decide)
    · exact ⟨h.below.size, hne _ (by omega) _ _ hc⟩
  · rw [List.nodup_append]
    refine ⟨h.nodup, by simp, ?_⟩
    intro a ha b hb'
    rw [List.mem_singleton] at hb'
    subst hb'
    have := (h.pages a ha).2.lt
    omega
theorem zeroPages_any (w : World) (n : Nat) (hn : n ≤ 64) :
    Calls Tryz.prog 47 #[.int .i64 (n : Int)] w fun x w' => ∃ g bs, x = .returned (.slice (some ⟨g, 0, none⟩) n n) ∧ ZP w w' g bs n ∧ bs.length = n := by
  have n1 : (n : Int) ≤ 64 := by omega
  go_enter Tryz.func47, Tryz.ntmps47
  go_wp2_with (first | (at_make; refine wpList_make_cel rfl _ _ 93 129 rfl (.pointer none) 8 under75 info82 rfl n _ _ rfl rfl rfl rfl (by omega) (by omega) ?_))
  intro w1 hc1 hb1 hs1
  have HZ : Hid (ZP w w1 w.heap.size [] n) := hid ⟨hb1, Nat.le_refl _, by simpa using hc1, by simp, by simp, by simp⟩
  clear hc1 hb1 hs1
  generalize w.heap.size = g at *
  go_wp2_with fail
  go_loopw [4, 9] (fun _ v wr => ∃ bs : List Nat, v = .int .i64 (bs.length : Int) ∧ Hid (ZP w wr g bs n)) (fun _ v _ => n - (intOf v).toNat)
  case atStart => exact ⟨[], rfl, HZ⟩
  case round =>
    obtain ⟨bs, rfl, HQ⟩ := hrel
    have hle := HQ.out.le
    by_cases hlt : bs.length < n
    · have c1 : (bs.length : Int) < (n : Int) := by omega
      have q1 : (bs.length : Int) ≤ 64 := by omega
      have HG := hid HQ.out.cel
      go_wp2_with (first | (refine wpList_alloc_pg rfl rfl ?_))
      intro w2 hc2 hb2 hs2
      have HS := hid (HQ.out.step hlt hb2 hc2)
      have fz := (HG.out.on hb2).free bs.length
      have cz : w2.cell? ⟨g, bs.length, none⟩ = some (.pointer none) := by
        rw [(HG.out.on hb2).cell bs.length, List.getElem?_append_right (by simp)]
        simp [List.getElem?_replicate]; omega
      clear hc2 hb2 hs2
      go_wp2_with fail
      go_roundw
      case measure => simp [intOf] <;> omega
      case rel => exact ⟨bs ++ [wr.heap.size], by simp, HS⟩
    · have hqe : bs.length = n := by omega
      have c1 : ¬ (bs.length : Int) < (n : Int) := by omega
      go_wp2_with fail
      go_ret
      exact ⟨g, rfl, bs, HQ.out, hqe⟩
def MS.new (s n : Nat) : MS := ⟨s, List.replicate (s + n) zs, 0⟩
theorem rep_p (k n : Nat) (hk : k < n) : (List.replicate n zs).getD k [] = zs := by
  simp [List.getD_eq_getElem?_getD, hk]
theorem getD_mem {l : List Nat} {k : Nat} (hk : k < l.length) : l.getD k 0 ∈ l := by
  rw [List.getD_eq_getElem?_getD, List.getElem?_eq_getElem hk]; simp
theorem mem_of {w w1 w2 w3 : World} {g1 g2 gm : Nat} {bs1 bs2 : List Nat} {s n : Nat} (h1 : ZP w w1 g1 bs1 s) (h2 : ZP w1 w2 g2 bs2 n) (hs : bs1.length = s) (hn : bs2.length = n) (hm : s + n ≤ 128) (hb : Below w2.heap.size w2 w3) (hgm : w.heap.size ≤ gm) (c : Int)
    (hc : Cel w3 gm 96 [.slice (some ⟨g1, 0, none⟩) s s, .slice (some ⟨g2, 0, none⟩) n n, .int .i64 c]) (P : List (List Int)) (hP : P = List.replicate (s + n) zs) :
    Mem w3 ⟨gm, g1, g2, bs1 ++ bs2⟩ ⟨s, P, c⟩ ∧ (∀ k ∈ (⟨gm, g1, g2, bs1 ++ bs2⟩ : Fp).all, w.heap.size ≤ k) := by
  subst hP
  have h1' := (h1.on h2.below).on hb
  have h2' := h2.on hb
  refine ⟨⟨?_, ?_, ?_, ?_, ?_, ?_, ?_, ?_, ?_⟩, ?_⟩
  · simpa using hc
  · have := h1'.cel
    simpa [hs, List.take_left' hs] using this
  · have := h2'.cel
    simpa [hn, List.drop_left' hs] using this
  · simp [hs, hn]
  · simp
  · simpa using hm
  · intro k hk
    simp only [List.length_replicate] at hk
    have e : (⟨s, List.replicate (s + n) zs, c⟩ : MS).p k = zs := rep_p k (s + n) hk
    rw [e]
    have hmem := getD_mem (l := bs1 ++ bs2) (k := k) (by simp [hs, hn]; exact hk)
    have hb' : (⟨gm, g1, g2, bs1 ++ bs2⟩ : Fp).b k ∈ bs1 ++ bs2 := hmem
    rw [List.mem_append] at hb'
    rcases hb' with hb' | hb'
    · exact (h1'.pages _ hb').2
    · exact (h2'.pages _ hb').2
  · intro k hk
    simp only [List.length_replicate] at hk
    have e : (⟨s, List.replicate (s + n) zs, c⟩ : MS).p k = zs := rep_p k (s + n) hk
    rw [e, zs_len]
  · rw [List.nodup_append]
    refine ⟨h1.nodup, h2.nodup, ?_⟩
    intro a ha b hb' e
    subst e
    have := (h1.pages a ha).2.lt
    have := (h2.pages a hb').1
    omega
  · intro k hk
    have := h1.below.size
    simp only [Fp.all, List.mem_cons, List.mem_append] at hk
    rcases hk with rfl | rfl | rfl | hk | hk
    · exact hgm
    · exact h1.hg
    · have := h2.hg; omega
    · exact (h1.pages k hk).1
    · have := (h2.pages k hk).1; omega
structure NewMem (w w' : World) (f : Fp) (m : MS) : Prop where
  mem : Mem w' f m
  below : Below w.heap.size w w'
  new : ∀ k ∈ f.all, w.heap.size ≤ k
theorem new_any (w : World) (s n : Nat) (s1 : 1 ≤ s) (s2 : s ≤ 64) (n1 : 1 ≤ n) (n2 : n ≤ 64) :
    Calls Tryz.prog 13 #[.int .i64 (s : Int), .int .i64 (n : Int)] w fun x w' => ∃ f, x = .returned (.tuple #[ptr f.gm, .int .i64 0]) ∧ NewMem w w' f (MS.new s n) := by
  have H1 := hid (zeroPages_any w s s2)
  have a1 : (1 : Int) ≤ (s : Int) := by omega
  have a2 : (s : Int) ≤ 64 := by omega
  have a3 : (1 : Int) ≤ (n : Int) := by omega
  have a4 : (n : Int) ≤ 64 := by omega
  have HM : Hid (s + n ≤ 128) := hid (by omega)
  have HN : Hid (n ≤ 64) := n2
  clear s1 s2 n1 n2
  go_enter Tryz.func13, Tryz.ntmps13
  go_wp2_with fail
  refine H1.out.mono ?_
  rintro x w1 ⟨g1, bs1, rfl, hz1, hl1⟩
  have HZ1 := hid hz1
  have HL1 := hid hl1
  have H2 := hid (zeroPages_any w1 n HN.out)
  clear hz1 hl1 H1
  go_wp2_with fail
  refine H2.out.mono ?_
  rintro x w2 ⟨g2, bs2, rfl, hz2, hl2⟩
  have HZ2 := hid hz2
  have HL2 := hid hl2
  clear hz2 hl2 H2
  go_wp2_with fail
  go_ret2
  have h := mem_of HZ1.out HZ2.out HL1.out HL2.out HM.out (below_one w2 (.cells #[.slice (some ⟨g1, 0, none⟩) s s, .slice (some ⟨g2, 0, none⟩) n n, .int .i64 0] 96)) (gm := w2.heap.size) (by have := HZ1.out.below.size; have := HZ2.out.below.size; omega) 0 (Cel.new _ _ [.slice (some ⟨g1, 0, none⟩) s s, .slice (some ⟨g2, 0, none⟩) n n, .int .i64 0]) _ rfl
  exact ⟨⟨w2.heap.size, g1, g2, bs1 ++ bs2⟩, rfl, h.1, below_on (below_on HZ1.out.below HZ2.out.below) (below_one _ _), h.2⟩
end Go.Proofs.YtdfnbcbnmiohnaaGreatDoor
