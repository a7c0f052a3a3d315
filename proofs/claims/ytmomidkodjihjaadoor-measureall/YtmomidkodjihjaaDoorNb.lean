/- The document's lists of operations; its Decode. -/
import Derived.Test.YtmomidkodjihjaaDoorNa
namespace Go.Proofs.YtmomidkodjihjaaDoor
open Go.RowKit
open H
set_option maxHeartbeats 4000000
set_option maxRecDepth 100000
theorem Tryd.info80 : (Tryd.prog.info? 80).map (fun i => (i.zero, i.size, i.bytes)) = some (some (.agg #[.int .i64 0, .int .u32 0, .slice none 0 0]), 3, 40) := by kernel_rfl
/-- The document's list of operations, of the call's own. -/
structure HR (W wr : World) (v : Value) (l : List Ov) : Prop where
  own : wr.ownsRow W.heap.size 80 3 v l.length (l.flatMap Ov.cs)
  below : Below W.heap.size W wr
  ws : ∀ x ∈ l, OW W wr x
  apart : l.Pairwise (fun x y => ∀ g, (Value.slice x.p x.o.ws.length x.c).ownBlock = some g → (Value.slice y.p y.o.ws.length y.c).ownBlock ≠ some g)
theorem HR.start (W : World) : HR W W (.slice none 0 0) [] := ⟨World.ownsRow_nil _ _ _ _, Below.refl _ _, by simp, .nil⟩
theorem HR.on {W w w' : World} {v : Value} {l : List Ov} (h : HR W w v l) (hb : Below w.heap.size w w') : HR W w' v l :=
  ⟨ownsRow_below h.own hb, below_on h.below hb, fun x hx => ownsRow_below (h.ws x hx) hb, h.apart⟩
/-- append of one operation. -/
theorem run_append_rd {W w : World} (ty : TypeId) {v : Value} {l : List Ov} (H : HR W w v l) (g : Nat) (x : Ov) (hc : Cel w g 80 x.cs) (hx : OW W w x) (hap : ∀ y ∈ l, ∀ g, (Value.slice y.p y.o.ws.length y.c).ownBlock = some g → (Value.slice x.p x.o.ws.length x.c).ownBlock ≠ some g) (hb : (l.length + 1) * 40 ≤ 140737488355328) :
    ∃ v' w', (Builtin.append_ #[71, 71] ty #[v, .slice (some ⟨g, 0, none⟩) 1 1]).run Tryd.prog w = .ok v' w' ∧ HR W w' v' (l ++ [x]) ∧ ∀ g t cs, Cel w g t cs → t ≠ 80 → Cel w' g t cs := by
  obtain ⟨i, hi, hz, hsize, hby⟩ := info_parts Tryd.info80
  obtain ⟨v', w', hr, h1, h2, _⟩ := run_append_own (P := Tryd.prog) w W.heap.size 71 ty 80 i _ 3 40 Tryd.underlying71 hi hz hsize hby rfl (by decide) v l.length _ H.own ⟨g, 0, none⟩ 1 1 x.cs rfl (fun j u hu => by rw [Addr.add_mid, Nat.zero_add, hc.cell j]; exact hu) (fun u hu => by
    simp only [Ov.cs, List.mem_cons, List.not_mem_nil, or_false] at hu
    rcases hu with rfl | rfl | rfl <;> rfl) (by unfold maxLen; omega) hb H.below.size
  have hne : ∀ y, OW W w y → ∀ g, (Value.slice y.p y.o.ws.length y.c).ownBlock = some g → v.ownBlock ≠ some g := fun y hy g hg hv => by
    obtain ⟨_, c1, e1⟩ := own_blk hy hg
    obtain ⟨_, c2, e2⟩ := own_blk H.own hv
    have := Option.some.inj (e1.symm.trans e2)
    injection this with _ h5
    exact absurd h5 (by decide)
  refine ⟨v', w', hr, ⟨?_, H.below.grown h2 H.below.size (fun g hg => (H.own.lt g hg).1), fun y hy => ?_, ?_⟩, fun g t cs hc ht => (h2.block g hc.lt (fun e => cel_ty H.own hc ht g e.symm rfl)).trans hc⟩
  · rw [List.length_append, List.flatMap_append]
    simpa using h1
  · rw [List.mem_append, List.mem_singleton] at hy
    rcases hy with hy | rfl
    · exact own_grown (H.ws y hy) h2 (hne y (H.ws y hy))
    · exact own_grown hx h2 (hne y hx)
  · rw [List.pairwise_append]
    refine ⟨H.apart, List.pairwise_singleton _ _, fun y hy z hz => ?_⟩
    rw [List.mem_singleton] at hz
    subst hz
    exact hap y hy
theorem wpList_append_rd {W w : World} {ops : Array Oper} {rest : List Oper} {o : Oper} {a : Act} {Q : Exit → Act → World → Prop} (hgd : o.guard = none) (s x : Operand)
    (ho : o.op = .call { callee := .builtin .append, args := #[s, x], argTypes := #[71, 71] }) (v : Value) (l : List Ov) (hs : a.eval s = v) (H : HR W w v l) (g : Nat) (y : Ov) (hx : a.eval x = .slice (some ⟨g, 0, none⟩) 1 1) (hc : Cel w g 80 y.cs) (hy : OW W w y) (hap : ∀ z ∈ l, ∀ g, (Value.slice z.p z.o.ws.length z.c).ownBlock = some g → (Value.slice y.p y.o.ws.length y.c).ownBlock ≠ some g) (hb : (l.length + 1) * 40 ≤ 140737488355328)
    (h : ∀ v' w', HR W w' v' (l ++ [y]) → (∀ g t cs, Cel w g t cs → t ≠ 80 → Cel w' g t cs) → wpList Tryd.prog ops Q rest (a.put o.dst v') w') : wpList Tryd.prog ops Q (o :: rest) a w := by
  obtain ⟨v', w', hr, hh, hk⟩ := run_append_rd o.type H g y hc hy hap hb
  refine wpList_plain hgd fun K hK => ?_
  unfold Oper.wp execOp
  simp only [ho, resolve, invoke, builtin, Sem.run_bind, Sem.run_pure, Result.andThen_ok, List.map_toArray, List.map_cons, List.map_nil, hs, hx, hr]
  exact hK _ _ (h _ _ hh hk)
theorem HR.ol {W wr : World} {v : Value} {l : List Ov} (h : HR W wr v l) : ∃ ao c, v = .slice ao l.length c ∧ l.length ≤ c ∧ OL wr ao l := by
  rcases h.own.2 with ⟨rfl, h0⟩ | ⟨g, cap, cur, rfl, hg, hh, hn, hm, hs, ht⟩
  · exact ⟨none, 0, by rw [h0], by omega, .inl (List.eq_nil_of_length_eq_zero h0), fun x hx => (h.ws x hx).at⟩
  · refine ⟨_, cap, rfl, hn, .inr ⟨g, 0, rfl, (Array.getElem?_eq_some_iff.1 hh).1, fun i x hx => ?_⟩, fun x hx => (h.ws x hx).at⟩
    have hi : i < l.length := (List.getElem?_eq_some_iff.1 hx).1
    have key : ∀ j, j < 3 → wr.cell? ⟨g, i * 3 + j, none⟩ = x.cs[j]? := fun j hj => by
      rw [h.own.cellAt (i * 3 + j) (by omega), flat_get l i j x hx hj]
    refine ⟨?_, ?_, ?_⟩
    · have := key 0 (by decide); simpa [Ov.cs] using this
    · have := key 1 (by decide); simpa [Ov.cs] using this
    · have := key 2 (by decide); simpa [Ov.cs] using this
theorem size80 : (Tryd.prog.info? 80).map (·.size) = some 3 := by kernel_rfl
theorem HR.but {W w w' : World} {v : Value} {l : List Ov} {g t : Nat} {cs : List Value} (h : HR W w v l) (hb : But g w w') (hg : W.heap.size ≤ g) (hv : ∀ k, v.ownBlock = some k → k ≠ g) (hc : Cel w g t cs) (ht : t ≠ 24) : HR W w' v l := by
  refine ⟨own_but h.own hb (fun e => hv _ e rfl), h.below.trans (hb.below hg h.below.size), fun x hx => own_but (h.ws x hx) hb (fun e => ?_), h.apart⟩
  obtain ⟨_, cur, h2⟩ := own_blk (h.ws x hx) e
  have := Option.some.inj (hc.symm.trans h2)
  injection this with _ h5
  exact ht h5
def rdecR (ws : List Int) (e : Ending) (W W' : World) : Prop :=
  262144 < ws.length ∧ e = .returned (.tuple #[.slice none 0 0, .int .i64 2]) ∨
  ws.length ≤ 262144 ∧ (∀ l, (∀ o ∈ l, o.Ok) → enc l ≠ ws) ∧ e = .returned (.tuple #[.slice none 0 0, .int .i64 150]) ∨
  ws.length ≤ 262144 ∧ ∃ v l, e = .returned (.tuple #[v, .int .i64 0]) ∧ HR W W' v l ∧ (∀ o ∈ l.map Ov.o, o.Ok) ∧ enc (l.map Ov.o) = ws
structure RDecJ (W wr : World) (ws : List Int) (v : Value) (l : List Ov) (r : List Int) : Prop where
  ho : HR W wr v l
  ok : ∀ o ∈ l.map Ov.o, o.Ok
  is : ws = enc (l.map Ov.o) ++ r
theorem RDecJ.no {W wr : World} {ws : List Int} {v : Value} {l : List Ov} {r : List Int} (h : RDecJ W wr ws v l r) (hr : r ≠ []) (hn : ∀ (o : MOp) (t : List Int), o.Ok → r ≠ o.wds ++ t) : ∀ m, (∀ o ∈ m, o.Ok) → enc m ≠ ws := fun m hm he => by
  obtain ⟨q, h1, h2⟩ := enc_split (l.map Ov.o) m r h.ok hm (by rw [he]; exact h.is)
  cases q with
  | nil => exact hr (by simpa [enc] using h2.symm)
  | cons o q => exact hn o (enc q) (hm o (by rw [h1]; simp)) (by rw [← h2, enc_cons])
theorem app_get (a b : List Int) (i : Nat) : (a ++ b).getD (a.length + i) 0 = b.getD i 0 := by
  rw [List.getD_eq_getElem?_getD, List.getD_eq_getElem?_getD, List.getElem?_append_right (by omega)]
  congr 2
  omega
theorem rdecode_any (W : World) (ao : Option Addr) (n c : Nat) (ws : List Int) (hn : ws.length = n) (hw : Wds ws) (h : At W .u32 ao ws) (hc : n ≤ c) (hm : n ≤ 4611686018427387904) :
    Calls Tryd.prog 33 #[.slice ao n c] W fun e W' => Below W.heap.size W W' ∧ rdecR ws e W W' := by
  by_cases hl : 262144 < n
  · have hli : (262144 : Int) < (n : Int) := by omega
    have HN := hid (And.intro hn hl)
    clear hn hl hw h hc hm
    go_enter Tryd.func33, Tryd.ntmps33
    go_wp2_with fail
    go_ret2
    exact ⟨Below.refl _ _, .inl ⟨by rw [HN.out.1]; exact HN.out.2, rfl⟩⟩
  · have hli : (n : Int) ≤ 262144 := by omega
    have HN := hid hn
    have HL := hid (show n ≤ 262144 by omega)
    have HW := hid hw
    have HA := hid h
    have HC := hid hc
    have hci : (n : Int) ≤ (c : Int) := by omega
    clear hn hl hw h hc hm
    go_enter Tryd.func33, Tryd.ntmps33
    go_wp2_with fail
    go_loopw [4, 5] (fun v i wr => ∃ (l : List Ov) (r : List Int) (at_ : Nat), i = .int .i64 (at_ : Int) ∧ Hid (at_ = (enc (l.map Ov.o)).length ∧ at_ + r.length = n ∧ RDecJ W wr ws v l r)) (fun _ i _ => n - (intOf i).toNat)
    case atStart => exact ⟨[], ws, 0, rfl, hid ⟨by simp [enc], by rw [HN.out]; omega, HR.start W, by simp, by simp [enc]⟩⟩
    case round =>
      obtain ⟨l, r, at_, rfl, HQ⟩ := hrel
      obtain ⟨av, cv, hv, _, _⟩ := HQ.out.2.2.ho.ol
      subst hv
      have hat : at_ ≤ n := by have := HQ.out.2.1; omega
      have hai : (at_ : Int) ≤ (n : Int) := by omega
      have ha0 : (0 : Int) ≤ (at_ : Int) := by omega
      have HB0 := hid HQ.out.2.2.ho.below
      by_cases h0 : r = []
      · have e0 : at_ = n := by have := HQ.out.2.1; rw [h0] at this; simpa using this
        subst e0
        have HR0 := hid h0
        clear h0 hat
        go_wp2_with fail
        go_ret2
        refine ⟨HB0.out, .inr (.inr ⟨by rw [HN.out]; exact HL.out, _, l, rfl, HQ.out.2.2.ho, HQ.out.2.2.ok, ?_⟩)⟩
        have := HQ.out.2.2.is
        rw [HR0.out, List.append_nil] at this
        exact this.symm
      · have hlt : (at_ : Int) < (n : Int) := by
          have := HQ.out.2.1
          have : 0 < r.length := by
            rcases Nat.eq_zero_or_pos r.length with h5 | h5
            · exact absurd (List.eq_nil_of_length_eq_zero h5) h0
            · exact h5
          omega
        obtain ⟨b, off, rfl, hb, hrow⟩ : ∃ b off, ao = some ⟨b, off, none⟩ ∧ b < W.heap.size ∧ Row W .u32 b off ws := HA.out.resolve_left (by intro e; have := HN.out; rw [e] at this; simp at this; omega)
        have HNE := hid h0
        obtain ⟨k, hk⟩ : ∃ k, r.getD 0 0 = k := ⟨_, rfl⟩
        obtain ⟨a, ha⟩ : ∃ a, r.getD 1 0 = a := ⟨_, rfl⟩
        have hg : ∀ i, ws.getD (at_ + i) 0 = r.getD i 0 := fun i => by rw [HQ.out.2.2.is, HQ.out.1]; exact app_get _ _ _
        have hk0 := HW.out (at_ + 0)
        rw [hg 0, hk] at hk0
        have wk : IntKind.wrap .i64 k = k := wrap_i64 k (by omega) (by omega)
        have w2 : IntKind.wrap .i64 ((at_ : Int) + 2) = (at_ : Int) + 2 := wrap_i64 _ (by omega) (by omega)
        have w1 : IntKind.wrap .i64 ((at_ : Int) + 1) = (at_ : Int) + 1 := wrap_i64 _ (by omega) (by omega)
        have HRow := hid (And.intro hrow hb)
        have HCe0 : Hid (∀ w, Below W.heap.size W w → w.cell? ⟨b, off + at_, none⟩ = some (.int .u32 k)) := hid (fun w hw => by
          have h1 := (hrow.below hw hb) at_ (by rw [HN.out]; omega)
          rw [h1, ← hk, ← hg 0]; rfl)
        have HKA := hid (And.intro hk ha)
        have c0 := HCe0.out wr HB0.out
        by_cases h2 : r.length < 2
        · have hge : (n : Int) < (at_ : Int) + 2 := by have := HQ.out.2.1; omega
          have HF := hid (HQ.out.2.2.no HNE.out (no_short h2))
          clear h2 hk ha hg hk0 hrow hb h0 hat
          go_wp2_with fail
          go_ret2
          exact ⟨HB0.out, .inr (.inl ⟨by rw [HN.out]; exact HL.out, HF.out, rfl⟩)⟩
        · have hge : (at_ : Int) + 2 ≤ (n : Int) := by have := HQ.out.2.1; omega
          by_cases h1 : k < 1
          · have HF := hid (HQ.out.2.2.no HNE.out (no_kind hk (fun h => by omega)))
            clear h2 hk ha hg hk0 hrow hb h0 hat
            go_wp2_with fail
            go_ret2
            exact ⟨HB0.out, .inr (.inl ⟨by rw [HN.out]; exact HL.out, HF.out, rfl⟩)⟩
          · by_cases h4 : 4 < k
            · have h1' : ¬ (k < 1) := h1
              have HF := hid (HQ.out.2.2.no HNE.out (no_kind hk (fun h => by omega)))
              clear h2 hk ha hg hk0 hrow hb h0 hat
              go_wp2_with fail
              go_ret2
              exact ⟨HB0.out, .inr (.inl ⟨by rw [HN.out]; exact HL.out, HF.out, rfl⟩)⟩
            · have h1' : (1 : Int) ≤ k := by omega
              have h4' : k ≤ (4 : Int) := by omega
              have HCe1 : Hid (∀ w, Below W.heap.size W w → w.cell? ⟨b, off + (at_ + 1), none⟩ = some (.int .u32 a)) := hid (fun w hw => by
                have h1 := (hrow.below hw hb) (at_ + 1) (by rw [HN.out]; omega)
                rw [h1, ← ha, ← hg 1])
              have hn1 : ((at_ : Int) + 1).toNat = at_ + 1 := by omega
              have hge1 : (at_ : Int) + 1 < (n : Int) := by omega
              have hge0 : (0 : Int) ≤ (at_ : Int) + 1 := by omega
              have HRl := hid HQ.out.2.1
              have HK14 := hid (And.intro h1' h4')
              have HR2 := hid (show 2 ≤ r.length by omega)
              clear h1 h4 h2 hg hk0 hrow hb h0 hat hk ha
              go_upto_region 8 with fail
              clear h1' h4'
              have X8 : Hid (HR W wr.drew (.slice av l.length cv) l) := hid (HQ.out.2.2.ho.on (Below.refl _ _).drew)
              clear c0
              refine wp_region_held_drew (S := fun w => HR W w (.slice av l.length cv) l) (by kernel_rfl) X8.out (fun hHeld => ?_)
              generalize World.drew _ = w0 at *
              refine wpAnyH_take (i := 0) (oi := { dst := some 33, op := Op.move (Operand.tmp 0), type := 22, pos := "ref.go:83", after := #[], guard := none }) (v := .slice (some ⟨b, off, none⟩) n c) rfl (by kernel_rfl) (by kernel_rfl) (by kernel_rfl) (fun _ _ _ h => h) (Or.inl ⟨by rfl, by intro w hSw; go_simp⟩) (by assumption) ?_
              simp only [Act.put, List.setIfInBounds_toArray, List.set_cons_zero, List.set_cons_succ]
              refine wpAnyH_take (i := 1) (oi := { dst := some 34, op := Op.move (Operand.tmp 5), type := 3, pos := "ref.go:83", after := #[], guard := none }) (v := .int .i64 (at_ : Int)) rfl (by kernel_rfl) (by kernel_rfl) (by kernel_rfl) (fun _ _ _ h => h) (Or.inl ⟨by rfl, by intro w hSw; go_simp⟩) (by assumption) ?_
              simp only [Act.put, List.setIfInBounds_toArray, List.set_cons_zero, List.set_cons_succ]
              refine wpAnyH_take (i := 2) (oi := { dst := some 35, op := Op.indexAddr 22 (Operand.tmp 33) (Operand.tmp 34), type := 0, pos := "ref.go:83", after := #[{ on := 0, ground := Ground.data }, { on := 1, ground := Ground.data }], guard := none }) (v := .pointer (some ⟨b, off + at_, none⟩)) rfl (by kernel_rfl) (by kernel_rfl) (by kernel_rfl) (fun _ _ _ h => h) (Or.inl ⟨by rfl, by intro w hSw; go_simp⟩) (by assumption) ?_
              simp only [Act.put, List.setIfInBounds_toArray, List.set_cons_zero, List.set_cons_succ]
              refine wpAnyH_take (i := 3) (oi := { dst := some 36, op := Op.load 24 (Operand.tmp 35), type := 24, pos := "ref.go:83", after := #[{ on := 2, ground := Ground.data }], guard := none }) (v := .int .u32 k) rfl (by kernel_rfl) (by kernel_rfl) (by kernel_rfl) (fun _ _ _ h => h) (Or.inl ⟨by rfl, by intro w hSw; have hc := HCe0.out w hSw.below; go_simp⟩) (by assumption) ?_
              simp only [Act.put, List.setIfInBounds_toArray, List.set_cons_zero, List.set_cons_succ]
              refine wpAnyH_take (i := 4) (oi := { dst := some 37, op := Op.convert 24 3 (Operand.tmp 36), type := 3, pos := "ref.go:83", after := #[{ on := 3, ground := Ground.data }], guard := none }) (v := .int .i64 k) rfl (by kernel_rfl) (by kernel_rfl) (by kernel_rfl) (fun _ _ _ h => h) (Or.inl ⟨by rfl, by intro w hSw; go_simp⟩) (by assumption) ?_
              simp only [Act.put, List.setIfInBounds_toArray, List.set_cons_zero, List.set_cons_succ]
              refine wpAnyH_take (i := 5) (oi := { dst := some 38, op := Op.move (Operand.tmp 0), type := 22, pos := "ref.go:83", after := #[], guard := none }) (v := .slice (some ⟨b, off, none⟩) n c) rfl (by kernel_rfl) (by kernel_rfl) (by kernel_rfl) (fun _ _ _ h => h) (Or.inl ⟨by rfl, by intro w hSw; go_simp⟩) (by assumption) ?_
              simp only [Act.put, List.setIfInBounds_toArray, List.set_cons_zero, List.set_cons_succ]
              refine wpAnyH_take (i := 6) (oi := { dst := some 39, op := Op.move (Operand.tmp 5), type := 3, pos := "ref.go:83", after := #[], guard := none }) (v := .int .i64 (at_ : Int)) rfl (by kernel_rfl) (by kernel_rfl) (by kernel_rfl) (fun _ _ _ h => h) (Or.inl ⟨by rfl, by intro w hSw; go_simp⟩) (by assumption) ?_
              simp only [Act.put, List.setIfInBounds_toArray, List.set_cons_zero, List.set_cons_succ]
              refine wpAnyH_take (i := 7) (oi := { dst := some 40, op := Op.binOp BinOp.add 3 (Operand.tmp 39) (Operand.const (Value.int IntKind.i64 1)) 3, type := 3, pos := "ref.go:83", after := #[{ on := 6, ground := Ground.data }], guard := none }) (v := .int .i64 ((at_ : Int) + 1)) rfl (by kernel_rfl) (by kernel_rfl) (by kernel_rfl) (fun _ _ _ h => h) (Or.inl ⟨by rfl, by intro w hSw; go_simp⟩) (by assumption) ?_
              simp only [Act.put, List.setIfInBounds_toArray, List.set_cons_zero, List.set_cons_succ]
              refine wpAnyH_take (i := 8) (oi := { dst := some 41, op := Op.indexAddr 22 (Operand.tmp 38) (Operand.tmp 40), type := 0, pos := "ref.go:83", after := #[{ on := 5, ground := Ground.data }, { on := 7, ground := Ground.data }], guard := none }) (v := .pointer (some ⟨b, off + (at_ + 1), none⟩)) rfl (by kernel_rfl) (by kernel_rfl) (by kernel_rfl) (fun _ _ _ h => h) (Or.inl ⟨by rfl, by intro w hSw; go_simp⟩) (by assumption) ?_
              simp only [Act.put, List.setIfInBounds_toArray, List.set_cons_zero, List.set_cons_succ]
              refine wpAnyH_take (i := 9) (oi := { dst := some 42, op := Op.load 24 (Operand.tmp 41), type := 24, pos := "ref.go:83", after := #[{ on := 8, ground := Ground.data }], guard := none }) (v := .int .u32 a) rfl (by kernel_rfl) (by kernel_rfl) (by kernel_rfl) (fun _ _ _ h => h) (Or.inl ⟨by rfl, by intro w hSw; have hc := HCe1.out w hSw.below; go_simp⟩) (by assumption) ?_
              simp only [Act.put, List.setIfInBounds_toArray, List.set_cons_zero, List.set_cons_succ]
              refine wpAnyH_take (i := 10) (oi := { dst := some 43, op := Op.build 80 #[(0, Operand.tmp 37), (1, Operand.tmp 42)], type := 80, pos := "ref.go:83", after := #[{ on := 4, ground := Ground.data }, { on := 9, ground := Ground.data }], guard := none }) (v := .agg #[.int .i64 k, .int .u32 a, .slice none 0 0]) rfl (by kernel_rfl) (by kernel_rfl) (by kernel_rfl) (fun _ _ _ h => h) (Or.inl ⟨by rfl, by intro w hSw; go_simp⟩) (by assumption) ?_
              simp only [Act.put, List.setIfInBounds_toArray, List.set_cons_zero, List.set_cons_succ]
              refine wpAnyH_ready (rs := [11]) (by kernel_rfl) (by simp) (AllReadyH.cons (o := { dst := some 6, op := Op.alloc 80, type := 0, pos := "ref.go:83", after := #[], guard := none }) rfl (fun KQ hK => ?_) AllReadyH.nil)
              go_simp
              have X1 : Hid (HR W (w0.alloc (.cells #[.int .i64 0, .int .u32 0, .slice none 0 0] 80)) (.slice av l.length cv) l ∧ Cel (w0.alloc (.cells #[.int .i64 0, .int .u32 0, .slice none 0 0] 80)) w0.heap.size 80 zop) := hid ⟨X8.out.on (below_one _ _), heap_alloc_new _ _⟩
              have HV6 : Hid (W.heap.size ≤ w0.heap.size ∧ ∀ g, (Value.slice av l.length cv).ownBlock = some g → g < w0.heap.size) := hid ⟨X8.out.below.size, fun g hg => (X8.out.own.lt g hg).2⟩
              clear X8
              generalize World.alloc w0 _ = w1 at *
              generalize w0.heap.size = g6 at *
              refine hK.out _ _ X1.out.1 (fun hHeld => ?_)
              clear hK KQ
              try simp only [Act.put, List.setIfInBounds_toArray, List.set_cons_zero, List.set_cons_succ]
              refine wpAnyH_ready (rs := [12]) (by kernel_rfl) (by simp) (AllReadyH.cons (o := { dst := none, op := Op.store 80 (Operand.tmp 6) (Operand.tmp 43), type := 0, pos := "ref.go:83", after := #[{ on := 11, ground := Ground.data }, { on := 10, ground := Ground.data }, { on := 0, ground := Ground.phase }, { on := 1, ground := Ground.phase }, { on := 2, ground := Ground.phase }, { on := 3, ground := Ground.phase }, { on := 4, ground := Ground.phase }, { on := 5, ground := Ground.phase }, { on := 6, ground := Ground.phase }, { on := 7, ground := Ground.phase }, { on := 8, ground := Ground.phase }, { on := 9, ground := Ground.phase }, { on := 10, ground := Ground.phase }, { on := 11, ground := Ground.phase }], guard := none }) rfl (fun KQ hK => ?_) AllReadyH.nil)
              rw [if_pos (by rfl)]
              refine wp_store_st 80 _ _ rfl g6 [.int .i64 k, .int .u32 a, .slice none 0 0] rfl rfl X1.out.2 size80 rfl rfl ?_
              intro w2 hc2 hb2 hs2
              have X2 : Hid (HR W w2 (.slice av l.length cv) l ∧ Cel w2 g6 80 [.int .i64 k, .int .u32 a, .slice none 0 0]) := hid ⟨X1.out.1.but hb2 HV6.out.1 (fun k hk => by have := HV6.out.2 k hk; omega) X1.out.2 (by decide), hc2⟩
              clear hc2 hb2 hs2 X1
              refine hK.out _ _ X2.out.1 (fun hHeld => ?_)
              clear hK KQ
              try simp only [Act.put]
              refine wpAnyH_done (by kernel_rfl) ?_ _
              have b0 := X2.out.2.cell 0
              simp only [List.getElem?_cons_zero] at b0
              by_cases h3 : k = 3
              · subst h3
                have w3 : IntKind.wrap .i64 ((at_ : Int) + 2 + 1024) = (at_ : Int) + 2 + 1024 := wrap_i64 _ (by omega) (by omega)
                by_cases hsh : r.length < 1026
                · have hsi : (n : Int) < (at_ : Int) + 2 + 1024 := by have := HRl.out; omega
                  have HF := hid (HQ.out.2.2.no HNE.out (no_less HKA.out.1 (by show r.length < 2 + 1024; omega)))
                  clear hsh
                  go_wp2_with fail
                  go_ret2
                  exact ⟨X2.out.1.below, .inr (.inl ⟨by rw [HN.out]; exact HL.out, HF.out, rfl⟩)⟩
                · have hsi : (at_ : Int) + 2 + 1024 ≤ (n : Int) := by have := HRl.out; omega
                  have HR6 := hid (show 1026 ≤ r.length by omega)
                  obtain ⟨xs, hxs⟩ : ∃ xs, xs = (r.drop 2).take 1024 := ⟨_, rfl⟩
                  have HXl : Hid (xs.length = 1024) := hid (by rw [hxs, List.length_take, List.length_drop]; have := HR6.out; omega)
                  have HP := hid (list_parts (r := r) (p := 1024) (by have := HR6.out; omega) HKA.out.1 HKA.out.2)
                  rw [← hxs] at HP
                  obtain ⟨A2, hA2⟩ : ∃ A2, A2 = cutA b off c (at_ + 2) := ⟨_, rfl⟩
                  have HAt : Hid (∀ w, Below W.heap.size W w → At w .u32 (some A2) xs) := hid (fun w hw => by
                    have h1 := rest_at (c := c) (HRow.out.1.below hw HRow.out.2) (by have := hw.size; have := HRow.out.2; omega) n (at_ + 2) HN.out HC.out (by have := HRl.out; have := HR2.out; omega)
                    have h2 := h1.head 1024
                    rw [hA2]
                    have e : (ws.drop (at_ + 2)).take 1024 = xs := by rw [hxs, HQ.out.2.2.is, HQ.out.1, List.drop_append, List.drop_of_length_le (by omega), List.nil_append, Nat.add_sub_cancel_left]
                    rw [e] at h2
                    exact h2)
                  have HA2 : (if c = at_ + 2 then some (⟨b, off, none⟩ : Addr) else some ⟨b, off + (at_ + 2), none⟩) = some A2 := by rw [hA2]; unfold cutA; split <;> rfl
                  have hn2 : ((at_ : Int) + 2).toNat = at_ + 2 := by omega
                  have hn3 : ((at_ : Int) + 2 + 1024).toNat = at_ + 2 + 1024 := by omega
                  have hq0 : (0 : Int) ≤ (at_ : Int) + 2 := by omega
                  have hq1 : (0 : Int) ≤ (at_ : Int) + 2 + 1024 := by omega
                  have hq2 : (at_ : Int) + 2 + 1024 ≤ (c : Int) := by omega
                  have hq3 : (at_ : Int) + 2 ≤ (at_ : Int) + 2 + 1024 := by omega
                  have HLl : Hid ((l.length + 1) * 40 ≤ 140737488355328) := hid (by
                    have h5 := enc_two (l.map Ov.o)
                    rw [← HQ.out.1, List.length_map] at h5
                    have := HQ.out.2.1
                    have := HL.out
                    omega)
                  have HAP : Hid (∀ z ∈ l, ∀ g, (Value.slice z.p z.o.ws.length z.c).ownBlock = some g → g < w2.heap.size) := hid (fun z hz g hg => by
                    obtain ⟨_, cur, h6⟩ := own_blk (X2.out.1.ws z hz) hg
                    exact (Array.getElem?_eq_some_iff.1 h6).1)
                  clear hsh hxs hA2
                  go_upto_region 13 with fail
                  have X3 : Hid (HR W w2.drew (.slice av l.length cv) l ∧ Cel w2.drew g6 80 [.int .i64 3, .int .u32 a, .slice none 0 0]) := hid ⟨X2.out.1.on (Below.refl _ _).drew, X2.out.2⟩
                  have HW2 : Hid (w2.drew.heap.size = w2.heap.size) := hid rfl
                  clear X2 b0
                  generalize w2.heap.size = z2 at *
                  refine wp_region_held_drew (S := fun w => HR W w (.slice av l.length cv) l) (by kernel_rfl) X3.out.1 (fun hHeld => ?_)
                  generalize World.drew _ = w4 at *
                  refine wpAnyH_take (i := 0) (oi := { dst := some 54, op := Op.fieldAddr 80 (Operand.tmp 6) 2, type := 0, pos := "ref.go:89", after := #[], guard := none }) (v := .pointer (some ⟨g6, 2, none⟩)) rfl (by kernel_rfl) (by kernel_rfl) (by kernel_rfl) (fun _ _ _ h => h) (Or.inl ⟨by rfl, by intro w hSw; go_simp⟩) (by assumption) ?_
                  simp only [Act.put, List.setIfInBounds_toArray, List.set_cons_zero, List.set_cons_succ]
                  refine wpAnyH_take (i := 2) (oi := { dst := some 56, op := Op.move (Operand.tmp 0), type := 22, pos := "ref.go:89", after := #[], guard := none }) (v := .slice (some ⟨b, off, none⟩) n c) rfl (by kernel_rfl) (by kernel_rfl) (by kernel_rfl) (fun _ _ _ h => h) (Or.inl ⟨by rfl, by intro w hSw; go_simp⟩) (by assumption) ?_
                  simp only [Act.put, List.setIfInBounds_toArray, List.set_cons_zero, List.set_cons_succ]
                  refine wpAnyH_take (i := 3) (oi := { dst := some 57, op := Op.move (Operand.tmp 5), type := 3, pos := "ref.go:89", after := #[], guard := none }) (v := .int .i64 ((at_ : Int) + 2)) rfl (by kernel_rfl) (by kernel_rfl) (by kernel_rfl) (fun _ _ _ h => h) (Or.inl ⟨by rfl, by intro w hSw; go_simp⟩) (by assumption) ?_
                  simp only [Act.put, List.setIfInBounds_toArray, List.set_cons_zero, List.set_cons_succ]
                  refine wpAnyH_take (i := 4) (oi := { dst := some 58, op := Op.move (Operand.tmp 5), type := 3, pos := "ref.go:89", after := #[], guard := none }) (v := .int .i64 ((at_ : Int) + 2)) rfl (by kernel_rfl) (by kernel_rfl) (by kernel_rfl) (fun _ _ _ h => h) (Or.inl ⟨by rfl, by intro w hSw; go_simp⟩) (by assumption) ?_
                  simp only [Act.put, List.setIfInBounds_toArray, List.set_cons_zero, List.set_cons_succ]
                  refine wpAnyH_take (i := 5) (oi := { dst := some 59, op := Op.binOp BinOp.add 3 (Operand.tmp 58) (Operand.const (Value.int IntKind.i64 1024)) 3, type := 3, pos := "ref.go:89", after := #[{ on := 4, ground := Ground.data }], guard := none }) (v := .int .i64 ((at_ : Int) + 2 + 1024)) rfl (by kernel_rfl) (by kernel_rfl) (by kernel_rfl) (fun _ _ _ h => h) (Or.inl ⟨by rfl, by intro w hSw; go_simp⟩) (by assumption) ?_
                  simp only [Act.put, List.setIfInBounds_toArray, List.set_cons_zero, List.set_cons_succ]
                  refine wpAnyH_take (i := 6) (oi := { dst := some 60, op := Op.slice 22 (Operand.tmp 56) (some (Operand.tmp 57)) (some (Operand.tmp 59)) none, type := 22, pos := "ref.go:89", after := #[{ on := 2, ground := Ground.data }, { on := 3, ground := Ground.data }, { on := 5, ground := Ground.data }], guard := none }) (v := .slice (some A2) 1024 (c - (at_ + 2))) rfl (by kernel_rfl) (by kernel_rfl) (by kernel_rfl) (fun _ _ _ h => h) (Or.inl ⟨by rfl, by intro w hSw; go_simp⟩) (by assumption) ?_
                  simp only [Act.put, List.setIfInBounds_toArray, List.set_cons_zero, List.set_cons_succ]
                  refine wpAnyH_ready (rs := [1]) (by kernel_rfl) (by simp) (AllReadyH.cons (o := { dst := some 55, op := Op.load 22 (Operand.tmp 54), type := 22, pos := "ref.go:89", after := #[{ on := 0, ground := Ground.data }], guard := none }) rfl (fun KQ hK => ?_) AllReadyH.nil)
                  have z3 := X3.out.2.cell 2
                  simp only [List.getElem?_cons_zero, List.getElem?_cons_succ] at z3
                  go_simp
                  clear z3
                  refine hK.out _ _ X3.out.1 (fun hHeld => ?_)
                  clear hK KQ
                  try simp only [Act.put, List.setIfInBounds_toArray, List.set_cons_zero, List.set_cons_succ]
                  refine wpAnyH_ready (rs := [7]) (by kernel_rfl) (by simp) (AllReadyH.cons (o := { dst := some 61, op := Op.call { callee := Callee.builtin Builtin.append, args := #[Operand.tmp 55, Operand.tmp 60], argTypes := #[22, 22] }, type := 22, pos := "ref.go:89", after := #[{ on := 1, ground := Ground.data }, { on := 6, ground := Ground.data }], guard := none }) rfl (fun KQ hK => ?_) AllReadyH.nil)
                  rw [if_pos (by rfl)]
                  obtain ⟨v5, w5, hr5, h5⟩ := run_append_z _ _ 1024 (c - (at_ + 2)) xs HXl.out (HAt.out _ X3.out.1.below) (by decide)
                  refine wp_append_r _ _ rfl _ rfl _ rfl hr5 ?_
                  clear hr5
                  obtain ⟨ap, cp, hv5, _⟩ := h5.at'
                  rw [HXl.out] at hv5
                  subst hv5
                  have X5 : Hid (HR W w5 (.slice av l.length cv) l ∧ Cel w5 g6 80 [.int .i64 3, .int .u32 a, .slice none 0 0]) := hid ⟨X3.out.1.on h5.below, X3.out.2.on h5.below⟩
                  have HH : Hid (w5.ownsRow W.heap.size 24 1 (.slice ap 1024 cp) 1024 (xs.map (Value.int .u32))) := hid (by have := own_base h5.own X3.out.1.below.size; rwa [HXl.out] at this)
                  have HO : Hid (∀ g, (Value.slice ap 1024 cp).ownBlock = some g → w4.heap.size ≤ g) := hid (fun g hg => (h5.own.lt g hg).1)
                  have HG6 : Hid (g6 < w4.heap.size) := hid X3.out.2.lt
                  have HW4 : Hid (z2 ≤ w4.heap.size) := hid (by have := HW2.out; omega)
                  clear h5 X3
                  refine hK.out _ _ X5.out.1 (fun hHeld => ?_)
                  clear hK KQ
                  try simp only [Act.put, List.setIfInBounds_toArray, List.set_cons_zero, List.set_cons_succ]
                  refine wpAnyH_take (i := 8) (oi := { dst := some 62, op := Op.fieldAddr 80 (Operand.tmp 6) 2, type := 0, pos := "ref.go:89", after := #[{ on := 0, ground := Ground.phase }, { on := 1, ground := Ground.phase }, { on := 2, ground := Ground.phase }, { on := 3, ground := Ground.phase }, { on := 4, ground := Ground.phase }, { on := 5, ground := Ground.phase }, { on := 6, ground := Ground.phase }, { on := 7, ground := Ground.phase }], guard := none }) (v := .pointer (some ⟨g6, 2, none⟩)) rfl (by kernel_rfl) (by kernel_rfl) (by kernel_rfl) (fun _ _ _ h => h) (Or.inl ⟨by rfl, by intro w hSw; go_simp⟩) (by assumption) ?_
                  simp only [Act.put, List.setIfInBounds_toArray, List.set_cons_zero, List.set_cons_succ]
                  refine wpAnyH_ready (rs := [9]) (by kernel_rfl) (by simp) (AllReadyH.cons (o := { dst := none, op := Op.store 22 (Operand.tmp 62) (Operand.tmp 61), type := 0, pos := "ref.go:89", after := #[{ on := 8, ground := Ground.data }, { on := 7, ground := Ground.data }, { on := 7, ground := Ground.chain }, { on := 0, ground := Ground.phase }, { on := 1, ground := Ground.phase }, { on := 2, ground := Ground.phase }, { on := 3, ground := Ground.phase }, { on := 4, ground := Ground.phase }, { on := 5, ground := Ground.phase }, { on := 6, ground := Ground.phase }, { on := 7, ground := Ground.phase }], guard := none }) rfl (fun KQ hK => ?_) AllReadyH.nil)
                  rw [if_pos (by rfl)]
                  refine wp_store_c2 _ _ rfl g6 rfl rfl X5.out.2 ?_
                  intro w6 hc6 hb6 hs6
                  have X6 : Hid ((HR W w6 (.slice av l.length cv) l ∧ Cel w6 g6 80 [.int .i64 3, .int .u32 a, .slice ap 1024 cp]) ∧ w6.ownsRow W.heap.size 24 1 (.slice ap 1024 cp) 1024 (xs.map (Value.int .u32))) := hid ⟨⟨X5.out.1.but hb6 HV6.out.1 (fun k hk => by have := HV6.out.2 k hk; omega) X5.out.2 (by decide), hc6⟩, own_but HH.out hb6 (fun hg => by have := HO.out _ hg; have := HG6.out; omega)⟩
                  clear hc6 hb6 hs6 X5 HH
                  refine hK.out _ _ X6.out.1.1 (fun hHeld => ?_)
                  clear hK KQ
                  try simp only [Act.put]
                  refine wpAnyH_done (by kernel_rfl) ?_ _
                  go_upto_region 15 with fail
                  have c0 := X6.out.1.2.cell 0
                  have c1 := X6.out.1.2.cell 1
                  have c2 := X6.out.1.2.cell 2
                  simp only [List.getElem?_cons_zero, List.getElem?_cons_succ] at c0 c1 c2
                  go_wp2_with (at_builtin; refine wpList_append_rd rfl _ _ rfl _ l rfl (X6.out.1.1.on (below_one _ _)) _ ⟨⟨3, a, xs⟩, ap, cp⟩ rfl (by simp only [Ov.cs, HXl.out]; exact heap_alloc_new _ _) (by unfold OW; simp only [HXl.out]; exact ownsRow_below X6.out.2 (below_one _ _)) (fun z hz g hg he => by have h7 := HAP.out z hz g hg; have h8 := HO.out g (by simp only [HXl.out] at he; exact he); have := HW4.out; omega) HLl.out ?_; intro v7 w7 h7 hk7; have X7 := hid h7; clear h7 hk7)
                  go_roundw
                  case measure => have := HRl.out; have := HR6.out; simp [intOf] <;> omega
                  case rel => exact ⟨l ++ [⟨⟨3, a, xs⟩, ap, cp⟩], r.drop (2 + 1024), at_ + 2 + 1024, by simp, hid ⟨by rw [List.map_append, enc_app, List.length_append, ← HQ.out.1]; simp only [List.map_cons, List.map_nil, enc, List.flatMap_cons, List.flatMap_nil, List.append_nil, MOp.wds, List.length_cons, HXl.out], by rw [List.length_drop]; have := HRl.out; have := HR6.out; omega, X7.out, fun o ho => by
                    rw [List.map_append, List.mem_append] at ho
                    rcases ho with ho | ho
                    · exact HQ.out.2.2.ok o ho
                    · simp only [List.map_cons, List.map_nil, List.mem_singleton] at ho
                      subst ho
                      exact ⟨show (1 : Int) ≤ 3 by decide, show (3 : Int) ≤ 4 by decide, HXl.out⟩, by
                    rw [List.map_append, enc_app, HQ.out.2.2.is]
                    simp only [List.map_cons, List.map_nil, enc, List.flatMap_cons, List.flatMap_nil, List.append_nil, List.append_assoc]
                    refine congrArg _ ?_
                    have h9 := HP.out
                    simpa [MOp.wds] using h9⟩⟩
              · have h3' : (k == 3) = false := by simpa using h3
                have HP := hid (list_parts (r := r) (p := 0) (by have := HR2.out; omega) HKA.out.1 HKA.out.2)
                have HLl : Hid ((l.length + 1) * 40 ≤ 140737488355328) := hid (by
                  have h5 := enc_two (l.map Ov.o)
                  rw [← HQ.out.1, List.length_map] at h5
                  have := HQ.out.2.1
                  have := HL.out
                  omega)
                have HP0 := hid (show pgN k = 0 from if_neg h3)
                have c1 := X2.out.2.cell 1
                have c2 := X2.out.2.cell 2
                simp only [List.getElem?_cons_zero, List.getElem?_cons_succ] at c1 c2
                clear h3
                go_wp2_with (at_builtin; refine wpList_append_rd rfl _ _ rfl _ l rfl (X2.out.1.on (below_one _ _)) _ ⟨⟨k, a, []⟩, none, 0⟩ rfl (heap_alloc_new _ _) (World.ownsRow_nil _ _ _ _) (fun z hz g hg he => by cases he) HLl.out ?_; intro v6 w6 h6 hk6; have X6 := hid h6; clear h6 hk6)
                go_roundw
                case measure => have := HRl.out; have := HR2.out; simp [intOf] <;> omega
                case rel => exact ⟨l ++ [⟨⟨k, a, []⟩, none, 0⟩], r.drop 2, at_ + 2, by simp, hid ⟨by rw [List.map_append, enc_app, List.length_append, ← HQ.out.1]; rfl, by rw [List.length_drop]; have := HRl.out; have := HR2.out; omega, X6.out, fun o ho => by
                  rw [List.map_append, List.mem_append] at ho
                  rcases ho with ho | ho
                  · exact HQ.out.2.2.ok o ho
                  · simp only [List.map_cons, List.map_nil, List.mem_singleton] at ho
                    subst ho
                    exact ⟨HK14.out.1, HK14.out.2, by rw [HP0.out]; rfl⟩, by
                  rw [List.map_append, enc_app, HQ.out.2.2.is]
                  simp only [List.map_cons, List.map_nil, enc, List.flatMap_cons, List.flatMap_nil, List.append_nil, List.append_assoc]
                  refine congrArg _ ?_
                  have h9 := HP.out
                  simpa [MOp.wds] using h9⟩⟩
end Go.Proofs.YtmomidkodjihjaaDoor
