import Derived.Test.YtncnogndopgknaaGreatDoorP20
import Derived.Maps.OwnSet
import Derived.Maps.Views
import Derived.StringKeys
import Derived.Test.YtncnogndopgknaaGreatDoorP13
namespace Go.Proofs.YtncnogndopgknaaGreatDoor
open Go.RowKit
/-! ### The map of places -/
theorem elem_inv {P : Program} {e : TypeId} {q : IntKind} {v : Value} {z : DataW Unit} {ps : List MemPlace} (he : P.underlying e = some (.int q)) (h : plainElem P e v = some (z, ps)) : ∃ a : Int, v = .int q a ∧ z = .lit (.int q a) := by
  obtain ⟨a, h1, h2, _⟩ := plainElem_int_inv he h
  exact ⟨a, h1, (Prod.mk.inj h2).1⟩
theorem lit_inj {q : IntKind} {a b : Int} (h : (DataW.lit (.int q a) : DataW Unit) = .lit (.int q b)) : a = b := by injection h with h; injection h
theorem str_ne {a b : List UInt8} (h : a ≠ b) : (Lit.string b) ≠ .string a := fun hh => h (by injection hh with hh; exact hh.symm)
def MapIs (w : World) (gm : Nat) (labs : List (List UInt8 × Nat)) : Prop := ∃ D : DataW Unit, w.ownsMap Tryz.prog 9 (plainElem Tryz.prog 3) gm labs.length D ∧ (∀ s, Maps.has D (.string s) = S.has labs s) ∧ (∀ s v, S.look labs s = some v → D.atKey (.string s) (.lit (.int .i64 0)) = .lit (.int .i64 (v : Int)))
theorem MapIs.made (w : World) : MapIs (w.alloc (.map #[] 0)) w.heap.size [] := ⟨.map [], World.ownsMap_made w _ _ _, fun s => rfl, fun s v h => by cases h⟩
theorem MapIs.block {w w' : World} {gm : Nat} {labs : List (List UInt8 × Nat)} (h : MapIs w gm labs) (hb : w'.heap[gm]? = w.heap[gm]?) : MapIs w' gm labs := by
  obtain ⟨D, ⟨es, clock, h1, h2⟩, h3⟩ := h
  exact ⟨D, ⟨es, clock, hb.trans h1, h2⟩, h3⟩
theorem MapIs.lt {w : World} {gm : Nat} {labs : List (List UInt8 × Nat)} (h : MapIs w gm labs) : gm < w.heap.size := by
  obtain ⟨D, h1, _⟩ := h
  exact h1.lt
theorem MapIs.isMap {w : World} {gm : Nat} {labs : List (List UInt8 × Nat)} (h : MapIs w gm labs) : ∃ es clock, w.heap[gm]? = some (.map es clock) := by
  obtain ⟨D, ⟨es, clock, h1, _⟩, _⟩ := h
  exact ⟨es, clock, h1⟩
theorem MapIs.look {w : World} {gm : Nat} {labs : List (List UInt8 × Nat)} (h : MapIs w gm labs) (s : List UInt8) (hs : s.length ≤ 1000000000) :
    ∃ v : Int, (Instr.lookup 74 (.map (some gm)) (.string ⟨s.toArray⟩) true).run Tryz.prog w = .ok (.tuple #[.int .i64 v, .bool (S.has labs s)]) w ∧ ∀ u, S.look labs s = some u → v = (u : Int) := by
  obtain ⟨D, h1, h2, h3⟩ := h
  have hz : (zeroValue 3).run Tryz.prog w = .ok (.int .i64 0) w := Tryz.zeroValue3 w
  obtain ⟨v, ps, hr, hv⟩ := h1.look_ok (Maps.string_keyed Tryz.underlying9) Tryz.underlying74 hz (zd := .lit (.int .i64 0)) (zp := []) (plainElem_int Tryz.underlying3 (by decide)) (WideMaps.keyOf_string_mk Tryz.underlying9 (s := ⟨s.toArray⟩) (by simp [ByteArray.size, maxLen]; omega))
  have e0 : (⟨s.toArray⟩ : ByteArray).data.toList = s := rfl
  rw [e0] at hr hv
  rw [h2 s] at hr
  have hvi : ∃ a : Int, v = .int .i64 a ∧ D.atKey (.string s) (.lit (.int .i64 0)) = .lit (.int .i64 a) := elem_inv Tryz.underlying3 hv
  obtain ⟨a, rfl, ha⟩ := hvi
  refine ⟨a, hr, fun u hu => ?_⟩
  have h4 : (DataW.lit (.int .i64 a) : DataW Unit) = .lit (.int .i64 (u : Int)) := ha.symm.trans (h3 s u hu)
  exact lit_inj h4
theorem S.has_snoc (labs : List (List UInt8 × Nat)) (n : List UInt8) (p : Nat) (s : List UInt8) : S.has (labs ++ [(n, p)]) s = (S.has labs s || (n == s)) := by simp [S.has]
theorem S.look_has (labs : List (List UInt8 × Nat)) (s : List UInt8) : S.has labs s = (S.look labs s).isSome := by
  unfold S.has S.look
  rw [Option.isSome_map, Bool.eq_iff_iff, List.find?_isSome]
  simp
theorem S.look_snoc (labs : List (List UInt8 × Nat)) (n : List UInt8) (p : Nat) (s : List UInt8) (h : S.has labs n = false) : S.look (labs ++ [(n, p)]) s = if n = s then some p else S.look labs s := by
  unfold S.look
  rw [List.find?_append]
  by_cases hn : n = s
  · subst hn
    have : labs.find? (fun x => x.1 == n) = none := by
      have := S.look_has labs n
      rw [h] at this
      unfold S.look at this
      rw [Option.isSome_map] at this
      exact Option.isNone_iff_eq_none.1 (by rw [← Option.not_isSome, ← this]; rfl)
    rw [this, if_pos rfl]
    simp
  · rw [if_neg hn]
    have : ([(n, p)] : List (List UInt8 × Nat)).find? (fun x => x.1 == s) = none := by simp [hn]
    rw [this, Option.or_none]
theorem MapIs.store {w : World} {gm : Nat} {labs : List (List UInt8 × Nat)} (h : MapIs w gm labs) (hl : labs.length ≤ 1000000000) (s : List UInt8) (hs : s.length ≤ 1000000000) (hn : S.has labs s = false) (p : Nat) (hp : p ≤ 2048) :
    ∃ w', (Instr.mapUpdate 74 (.map (some gm)) (.string ⟨s.toArray⟩) (.int .i64 (p : Int))).run Tryz.prog w = .ok () w' ∧ MapIs w' gm (labs ++ [(s, p)]) ∧ w.mapTurned w' gm := by
  obtain ⟨D, h1, h2, h3⟩ := h
  have hw : (Lit.int .i64 (p : Int)).wf = true := by simp [Lit.wf, IntKind.min, IntKind.max, IntKind.signed, IntKind.bits]; omega
  obtain ⟨w', hr, ho, ht⟩ := h1.store (Maps.string_keyed Tryz.underlying9) Tryz.underlying74 (by unfold maxLen; omega) (WideMaps.keyOf_string_mk Tryz.underlying9 (s := ⟨s.toArray⟩) (by simp [ByteArray.size, maxLen]; omega)) (plainElem_int (H := Unit) Tryz.underlying3 hw)
  have e0 : (⟨s.toArray⟩ : ByteArray).data.toList = s := rfl
  rw [e0] at ho
  refine ⟨w', hr, ⟨_, by rw [List.length_append]; exact ho, fun x => ?_, fun x v hx => ?_⟩, ht⟩
  · rw [S.has_snoc]
    by_cases hxs : s = x
    · subst hxs
      rw [Maps.has_put_same (k := .string s) h1.isMap (show WideAt.IsKeyLit (.string s) from trivial)]
      simp
    · rw [Maps.has_put_other (str_ne hxs), h2 x]
      have : (s == x) = false := by simp [hxs]
      rw [this, Bool.or_false]
  · rw [S.look_snoc _ _ _ _ hn] at hx
    by_cases hxs : s = x
    · subst hxs
      rw [if_pos rfl] at hx
      cases hx
      rw [Maps.atKey_put_same (k := .string s) h1.isMap (show WideAt.IsKeyLit (.string s) from trivial)]
    · rw [if_neg hxs] at hx
      rw [Maps.atKey_put_other (str_ne hxs)]
      exact h3 x v hx
end Go.Proofs.YtncnogndopgknaaGreatDoor
namespace Go.Proofs.YtncnogndopgknaaGreatDoor
open Go.RowKit

theorem placeOf_any (x : Int) (w : World) : Calls Tryz.prog 83 #[.iface 231 (.int .i64 x)] w fun e w' => e = .returned (.int .i64 x) ∧ w = w' := by
  have ht : ∀ w, (Instr.typeAssert (.iface 231 (.int .i64 x)) 20 231 false).run Tryz.prog w = .ok (.int .i64 x) w := fun w => by
    simp [Instr.typeAssert, run_underlying Tryz.underlying231]
  go_enter Tryz.func83, Tryz.ntmps83
  go_wp2
  go_ret
  exact ⟨rfl, rfl⟩
theorem catch22 (p q r : Addr) (hpq : p ≠ q) (hpr : p ≠ r) (hqr : q ≠ r) (x y z : Value) (n : Int) (h0 : 0 ≤ n) (h1 : n ≤ 1000000001) (older : List PanicEntry) (w : World) (hc : w.cell? p = some x) (hz : w.frozen? p = false) (hc' : w.cell? q = some y) (hz' : w.frozen? q = false) (hc'' : w.cell? r = some z) (hz'' : w.frozen? r = false) :
    CallsD Tryz.prog 82 #[.pointer (some p), .pointer (some q), .pointer (some r)] (.panicking ({ v := .iface 231 (.int .i64 n), recovered := false } :: older)) w fun e u' w' =>
      e = .returned (.tuple #[]) ∧ u' = .panicking ({ v := .iface 231 (.int .i64 n), recovered := true } :: older) ∧ w' = ((w.setCell p (.slice none 0 0)).setCell q (.int .i64 (n + 1))).setCell r (.int .i64 40) := by
  refine callsD_of_wpS Tryz.func82 rfl fun c₀ cs hu => ?_
  apply wpS_seq
  apply wpS_region
  simp [wpOpsS, go_sem, recoverD, hu, Tryz.ntmps82, Exit.thenS]
  refine wpS_of_wp ?_
  simp [Array.replicate]
  go_wp2_with (go_at_call 83; refine (placeOf_any _ _).mono ?_; rintro e w' ⟨rfl, rfl⟩)
  simp [bodyPostS, results, Tryz.results82]
theorem idle22 (p q r : Addr) (w : World) :
    CallsD Tryz.prog 82 #[.pointer (some p), .pointer (some q), .pointer (some r)] .returning w fun e u' w' => e = .returned (.tuple #[]) ∧ u' = .returning ∧ w' = w := by
  refine callsD_of_wpS Tryz.func82 rfl fun c₀ cs hu => ?_
  apply wpS_seq
  apply wpS_region
  simp [wpOpsS, go_sem, recoverD, hu, Tryz.ntmps82, Exit.thenS]
  refine wpS_of_wp ?_
  simp [Array.replicate]
  go_wp2
  cases c₀
  simp_all [bodyPostS, results, Tryz.results82]
theorem HW.old {W X w : World} {v : Value} {ws : List T.Wd} (h : HW X w v ws) (hb : Below W.heap.size W X) : HW W w v ws := ⟨own_mono h.own hb.size, hb.trans (h.below.mono hb.size)⟩
def WsPost (W : World) (r : Nat ⊕ List T.Wd) (e : Ending) (W' : World) : Prop :=
  match r with
  | .inl x => e = .returned (.tuple #[.slice none 0 0, .int .i64 ((x + 1 : Nat) : Int), .int .i64 40]) ∧ Below W.heap.size W W'
  | .inr ws => ∃ v, e = .returned (.tuple #[v, .int .i64 0, .int .i64 0]) ∧ HW W W' v ws
theorem WsPost.bad {W W' : World} {x : Nat} {n : Int} {r : Nat ⊕ List T.Wd} (hr : r = .inl x) (hn : n = ((x + 1 : Nat) : Int)) (hb : Below W.heap.size W W') : WsPost W r (.returned (.tuple #[.slice none 0 0, .int .i64 n, .int .i64 40])) W' := by
  subst hr hn; exact ⟨rfl, hb⟩
theorem WsPost.good {W W' : World} {r : Nat ⊕ List T.Wd} {ws : List T.Wd} {v : Value} (hr : r = .inr ws) (hb : HW W W' v ws) : WsPost W r (.returned (.tuple #[v, .int .i64 0, .int .i64 0])) W' := by
  subst hr; exact ⟨_, rfl, hb⟩
theorem three_cells {W w1 : World} (o1 o2 o3 : Value) (t1 t2 t3 : TypeId) (hb : Below (W.heap.size + 3) (((W.alloc (.cells #[o1] t1)).alloc (.cells #[o2] t2)).alloc (.cells #[o3] t3)) w1) :
    w1.cell? ⟨W.heap.size, 0, none⟩ = some o1 ∧ w1.frozen? ⟨W.heap.size, 0, none⟩ = false ∧ w1.cell? ⟨W.heap.size + 1, 0, none⟩ = some o2 ∧ w1.frozen? ⟨W.heap.size + 1, 0, none⟩ = false ∧ w1.cell? ⟨W.heap.size + 2, 0, none⟩ = some o3 ∧ w1.frozen? ⟨W.heap.size + 2, 0, none⟩ = false ∧ Below W.heap.size W w1 := by
  refine ⟨?_, ?_, ?_, ?_, ?_, ?_, (((Below.refl _ _).alloc (Nat.le_refl _) _).alloc (by simp) _ |>.alloc (by simp; omega) _).trans (hb.mono (by omega))⟩
  · rw [hb.cell (p := ⟨W.heap.size, 0, none⟩) (by simp)]; simp [go_sem]
  · rw [hb.frozen (p := ⟨W.heap.size, 0, none⟩) (by simp)]; simp [go_sem]
  · rw [hb.cell (p := ⟨W.heap.size + 1, 0, none⟩) (by simp)]; simp [go_sem]
  · rw [hb.frozen (p := ⟨W.heap.size + 1, 0, none⟩) (by simp)]; simp [go_sem]
  · rw [hb.cell (p := ⟨W.heap.size + 2, 0, none⟩) (by simp)]; simp [go_sem]
  · rw [hb.frozen (p := ⟨W.heap.size + 2, 0, none⟩) (by simp)]; simp [go_sem]
def okW (m : Nat) : Nat ⊕ List T.Wd → Prop
  | .inl x => x ≤ m
  | .inr _ => True
theorem okW_cons {m : Nat} {w : T.Wd} {r : Nat ⊕ List T.Wd} (h : okW m r) : okW m (T.cons w r) := by cases r <;> exact h
theorem rd_le (l : List UInt8) (p : Nat) : okW (p + l.length) (T.rd l p) := by
  induction h : l.length using Nat.strongRecOn generalizing l p with
  | _ n ih =>
    subst h
    cases l with
    | nil => rw [T.rd_nil]; trivial
    | cons c t =>
      cases hg : T.isGap c with
      | true =>
        rw [T.rd_gap t p hg]
        have := ih t.length (by simp) t (p + 1) rfl
        rwa [show p + 1 + t.length = p + (c :: t).length from by simp; omega] at this
      | false =>
        by_cases h35 : c.toNat = 35
        · rw [T.rd_hash t p hg h35]; trivial
        · by_cases h34 : c.toNat = 34
          · have hu := T.unq_le t
            cases hq : T.unq t with
            | inl x =>
              rw [hq] at hu
              rw [T.rd_bad t p x hg h34 hq]
              have : x ≤ t.length := hu
              show p + 1 + x ≤ p + (c :: t).length
              simp
              omega
            | inr y =>
              obtain ⟨b, m⟩ := y
              rw [hq] at hu
              have hu1 : m ≤ t.length := hu.1
              cases hp : T.parted (t.drop m) with
              | false =>
                rw [T.rd_joined t b p m hg h34 hq hp]
                show p + 1 + m ≤ p + (c :: t).length
                simp
                omega
              | true =>
                rw [T.rd_quoted t b p m hg h34 hq hp]
                have := ih (t.drop m).length (by simp; omega) (t.drop m) (p + 1 + m) rfl
                rw [show p + 1 + m + (t.drop m).length = p + (c :: t).length from by simp; omega] at this
                exact okW_cons this
          · rw [T.rd_plain t p hg h35 h34]
            have h1 := T.plainN_pos t hg
            have h2 := T.plainN_le (c :: t)
            have := ih ((c :: t).drop (T.plainN (c :: t))).length (by simp; omega) ((c :: t).drop (T.plainN (c :: t))) (p + T.plainN (c :: t)) rfl
            rw [show p + T.plainN (c :: t) + ((c :: t).drop (T.plainN (c :: t))).length = p + (c :: t).length from by rw [List.length_drop]; omega] at this
            exact okW_cons this
set_option maxHeartbeats 1000000 in
theorem words_any (W : World) (s : ByteArray) (hs : s.size ≤ 1000000000) :
    Calls Tryz.prog 60 #[.string s] W fun e W' => WsPost W (T.rd s.data.toList 0) e W' := by
  have hle := rd_le s.data.toList 0
  generalize hr0 : T.rd s.data.toList 0 = r0 at *
  have hmf := hmf
  have HC := fun w => read_any w s hs
  rw [hr0] at HC
  cases r0 with
  | inl x =>
    have hx : (x : Int) ≤ 1000000001 := by have h : x ≤ 0 + s.data.toList.length := hle; rw [size_list] at h; omega
    have hx0 : (0 : Int) ≤ (x : Int) := by omega
    clear hr0
    go_enter_defers Tryz.func60, Tryz.ntmps60
    go_wp2_with fail
    refine (HC _).mono ?_
    rintro e w1 ⟨rfl, hb⟩
    obtain ⟨c1, c2, c3, c4, c5, c6, hB⟩ := three_cells _ _ _ _ _ _ (hb.mono (B' := W.heap.size + 3) (by simp))
    clear HC hb
    simp only [brk]
    go_wp2_with fail
    refine leaves_cons (f := 82) (args := #[.pointer (some ⟨W.heap.size, 0, none⟩), .pointer (some ⟨W.heap.size + 1, 0, none⟩), .pointer (some ⟨W.heap.size + 2, 0, none⟩)]) (by simp) (by simp [go_sem]) ?_
    refine (catch22 ⟨W.heap.size, 0, none⟩ ⟨W.heap.size + 1, 0, none⟩ ⟨W.heap.size + 2, 0, none⟩ (by simp) (by simp) (by simp) (.slice none 0 0) (.int .i64 0) (.int .i64 0) (x : Int) hx0 hx [] _ c1 c2 c3 c4 c5 c6).mono ?_
    rintro e u' w'' ⟨rfl, rfl, rfl⟩
    simp [Leaves, settle, results, Tryz.results60, go_sem, c1, c3, c5]
    exact WsPost.bad rfl (by omega) (((hB.setCell (by simp) _).setCell (by simp) _).setCell (by simp) _)
  | inr ws =>
    clear hr0 hle
    go_enter_defers Tryz.func60, Tryz.ntmps60
    go_wp2_with fail
    refine (HC _).mono ?_
    rintro e w1 ⟨v, rfl, hown⟩
    obtain ⟨c1, c2, c3, c4, c5, c6, hB⟩ := three_cells _ _ _ _ _ _ (hown.below.mono (B' := W.heap.size + 3) (by simp))
    have own := own_mono (B' := W.heap.size + 3) hown.own (by simp)
    obtain ⟨ao, cc, rfl⟩ := own_form own
    clear HC hown
    go_wp2_with fail
    refine leaves_cons (f := 82) (args := #[.pointer (some ⟨W.heap.size, 0, none⟩), .pointer (some ⟨W.heap.size + 1, 0, none⟩), .pointer (some ⟨W.heap.size + 2, 0, none⟩)]) (by simp) (by simp [go_sem]) ?_
    refine (idle22 ⟨W.heap.size, 0, none⟩ ⟨W.heap.size + 1, 0, none⟩ ⟨W.heap.size + 2, 0, none⟩ _).mono ?_
    rintro e u' w'' ⟨rfl, rfl, rfl⟩
    simp [Leaves, settle, results, Tryz.results60, go_sem, c1, c3, c5]
    exact WsPost.good rfl ⟨own_mono (own_set (own_set (own_set own _ (by simp) _) _ (by simp) _) _ (by simp) _) (by omega), ((hB.setCell (by simp) _).setCell (by simp) _).setCell (by simp; omega) _⟩
end Go.Proofs.YtncnogndopgknaaGreatDoor
namespace Go.Proofs.YtncnogndopgknaaGreatDoor
open Go.RowKit
theorem keep_block {w w' : World} {B n g : Nat} {e e' : TypeId} {z : Nat} {v : Value} {xs : List Value} {cur : Array Value} {fr : Nat × Nat} (hown : w.ownsRow B e z v n xs) (h2 : w.grownBy w' v.ownBlock) (hg : w.heap[g]? = some (.cells cur e' fr)) (hne : e' ≠ e) : w'.heap[g]? = some (.cells cur e' fr) := by
  rw [h2.block g (Array.getElem?_eq_some_iff.1 hg).1 ?_]
  · exact hg
  · intro he
    rcases hown.2 with ⟨rfl, _⟩ | ⟨g', cap, cur', rfl, _, hg', _⟩
    · cases he
    · simp only [Value.ownBlock, Option.some.injEq] at he
      subst he
      rw [hg] at hg'
      injection hg' with hh
      injection hh with h1 h2 h3
      exact hne h2
theorem HW.grown {W w w' : World} {u : Value} {ws : List T.Wd} {v : Value} {n : Nat} {xs : List Value} {e : TypeId} {z : Nat} (h : HW W w u ws) (hown : w.ownsRow W.heap.size e z v n xs) (h2 : w.grownBy w' v.ownBlock) (hne : (154 : TypeId) ≠ e) : HW W w' u ws :=
  ⟨⟨h.own.1, h.own.2.imp id fun ⟨g, cap, cur, hv, hb, hg, r⟩ => ⟨g, cap, cur, hv, hb, keep_block hown h2 hg hne, r⟩⟩, h.below.grown h2 h.below.size fun g hg => (hown.lt g hg).1⟩
theorem HB.grown {W w w' : World} {u : Value} {l : List UInt8} {v : Value} {n : Nat} {xs : List Value} {e : TypeId} {z : Nat} (h : HB W w u l) (hown : w.ownsRow W.heap.size e z v n xs) (h2 : w.grownBy w' v.ownBlock) (hne : (5 : TypeId) ≠ e) : HB W w' u l :=
  ⟨⟨h.own.1, h.own.2.imp id fun ⟨g, cap, cur, hv, hb, hg, r⟩ => ⟨g, cap, cur, hv, hb, keep_block hown h2 hg hne, r⟩⟩, h.below.grown h2 h.below.size fun g hg => (hown.lt g hg).1⟩
end Go.Proofs.YtncnogndopgknaaGreatDoor
namespace Go.Proofs.YtncnogndopgknaaGreatDoor
open Go.RowKit
def KT (e : TypeId) (w w' : World) : Prop := ∀ (j : Nat) (cs : Array Value) (fr : Nat × Nat), w.heap[j]? = some (Obj.cells cs e fr) → w'.heap[j]? = some (Obj.cells cs e fr)
theorem KT.of_below {e : TypeId} {w w' : World} (h : Below w.heap.size w w') : KT e w w' := fun j cs fr hj => by rw [h.block j (Array.getElem?_eq_some_iff.1 hj).1]; exact hj
theorem KT.trans {e : TypeId} {a b c : World} (h : KT e a b) (k : KT e b c) : KT e a c := fun j cs fr hj => k j cs fr (h j cs fr hj)
theorem KT.setCell {e t : TypeId} {w : World} {g : Nat} {cs : List Value} (h : Cel w g t cs) (hne : e ≠ t) (j : Nat) (v : Value) : KT e w (w.setCell ⟨g, j, none⟩ v) := fun i ds fr hi => by
  rw [heap_setCell_other w ⟨g, j, none⟩ i v (fun hh => by
    have hh' : i = g := hh
    subst hh'
    unfold Cel at h
    rw [h] at hi
    injection hi with hi
    injection hi with h1 h2 h3
    exact hne h2.symm)]
  exact hi
theorem KT.grown {e t : TypeId} {w w' : World} {B z n : Nat} {v : Value} {xs : List Value} (hown : w.ownsRow B t z v n xs) (h2 : w.grownBy w' v.ownBlock) (hne : e ≠ t) : KT e w w' := fun _ _ _ hi => keep_block hown h2 hi hne
theorem KT.turned {e : TypeId} {w w' : World} {b : Nat} (h : w.mapTurned w' b) : KT e w w' := fun i ds fr hi => by
  obtain ⟨es, clock, es', clock', h1, rfl⟩ := h
  have hne : i ≠ b := fun hh => by subst hh; rw [h1] at hi; cases hi
  show (w.heap.setIfInBounds b _)[i]? = _
  rw [Array.getElem?_setIfInBounds_ne (Ne.symm hne)]
  exact hi
theorem own_kt {w w' : World} {B n : Nat} {e : TypeId} {z : Nat} {v : Value} {xs : List Value} (h : w.ownsRow B e z v n xs) (k : KT e w w') : w'.ownsRow B e z v n xs :=
  ⟨h.1, h.2.imp id fun ⟨g, cap, cur, hv, hB, hg, r⟩ => ⟨g, cap, cur, hv, hB, k _ _ _ hg, r⟩⟩
theorem Cel.kt {w w' : World} {g : Nat} {t : TypeId} {cs : List Value} (h : Cel w g t cs) (k : KT t w w') : Cel w' g t cs := k _ _ _ h
theorem map_setCell {w : World} {g gm : Nat} {t : TypeId} {cs : List Value} {labs : List (List UInt8 × Nat)} (hm : MapIs w gm labs) (h : Cel w g t cs) (j : Nat) (v : Value) : MapIs (w.setCell ⟨g, j, none⟩ v) gm labs :=
  hm.block (heap_setCell_other w ⟨g, j, none⟩ gm v (fun hh => by
    have hh' : gm = g := hh
    subst hh'
    obtain ⟨es, clock, h1⟩ := hm.isMap
    unfold Cel at h
    rw [h] at h1
    cases h1))
theorem map_grown {w w' : World} {gm B z n : Nat} {t : TypeId} {v : Value} {xs : List Value} {labs : List (List UInt8 × Nat)} (hm : MapIs w gm labs) (hown : w.ownsRow B t z v n xs) (h2 : w.grownBy w' v.ownBlock) : MapIs w' gm labs :=
  hm.block (h2.block gm hm.lt (fun hh => by
    obtain ⟨es, clock, h1⟩ := hm.isMap
    rcases hown.2 with ⟨rfl, _⟩ | ⟨g', cap, cur', rfl, _, hg', _⟩
    · cases hh
    · simp only [Value.ownBlock, Option.some.injEq] at hh
      subst hh
      rw [hg'] at h1
      cases h1))
theorem map_on {w w' : World} {gm : Nat} {labs : List (List UInt8 × Nat)} (hm : MapIs w gm labs) (h : Below w.heap.size w w') : MapIs w' gm labs := hm.block (h.block gm hm.lt)
structure Fc where
  g7 : Nat
  g8 : Nat
  g5 : Nat
  g11 : Nat
  g6 : Nat
  g9 : Nat
  gO : Nat
  cap : Nat
def fcV (d : Fc) : Value := .func (.func 123) #[] #[.pointer (some ⟨d.g7, 0, none⟩), .pointer (some ⟨d.g8, 0, none⟩), .pointer (some ⟨d.g5, 0, none⟩), .pointer (some ⟨d.g11, 0, none⟩), .pointer (some ⟨d.g6, 0, none⟩), .pointer (some ⟨d.g9, 0, none⟩)]
structure ClosAt (w : World) (g : Nat) (d : Fc) (t : S.Lt) : Prop where
  c7 : Cel w d.g7 192 [.slice (some ⟨d.gO, 0, none⟩) t.ops.length d.cap]
  c8 : Cel w d.g8 3 [.int .i64 (t.at' : Int)]
  c5 : Cel w d.g5 68 [.pointer (some ⟨g, 0, none⟩)]
  c11 : Cel w d.g11 3 [.int .i64 (t.line : Int)]
  c6 : Cel w d.g6 188 (kdC t.k)
  c9 : Cel w d.g9 3 [.int .i64 (t.place : Int)]
  row : ∃ cur, w.heap[d.gO]? = some (.cells cur 197 (0, 0)) ∧ cur.toList.take (t.ops.length * 3) = opsC t.ops
  at' : t.at' < t.ops.length
  k : S.KOk t.k
  os : S.OsOk t.k t.ops
  place : t.place ≤ 2048
theorem ClosAt.kt {w w' : World} {g : Nat} {d : Fc} {t : S.Lt} (h : ClosAt w g d t) (k192 : KT 192 w w') (k3 : KT 3 w w') (k68 : KT 68 w w') (k188 : KT 188 w w') (k197 : KT 197 w w') : ClosAt w' g d t :=
  ⟨h.c7.kt k192, h.c8.kt k3, h.c5.kt k68, h.c11.kt k3, h.c6.kt k188, h.c9.kt k3, (let ⟨cur, a, b⟩ := h.row; ⟨cur, k197 _ _ _ a, b⟩), h.at', h.k, h.os, h.place⟩
def labC (x : List UInt8 × Nat) : List Value := [.string ⟨x.1.toArray⟩, .int .i64 (x.2 : Int)]
def labsC (l : List (List UInt8 × Nat)) : List Value := (l.map labC).flatten
def psC (base line : Nat) (vw vl : Value) (gm : Nat) (vf : Value) : List Value := [.int .u32 (base : Int), .int .i64 (line : Int), vw, vl, .map (some gm), vf]
structure PS (W w : World) (g gm base line : Nat) (st : S.St) (fs : List Fc) (vw vl vf : Value) : Prop where
  below : Below W.heap.size W w
  hg : W.heap.size ≤ g
  hm : W.heap.size ≤ gm
  cel : Cel w g 77 (psC base line vw vl gm vf)
  ws : w.ownsRow W.heap.size 22 1 vw st.ws.length (u32s st.ws)
  lb : w.ownsRow W.heap.size 43 2 vl st.labs.length (labsC st.labs)
  lt : w.ownsRow W.heap.size 111 1 vf st.lat.length (fs.map fcV)
  map : MapIs w gm st.labs
  len : fs.length = st.lat.length
  clos : ∀ i (h : i < st.lat.length) (h' : i < fs.length), ClosAt w g fs[i] st.lat[i]
  nodup : (fs.map (·.gO)).Nodup
  rows : ∀ d ∈ fs, W.heap.size ≤ d.gO
  room : st.ws.length ≤ 2048
  places : ∀ x ∈ st.labs, x.2 ≤ 2048
theorem PS.on {W w w' : World} {g gm base line : Nat} {st : S.St} {fs : List Fc} {vw vl vf : Value} (h : PS W w g gm base line st fs vw vl vf) (hb : Below w.heap.size w w') : PS W w' g gm base line st fs vw vl vf :=
  ⟨below_on h.below hb, h.hg, h.hm, h.cel.on hb, own_below h.ws hb, own_below h.lb hb, own_below h.lt hb, map_on h.map hb, h.len, fun i a b => (h.clos i a b).kt (.of_below hb) (.of_below hb) (.of_below hb) (.of_below hb) (.of_below hb), h.nodup, h.rows, h.room, h.places⟩
theorem PS.vw {W w : World} {g gm base line : Nat} {st : S.St} {fs : List Fc} {vw vl vf : Value} (h : PS W w g gm base line st fs vw vl vf) : ∃ ao c, vw = .slice ao st.ws.length c := own_form h.ws
theorem PS.setLine {W w : World} {g gm base line : Nat} {st : S.St} {fs : List Fc} {vw vl vf : Value} (h : PS W w g gm base line st fs vw vl vf) (n : Nat) : PS W (w.setCell ⟨g, 1, none⟩ (.int .i64 (n : Int))) g gm base n st fs vw vl vf :=
  ⟨h.below.setCell (p := ⟨g, 1, none⟩) h.hg _, h.hg, h.hm, h.cel.setCell 1 _, own_kt h.ws (.setCell h.cel (by decide) 1 _), own_kt h.lb (.setCell h.cel (by decide) 1 _), own_kt h.lt (.setCell h.cel (by decide) 1 _), map_setCell h.map h.cel 1 _, h.len,
   fun i a b => (h.clos i a b).kt (.setCell h.cel (by decide) 1 _) (.setCell h.cel (by decide) 1 _) (.setCell h.cel (by decide) 1 _) (.setCell h.cel (by decide) 1 _) (.setCell h.cel (by decide) 1 _), h.nodup, h.rows, h.room, h.places⟩
theorem hasRoom_any (w : World) (g : Nat) (ao : Option Addr) (n c k : Nat) (hn : n ≤ 2048) (hk : k ≤ 100000) (hc : w.cell? ⟨g, 2, none⟩ = some (.slice ao n c)) :
    Calls Tryz.prog 89 #[.pointer (some ⟨g, 0, none⟩), .int .i64 (k : Int)] w fun x w' => x = .returned (.bool (decide (n + k ≤ 2048))) ∧ w = w' := by
  have n1 : (n : Int) ≤ 2048 := by omega
  have k1 : (k : Int) ≤ 100000 := by omega
  have HR : Hid (decide ((n : Int) + (k : Int) ≤ 2048) = decide (n + k ≤ 2048)) := hid (by rw [Bool.eq_iff_iff]; simp; omega)
  clear hn hk
  go_enter Tryz.func89, Tryz.ntmps89
  go_wp2_with fail
  go_ret
  exact ⟨ret_bool HR.out, rfl⟩
theorem wp_mapUpdate {P : Program} {op : Oper} {a : Act} {w w' : World} {K : Act → World → Prop} {Q : Exit → Act → World → Prop} (t : TypeId) (m x y : Operand) (ho : op.op = .mapUpdate t m x y) (vm vx vy : Value) (hm : a.eval m = vm) (hx : a.eval x = vx) (hy : a.eval y = vy)
    (hr : (Instr.mapUpdate t vm vx vy).run P w = .ok () w') (h : K (a.put op.dst undef) w') : op.wp P a w K Q := by
  unfold Oper.wp execOp
  simp only [ho, hm, hx, hy, Sem.run_bind, Sem.run_pure, hr, Result.andThen_ok]
  exact h
end Go.Proofs.YtncnogndopgknaaGreatDoor
