/- Words (9), its deferred closure (22), placeOf (23). -/
import Derived.Test.YtncnogndopgknaaGreatDoorWrd2
namespace Go.Proofs.YtncnogndopgknaaGreatDoor
open Go.RowKit

theorem placeOf_any (x : Int) (w : World) : Calls Tryz.prog 83 #[.iface 231 (.int .i64 x)] w fun e w' => e = .returned (.int .i64 x) ∧ w = w' := by
  have ht : ∀ w, (Instr.typeAssert (.iface 231 (.int .i64 x)) 20 231 false).run Tryz.prog w = .ok (.int .i64 x) w := fun w => by
    simp [Instr.typeAssert, run_underlying Tryz.underlying231]
  go_enter Tryz.func83, Tryz.ntmps83
  go_wp2
  go_ret
  exact ⟨rfl, rfl⟩
theorem catch22 (p q r : Addr) (hpq : p ≠ q) (hpr : p ≠ r) (hqr : q ≠ r) (x y z : Value) (n : Int) (h0 : 0 ≤ n) (h1 : n ≤ 1000000001) (older : List PanicEntry) (w : World) (hc : w.cell? p = some x) (hz : w.frozen? p = false) (hc' : w.cell? q = some y) (hz' : w.frozen? q = false) (hc'' : w.cell? r = some z) (hz'' : w.frozen? r = false) :
    CallsD Tryz.prog 82 #[.pointer (some p), .pointer (some q), .pointer (some r)] (.panicking ({ v := .iface 231 (.int .i64 n), recovered := false } :: older)) w fun e u' w' =>
      e = .returned (.tuple #[]) ∧ u' = .panicking ({ v := .iface 231 (.int .i64 n), recovered := true } :: older) ∧ w' = ((w.setCell p (.slice none 0 0)).setCell q (.int .i64 (n + 1))).setCell r (.int .i64 40) := by
  refine callsD_of_wpS Tryz.func82 rfl fun c₀ cs hu => ?_
  apply wpS_seq
  apply wpS_region
  simp [wpOpsS, go_sem, recoverD, hu, Tryz.ntmps82, Exit.thenS]
  refine wpS_of_wp ?_
  simp [Array.replicate]
  go_wp2_with (go_at_call 83; refine (placeOf_any _ _).mono ?_; rintro e w' ⟨rfl, rfl⟩)
  simp [bodyPostS, results, Tryz.results82]
theorem idle22 (p q r : Addr) (w : World) :
    CallsD Tryz.prog 82 #[.pointer (some p), .pointer (some q), .pointer (some r)] .returning w fun e u' w' => e = .returned (.tuple #[]) ∧ u' = .returning ∧ w' = w := by
  refine callsD_of_wpS Tryz.func82 rfl fun c₀ cs hu => ?_
  apply wpS_seq
  apply wpS_region
  simp [wpOpsS, go_sem, recoverD, hu, Tryz.ntmps82, Exit.thenS]
  refine wpS_of_wp ?_
  simp [Array.replicate]
  go_wp2
  cases c₀
  simp_all [bodyPostS, results, Tryz.results82]
theorem HW.old {W X w : World} {v : Value} {ws : List T.Wd} (h : HW X w v ws) (hb : Below W.heap.size W X) : HW W w v ws := ⟨own_mono h.own hb.size, hb.trans (h.below.mono hb.size)⟩
def WsPost (W : World) (r : Nat ⊕ List T.Wd) (e : Ending) (W' : World) : Prop :=
  match r with
  | .inl x => e = .returned (.tuple #[.slice none 0 0, .int .i64 ((x + 1 : Nat) : Int), .int .i64 40]) ∧ Below W.heap.size W W'
  | .inr ws => ∃ v, e = .returned (.tuple #[v, .int .i64 0, .int .i64 0]) ∧ HW W W' v ws
theorem WsPost.bad {W W' : World} {x : Nat} {n : Int} {r : Nat ⊕ List T.Wd} (hr : r = .inl x) (hn : n = ((x + 1 : Nat) : Int)) (hb : Below W.heap.size W W') : WsPost W r (.returned (.tuple #[.slice none 0 0, .int .i64 n, .int .i64 40])) W' := by
  subst hr hn; exact ⟨rfl, hb⟩
theorem WsPost.good {W W' : World} {r : Nat ⊕ List T.Wd} {ws : List T.Wd} {v : Value} (hr : r = .inr ws) (hb : HW W W' v ws) : WsPost W r (.returned (.tuple #[v, .int .i64 0, .int .i64 0])) W' := by
  subst hr; exact ⟨_, rfl, hb⟩
theorem three_cells {W w1 : World} (o1 o2 o3 : Value) (t1 t2 t3 : TypeId) (hb : Below (W.heap.size + 3) (((W.alloc (.cells #[o1] t1)).alloc (.cells #[o2] t2)).alloc (.cells #[o3] t3)) w1) :
    w1.cell? ⟨W.heap.size, 0, none⟩ = some o1 ∧ w1.frozen? ⟨W.heap.size, 0, none⟩ = false ∧ w1.cell? ⟨W.heap.size + 1, 0, none⟩ = some o2 ∧ w1.frozen? ⟨W.heap.size + 1, 0, none⟩ = false ∧ w1.cell? ⟨W.heap.size + 2, 0, none⟩ = some o3 ∧ w1.frozen? ⟨W.heap.size + 2, 0, none⟩ = false ∧ Below W.heap.size W w1 := by
  refine ⟨?_, ?_, ?_, ?_, ?_, ?_, (((Below.refl _ _).alloc (Nat.le_refl _) _).alloc (by simp) _ |>.alloc (by simp; omega) _).trans (hb.mono (by omega))⟩
  · rw [hb.cell (p := ⟨W.heap.size, 0, none⟩) (by simp)]; simp [go_sem]
  · rw [hb.frozen (p := ⟨W.heap.size, 0, none⟩) (by simp)]; simp [go_sem]
  · rw [hb.cell (p := ⟨W.heap.size + 1, 0, none⟩) (by simp)]; simp [go_sem]
  · rw [hb.frozen (p := ⟨W.heap.size + 1, 0, none⟩) (by simp)]; simp [go_sem]
  · rw [hb.cell (p := ⟨W.heap.size + 2, 0, none⟩) (by simp)]; simp [go_sem]
  · rw [hb.frozen (p := ⟨W.heap.size + 2, 0, none⟩) (by simp)]; simp [go_sem]
def okW (m : Nat) : Nat ⊕ List T.Wd → Prop
  | .inl x => x ≤ m
  | .inr _ => True
theorem okW_cons {m : Nat} {w : T.Wd} {r : Nat ⊕ List T.Wd} (h : okW m r) : okW m (T.cons w r) := by cases r <;> exact h
theorem rd_le (l : List UInt8) (p : Nat) : okW (p + l.length) (T.rd l p) := by
  induction h : l.length using Nat.strongRecOn generalizing l p with
  | _ n ih =>
    subst h
    cases l with
    | nil => rw [T.rd_nil]; trivial
    | cons c t =>
      cases hg : T.isGap c with
      | true =>
        rw [T.rd_gap t p hg]
        have := ih t.length (by simp) t (p + 1) rfl
        rwa [show p + 1 + t.length = p + (c :: t).length from by simp; omega] at this
      | false =>
        by_cases h35 : c.toNat = 35
        · rw [T.rd_hash t p hg h35]; trivial
        · by_cases h34 : c.toNat = 34
          · have hu := T.unq_le t
            cases hq : T.unq t with
            | inl x =>
              rw [hq] at hu
              rw [T.rd_bad t p x hg h34 hq]
              have : x ≤ t.length := hu
              show p + 1 + x ≤ p + (c :: t).length
              simp
              omega
            | inr y =>
              obtain ⟨b, m⟩ := y
              rw [hq] at hu
              have hu1 : m ≤ t.length := hu.1
              cases hp : T.parted (t.drop m) with
              | false =>
                rw [T.rd_joined t b p m hg h34 hq hp]
                show p + 1 + m ≤ p + (c :: t).length
                simp
                omega
              | true =>
                rw [T.rd_quoted t b p m hg h34 hq hp]
                have := ih (t.drop m).length (by simp; omega) (t.drop m) (p + 1 + m) rfl
                rw [show p + 1 + m + (t.drop m).length = p + (c :: t).length from by simp; omega] at this
                exact okW_cons this
          · rw [T.rd_plain t p hg h35 h34]
            have h1 := T.plainN_pos t hg
            have h2 := T.plainN_le (c :: t)
            have := ih ((c :: t).drop (T.plainN (c :: t))).length (by simp; omega) ((c :: t).drop (T.plainN (c :: t))) (p + T.plainN (c :: t)) rfl
            rw [show p + T.plainN (c :: t) + ((c :: t).drop (T.plainN (c :: t))).length = p + (c :: t).length from by rw [List.length_drop]; omega] at this
            exact okW_cons this
set_option maxHeartbeats 1000000 in
theorem words_any (W : World) (s : ByteArray) (hs : s.size ≤ 1000000000) :
    Calls Tryz.prog 60 #[.string s] W fun e W' => WsPost W (T.rd s.data.toList 0) e W' := by
  have hle := rd_le s.data.toList 0
  generalize hr0 : T.rd s.data.toList 0 = r0 at *
  have hmf := hmf
  have HC := fun w => read_any w s hs
  rw [hr0] at HC
  cases r0 with
  | inl x =>
    have hx : (x : Int) ≤ 1000000001 := by have h : x ≤ 0 + s.data.toList.length := hle; rw [size_list] at h; omega
    have hx0 : (0 : Int) ≤ (x : Int) := by omega
    clear hr0
    go_enter_defers Tryz.func60, Tryz.ntmps60
    go_wp2_with fail
    refine (HC _).mono ?_
    rintro e w1 ⟨rfl, hb⟩
    obtain ⟨c1, c2, c3, c4, c5, c6, hB⟩ := three_cells _ _ _ _ _ _ (hb.mono (B' := W.heap.size + 3) (by simp))
    clear HC hb
    simp only [brk]
    go_wp2_with fail
    refine leaves_cons (f := 82) (args := #[.pointer (some ⟨W.heap.size, 0, none⟩), .pointer (some ⟨W.heap.size + 1, 0, none⟩), .pointer (some ⟨W.heap.size + 2, 0, none⟩)]) (by simp) (by simp [go_sem]) ?_
    refine (catch22 ⟨W.heap.size, 0, none⟩ ⟨W.heap.size + 1, 0, none⟩ ⟨W.heap.size + 2, 0, none⟩ (by simp) (by simp) (by simp) (.slice none 0 0) (.int .i64 0) (.int .i64 0) (x : Int) hx0 hx [] _ c1 c2 c3 c4 c5 c6).mono ?_
    rintro e u' w'' ⟨rfl, rfl, rfl⟩
    simp [Leaves, settle, results, Tryz.results60, go_sem, c1, c3, c5]
    exact WsPost.bad rfl (by omega) (((hB.setCell (by simp) _).setCell (by simp) _).setCell (by simp) _)
  | inr ws =>
    clear hr0 hle
    go_enter_defers Tryz.func60, Tryz.ntmps60
    go_wp2_with fail
    refine (HC _).mono ?_
    rintro e w1 ⟨v, rfl, hown⟩
    obtain ⟨c1, c2, c3, c4, c5, c6, hB⟩ := three_cells _ _ _ _ _ _ (hown.below.mono (B' := W.heap.size + 3) (by simp))
    have own := own_mono (B' := W.heap.size + 3) hown.own (by simp)
    obtain ⟨ao, cc, rfl⟩ := own_form own
    clear HC hown
    go_wp2_with fail
    refine leaves_cons (f := 82) (args := #[.pointer (some ⟨W.heap.size, 0, none⟩), .pointer (some ⟨W.heap.size + 1, 0, none⟩), .pointer (some ⟨W.heap.size + 2, 0, none⟩)]) (by simp) (by simp [go_sem]) ?_
    refine (idle22 ⟨W.heap.size, 0, none⟩ ⟨W.heap.size + 1, 0, none⟩ ⟨W.heap.size + 2, 0, none⟩ _).mono ?_
    rintro e u' w'' ⟨rfl, rfl, rfl⟩
    simp [Leaves, settle, results, Tryz.results60, go_sem, c1, c3, c5]
    exact WsPost.good rfl ⟨own_mono (own_set (own_set (own_set own _ (by simp) _) _ (by simp) _) _ (by simp) _) (by omega), ((hB.setCell (by simp) _).setCell (by simp) _).setCell (by simp; omega) _⟩
end Go.Proofs.YtncnogndopgknaaGreatDoor
