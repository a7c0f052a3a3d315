import Derived.Test.YtgbpbfnpeeciaaaGreatP22
import Derived.Test.YtgbpbfnpeeciaaaGreatP01
import Derived.Test.YtgbpbfnpeeciaaaGreatP38
import Derived.Test.YtgbpbfnpeeciaaaGreatP28
namespace Go.Proofs.YtgbpbfnpeeciaaaGreat
open Go.RowKit
set_option maxHeartbeats 4000000
set_option maxRecDepth 100000
def RowQ (W : World) (ao : Option Addr) (A : List (Int × Mp)) : Prop :=
  ∀ k x, A[k]? = some x → ∃ g, ao = some ⟨g, 0, none⟩ ∧ g < W.heap.size ∧ W.cell? ⟨g, k * 5, none⟩ = some (.int .u32 x.1) ∧ W.cell? ⟨g, k * 5 + 1, none⟩ = some (.bool x.2.s) ∧ W.cell? ⟨g, k * 5 + 2, none⟩ = some (.int .i64 x.2.p) ∧ W.cell? ⟨g, k * 5 + 3, none⟩ = some (.bool x.2.wr) ∧ W.cell? ⟨g, k * 5 + 4, none⟩ = some (.bool x.2.ex)
theorem RowQ.on {W w : World} {ao : Option Addr} {A : List (Int × Mp)} (h : RowQ W ao A) (hb : Below W.heap.size W w) : RowQ w ao A := fun k x hk => by
  obtain ⟨g, h1, h2, c0, c1, c2, c3, c4⟩ := h k x hk
  exact ⟨g, h1, Nat.lt_of_lt_of_le h2 hb.size, (hb.cell (p := ⟨g, k * 5, none⟩) h2).trans c0, (hb.cell (p := ⟨g, k * 5 + 1, none⟩) h2).trans c1, (hb.cell (p := ⟨g, k * 5 + 2, none⟩) h2).trans c2, (hb.cell (p := ⟨g, k * 5 + 3, none⟩) h2).trans c3, (hb.cell (p := ⟨g, k * 5 + 4, none⟩) h2).trans c4⟩
theorem flatq_at : ∀ (A : List (Int × Mp)) (k : Nat) (x : Int × Mp) (i : Nat), A[k]? = some x → i < 5 → (flat A)[k * 5 + i]? = (atC x)[i]?
  | [], k, x, i, h, _ => by simp at h
  | y :: A, 0, x, i, h, hi => by
    simp only [List.getElem?_cons_zero, Option.some.injEq] at h
    subst h
    rw [flat, List.flatMap_cons, List.getElem?_append_left (by simp [atC]; omega)]
    simp
  | y :: A, k + 1, x, i, h, hi => by
    simp only [List.getElem?_cons_succ] at h
    rw [flat, List.flatMap_cons, List.getElem?_append_right (by simp [atC]; omega)]
    have e : (k + 1) * 5 + i - (atC y).length = k * 5 + i := by simp [atC]; omega
    rw [e]
    exact flatq_at A k x i h hi
theorem RowQ.of {W : World} {base : Nat} {e : TypeId} {v : Value} {A : List (Int × Mp)} (h : W.ownsRow base e 5 v A.length (flat A)) : ∃ ao c, v = .slice ao A.length c ∧ RowQ W ao A := by
  rcases h.2 with ⟨rfl, hn⟩ | ⟨g, cap, cur, rfl, _, hg, h1, _, h2, h3⟩
  · refine ⟨none, 0, by rw [hn], fun k x hk => ?_⟩
    have := (List.getElem?_eq_some_iff.1 hk).1
    omega
  · refine ⟨_, cap, rfl, fun k x hk => ⟨g, rfl, (Array.getElem?_eq_some_iff.1 hg).1, ?_⟩⟩
    have hkl := (List.getElem?_eq_some_iff.1 hk).1
    have hc : ∀ i u, i < 5 → (atC x)[i]? = some u → W.cell? ⟨g, k * 5 + i, none⟩ = some u := fun i u hi hu => by
      rw [cell_of_row W g _ _ e (0, 0) hg]
      have ee := flatq_at A k x i hk hi
      rw [hu, ← h3, List.getElem?_take_of_lt (by omega)] at ee
      simpa using ee
    exact ⟨hc 0 _ (by decide) rfl, hc 1 _ (by decide) rfl, hc 2 _ (by decide) rfl, hc 3 _ (by decide) rfl, hc 4 _ (by decide) rfl⟩
theorem sameList_any (W : World) (ao bo : Option Addr) (c c' : Nat) (A : List (Int × Mp)) (hA : RowQ W ao A) (hB : RowQ W bo A) (hn : A.length ≤ 1000000) :
    Calls Tryz.prog 44 #[.slice ao A.length c, .slice bo A.length c'] W fun x W' => x = .returned (.bool true) ∧ Below W.heap.size W W' := by
  have HA := hid hA
  have HB := hid hB
  have HOw := hid (fun x m => turned_any x m)
  have HN := hid hn
  clear hA hB hn
  generalize hl : A.length = n at *
  have HL := hid hl
  clear hl
  go_enter Tryz.func44, Tryz.ntmps44
  go_wp2_with fail
  go_loopw [5] (fun i wr => ∃ j : Nat, j ≤ n ∧ i = .int .i64 (j : Int) ∧ Hid (Below W.heap.size W wr)) (fun i _ => n - (intOf i).toNat)
  case atStart => exact ⟨0, Nat.zero_le _, rfl, hid (Below.refl _ _)⟩
  case round =>
    obtain ⟨j, hj, rfl, HQ⟩ := hrel
    by_cases hlt : j < n
    · have q1 : (j : Int) < (n : Int) := by omega
      have q2 : (j : Int) ≤ 1000000 := by have := HN.out; omega
      have q0 : (0 : Int) ≤ (j : Int) := by omega
      have HJ : Hid (j < n) := hid hlt
      have BD := hid (below_on HQ.out (Below.refl _ _).drew)
      obtain ⟨y, hy⟩ : ∃ y, A[j]? = some y := ⟨A[j]'(by rw [HL.out]; exact hlt), List.getElem?_eq_getElem _⟩
      obtain ⟨h1, rfl, _⟩ := HA.out j y hy
      obtain ⟨h2, rfl, _⟩ := HB.out j y hy
      have HY := hid hy
      clear hy hlt hj
      obtain ⟨yv, ys, yp, yw, yx⟩ := y
      have HOw := hid (fun x => turned_any x ⟨ys, yp, yw, yx⟩)
      unfold Mp.v at HOw
      have HRow1 : Hid (∀ x, RowQ x (some ⟨h1, 0, none⟩) A → (x.cell? ⟨h1, j * 5, none⟩ = some (.int .u32 yv) ∧ x.cell? ⟨h1, j * 5 + 1, none⟩ = some (.bool ys) ∧ x.cell? ⟨h1, j * 5 + 2, none⟩ = some (.int .i64 yp) ∧ x.cell? ⟨h1, j * 5 + 3, none⟩ = some (.bool yw) ∧ x.cell? ⟨h1, j * 5 + 4, none⟩ = some (.bool yx))) := hid (fun x hx => by
        obtain ⟨g, hg, _, h⟩ := hx j _ HY.out
        obtain rfl : h1 = g := by simpa using hg
        exact h)
      have HRow2 : Hid (∀ x, RowQ x (some ⟨h2, 0, none⟩) A → (x.cell? ⟨h2, j * 5, none⟩ = some (.int .u32 yv) ∧ x.cell? ⟨h2, j * 5 + 1, none⟩ = some (.bool ys) ∧ x.cell? ⟨h2, j * 5 + 2, none⟩ = some (.int .i64 yp) ∧ x.cell? ⟨h2, j * 5 + 3, none⟩ = some (.bool yw) ∧ x.cell? ⟨h2, j * 5 + 4, none⟩ = some (.bool yx))) := hid (fun x hx => by
        obtain ⟨g, hg, _, h⟩ := hx j _ HY.out
        obtain rfl : h2 = g := by simpa using hg
        exact h)
      have AI := hid (And.intro (HA.out.on BD.out) (HB.out.on BD.out))
      go_upto_region 6 with fail
      refine wp_region_held_drew (S := fun x => (x.cell? ⟨h1, j * 5, none⟩ = some (.int .u32 yv) ∧ x.cell? ⟨h1, j * 5 + 1, none⟩ = some (.bool ys) ∧ x.cell? ⟨h1, j * 5 + 2, none⟩ = some (.int .i64 yp) ∧ x.cell? ⟨h1, j * 5 + 3, none⟩ = some (.bool yw) ∧ x.cell? ⟨h1, j * 5 + 4, none⟩ = some (.bool yx)) ∧ (x.cell? ⟨h2, j * 5, none⟩ = some (.int .u32 yv) ∧ x.cell? ⟨h2, j * 5 + 1, none⟩ = some (.bool ys) ∧ x.cell? ⟨h2, j * 5 + 2, none⟩ = some (.int .i64 yp) ∧ x.cell? ⟨h2, j * 5 + 3, none⟩ = some (.bool yw) ∧ x.cell? ⟨h2, j * 5 + 4, none⟩ = some (.bool yx))) (by kernel_rfl) ⟨HRow1.out _ AI.out.1, HRow2.out _ AI.out.2⟩ (fun hHeld => ?_)
      refine tk 0 ⟨some 17, .move (.tmp 0), 95, "law.go:81", #[], none⟩ (.slice (some ⟨h1, 0, none⟩) n c) ?_
      simp only [Act.put, List.setIfInBounds_toArray, List.set_cons_zero, List.set_cons_succ]
      refine tk 1 ⟨some 18, .move (.tmp 5), 3, "law.go:81", #[], none⟩ (.int .i64 (j : Int)) ?_
      simp only [Act.put, List.setIfInBounds_toArray, List.set_cons_zero, List.set_cons_succ]
      refine tk 2 ⟨some 19, .indexAddr 95 (.tmp 17) (.tmp 18), 0, "law.go:81", #[⟨0, .data⟩, ⟨1, .data⟩], none⟩ (.pointer (some ⟨h1, j * 5, none⟩)) ?_
      simp only [Act.put, List.setIfInBounds_toArray, List.set_cons_zero, List.set_cons_succ]
      refine tk 3 ⟨some 20, .fieldAddr 177 (.tmp 19) 0, 0, "law.go:81", #[⟨2, .data⟩], none⟩ (.pointer (some ⟨h1, j * 5, none⟩)) ?_
      simp only [Act.put, List.setIfInBounds_toArray, List.set_cons_zero, List.set_cons_succ]
      refine tk 4 ⟨some 21, .load 29 (.tmp 20), 29, "law.go:81", #[⟨3, .data⟩], none⟩ (.int .u32 yv) ?_ (hy := Or.inl ⟨by rfl, by intro w hSw; obtain ⟨d0, d1, d2, d3, d4⟩ := hSw.1; go_simp⟩)
      simp only [Act.put, List.setIfInBounds_toArray, List.set_cons_zero, List.set_cons_succ]
      refine tk 5 ⟨some 22, .move (.tmp 1), 98, "law.go:81", #[], none⟩ (Value.slice (some ⟨h2, 0, none⟩) n c') ?_
      simp only [Act.put, List.setIfInBounds_toArray, List.set_cons_zero, List.set_cons_succ]
      refine tk 6 ⟨some 23, .move (.tmp 5), 3, "law.go:81", #[], none⟩ (.int .i64 (j : Int)) ?_
      simp only [Act.put, List.setIfInBounds_toArray, List.set_cons_zero, List.set_cons_succ]
      refine tk 7 ⟨some 24, .indexAddr 98 (.tmp 22) (.tmp 23), 0, "law.go:81", #[⟨5, .data⟩, ⟨6, .data⟩], none⟩ (.pointer (some ⟨h2, j * 5, none⟩)) ?_
      simp only [Act.put, List.setIfInBounds_toArray, List.set_cons_zero, List.set_cons_succ]
      refine tk 8 ⟨some 25, .fieldAddr 175 (.tmp 24) 0, 0, "law.go:81", #[⟨7, .data⟩], none⟩ (.pointer (some ⟨h2, j * 5, none⟩)) ?_
      simp only [Act.put, List.setIfInBounds_toArray, List.set_cons_zero, List.set_cons_succ]
      refine tk 9 ⟨some 26, .load 29 (.tmp 25), 29, "law.go:81", #[⟨8, .data⟩], none⟩ (.int .u32 yv) ?_ (hy := Or.inl ⟨by rfl, by intro w hSw; obtain ⟨d0, d1, d2, d3, d4⟩ := hSw.2; go_simp⟩)
      simp only [Act.put, List.setIfInBounds_toArray, List.set_cons_zero, List.set_cons_succ]
      refine tk 10 ⟨some 27, .binOp .neq 29 (.tmp 21) (.tmp 26) 29, 4, "law.go:81", #[⟨4, .data⟩, ⟨9, .data⟩], none⟩ (.bool false) ?_
      simp only [Act.put, List.setIfInBounds_toArray, List.set_cons_zero, List.set_cons_succ]
      refine tk 11 ⟨some 28, .move (.tmp 27), 4, "law.go:81", #[⟨10, .data⟩], none⟩ (.bool false) ?_
      simp only [Act.put, List.setIfInBounds_toArray, List.set_cons_zero, List.set_cons_succ]
      refine tk 12 ⟨some 29, .move (.tmp 0), 95, "law.go:81", #[⟨11, .guard⟩], some (11, false)⟩ (.slice (some ⟨h1, 0, none⟩) n c) ?_
      simp only [Act.put, List.setIfInBounds_toArray, List.set_cons_zero, List.set_cons_succ]
      refine tk 13 ⟨some 30, .move (.tmp 5), 3, "law.go:81", #[⟨11, .guard⟩], some (11, false)⟩ (.int .i64 (j : Int)) ?_
      simp only [Act.put, List.setIfInBounds_toArray, List.set_cons_zero, List.set_cons_succ]
      refine tk 14 ⟨some 31, .indexAddr 95 (.tmp 29) (.tmp 30), 0, "law.go:81", #[⟨12, .data⟩, ⟨13, .data⟩, ⟨11, .guard⟩], some (11, false)⟩ (.pointer (some ⟨h1, j * 5, none⟩)) ?_
      simp only [Act.put, List.setIfInBounds_toArray, List.set_cons_zero, List.set_cons_succ]
      refine tk 15 ⟨some 32, .fieldAddr 177 (.tmp 31) 1, 0, "law.go:81", #[⟨14, .data⟩, ⟨11, .guard⟩], some (11, false)⟩ (.pointer (some ⟨h1, j * 5 + 1, none⟩)) ?_
      simp only [Act.put, List.setIfInBounds_toArray, List.set_cons_zero, List.set_cons_succ]
      refine tk 16 ⟨some 33, .load 88 (.tmp 32), 88, "law.go:81", #[⟨15, .data⟩, ⟨11, .guard⟩], some (11, false)⟩ (.agg #[.bool ys, .int .i64 yp, .bool yw, .bool yx]) ?_ (hy := Or.inl ⟨by rfl, by intro w hSw; obtain ⟨d0, d1, d2, d3, d4⟩ := hSw.1; go_simp⟩)
      simp only [Act.put, List.setIfInBounds_toArray, List.set_cons_zero, List.set_cons_succ]
      refine tk 17 ⟨some 34, .move (.tmp 1), 98, "law.go:81", #[⟨11, .guard⟩], some (11, false)⟩ (Value.slice (some ⟨h2, 0, none⟩) n c') ?_
      simp only [Act.put, List.setIfInBounds_toArray, List.set_cons_zero, List.set_cons_succ]
      refine tk 18 ⟨some 35, .move (.tmp 5), 3, "law.go:81", #[⟨11, .guard⟩], some (11, false)⟩ (.int .i64 (j : Int)) ?_
      simp only [Act.put, List.setIfInBounds_toArray, List.set_cons_zero, List.set_cons_succ]
      refine tk 19 ⟨some 36, .indexAddr 98 (.tmp 34) (.tmp 35), 0, "law.go:81", #[⟨17, .data⟩, ⟨18, .data⟩, ⟨11, .guard⟩], some (11, false)⟩ (.pointer (some ⟨h2, j * 5, none⟩)) ?_
      simp only [Act.put, List.setIfInBounds_toArray, List.set_cons_zero, List.set_cons_succ]
      refine tk 20 ⟨some 37, .fieldAddr 175 (.tmp 36) 1, 0, "law.go:81", #[⟨19, .data⟩, ⟨11, .guard⟩], some (11, false)⟩ (.pointer (some ⟨h2, j * 5 + 1, none⟩)) ?_
      simp only [Act.put, List.setIfInBounds_toArray, List.set_cons_zero, List.set_cons_succ]
      refine tk 21 ⟨some 38, .load 31 (.tmp 37), 31, "law.go:81", #[⟨20, .data⟩, ⟨11, .guard⟩], some (11, false)⟩ (.agg #[.bool ys, .int .i64 yp, .bool yw, .bool yx]) ?_ (hy := Or.inl ⟨by rfl, by intro w hSw; obtain ⟨d0, d1, d2, d3, d4⟩ := hSw.2; go_simp⟩)
      simp only [Act.put, List.setIfInBounds_toArray, List.set_cons_zero, List.set_cons_succ]
      refine wpAnyH_ready (rs := [22]) (by kernel_rfl) (by simp) (AllReadyH.cons (o := ⟨some 39, .call { callee := .value (.func 36), args := #[.tmp 38], argTypes := #[31] }, 88, "law.go:81", #[⟨21, .data⟩, ⟨11, .chain⟩, ⟨11, .guard⟩], some (11, false)⟩) rfl (fun KQ hK => ?_) AllReadyH.nil)
      go_simp
      refine (HOw.out _).mono ?_
      rintro e w14 ⟨rfl, hb⟩
      have BE := hid (below_on BD.out hb)
      have AJ := hid (And.intro (AI.out.1.on hb) (AI.out.2.on hb))
      clear hb
      go_wp2_with fail
      refine hK.out _ _ ⟨HRow1.out _ AJ.out.1, HRow2.out _ AJ.out.2⟩ (fun hHeld => ?_)
      clear hK KQ
      try simp only [Act.put, List.setIfInBounds_toArray, List.set_cons_zero, List.set_cons_succ]
      refine tk 23 ⟨some 40, .binOp .neq 88 (.tmp 33) (.tmp 39) 88, 4, "law.go:81", #[⟨16, .data⟩, ⟨22, .data⟩, ⟨11, .guard⟩], some (11, false)⟩ (.bool false) ?_
      simp only [Act.put, List.setIfInBounds_toArray, List.set_cons_zero, List.set_cons_succ]
      refine tk 24 ⟨some 41, .pick (.tmp 28) (.const (.bool true)) (.tmp 40), 4, "law.go:81", #[⟨11, .data⟩, ⟨23, .data⟩], none⟩ (.bool false) ?_
      simp only [Act.put, List.setIfInBounds_toArray, List.set_cons_zero, List.set_cons_succ]
      refine wpAnyH_done (by kernel_rfl) ?_ _
      go_wp2_with fail
      go_roundw
      case measure => have := HJ.out; simp [intOf] <;> omega
      case rel => exact ⟨j + 1, HJ.out, by simp, BE⟩
    · have hjn : j = n := by omega
      subst hjn
      clear hlt hj
      go_wp2_with fail
      go_ret
      exact ⟨rfl, HQ.out⟩
end Go.Proofs.YtgbpbfnpeeciaaaGreat
namespace Go.Proofs.YtgbpbfnpeeciaaaGreat
open Go.RowKit Go.Shelf
theorem rowsIn_wide {l n : Nat} {P : Program} {row : String} {args : Array Value} {w : World} {R : Value → World → Prop} (h : Rows P row args w R) : RowsIn (Fence.wide.inRound l) n P row args w R :=
  fun c cs _ => let ⟨v, w', r, s⟩ := h c cs; ⟨v, w', r, stepsIn_wide.2 s⟩
theorem upon_in {l n : Nat} {P : Program} {o : Oper} {a : Act} {K K' : Act → World → Prop} {Q : Exit → Act → World → Prop} (hK : ∀ a w, K a w → K' a w) (r : Result Next) (h : o.upon P a K Q r) : o.uponIn (Fence.wide.inRound l) n P a K' Q r := by
  unfold Oper.upon at h
  unfold Oper.uponIn
  split at h
  · exact hK _ _ h
  · exact hK _ _ h
  · exact hK _ _ h
  · refine ⟨fun h => (by cases h), ?_⟩
    have := callsIn_wide (n := n - 1).2 h
    refine CallsIn.mono (F := Fence.wide.inRound l) this ?_
    intro e w' he
    cases e with
    | returned v => exact hK _ _ he
    | panicked c => exact he
    | outgrown => exact he
  · exact ⟨fun h => (by cases h), rowsIn_wide (h.mono fun v w' hv => hK _ _ hv)⟩
  · exact h
  · exact h.elim
theorem wpAny_in {l n : Nat} {P : Program} {md : Region.Mode} {ops : Array Oper} {Q : Exit → Act → World → Prop} (hd : ∀ (i : Nat) (o : Oper), ops[i]? = some o → ∀ c, o.op ≠ .defer c) (hq : ¬ LetsOut Q) :
    ∀ (fuel : Nat) (listed : Array Bool) (a : Act) (w : World), wpAny P md ops Q fuel listed a w → wpAnyIn (Fence.wide.inRound l) n P md ops Q fuel listed a w
  | 0, _, _, _, h => h
  | fuel + 1, listed, a, w, h => ⟨h.1, fun i hi => by
      have h2 := h.2 i hi
      unfold wpOp at h2
      unfold wpOpIn
      cases ho : ops[i]? with
      | none => rw [ho] at h2; exact wpAny_in hd hq fuel _ _ _ h2
      | some o =>
        rw [ho] at h2
        simp only at h2 ⊢
        split
        · rename_i hw
          rw [if_pos hw] at h2
          rcases h2 with h2 | ⟨_, h2⟩
          · refine ⟨fun _ _ => trivial, ?_⟩
            rw [Oper.semAt_eq _ _ _ (hd i o ho)]
            exact upon_in (fun a w h => wpAny_in hd hq fuel _ a w h) _ h2
          · exact absurd h2 hq
        · rename_i hw
          rw [if_neg hw] at h2
          exact ⟨fun _ _ => trivial, wpAny_in hd hq fuel _ _ _ h2⟩⟩
def isDefer : Op → Bool
  | .defer _ => true
  | _ => false
theorem region_round {l n id : Nat} {P : Program} {ops : List Oper} {Q : Exit → Act → World → Prop} {S : World → Prop} {a : Act} {w : World} (hm : P.follows .mixedOrders = true) (hd : (ops.all fun o => !isDefer o.op) = true) (hq : ∀ a w, ¬ Q .outgrown a w) (hS : S w.drew)
    (h : S w.drew → wpAnyH P .any ops.toArray Q S ops.toArray.size (Array.replicate ops.toArray.size false) a w.drew) : (Code.region id ops.toArray true).wpIn (Fence.wide.inRound l) n P Q a w :=
  wpIn_region_any hm (wpAny_in (fun i o ho c hc => by
    have := List.all_eq_true.1 hd o (by have h' : ops[i]? = some o := by simpa using ho
                                        exact List.mem_of_getElem? h')
    rw [hc] at this
    cases this) (fun ⟨a, w, h⟩ => hq a w h) _ _ _ _ (wpAny_of_held _ _ _ _ (h hS)))
end Go.Proofs.YtgbpbfnpeeciaaaGreat
namespace Go.Proofs.YtgbpbfnpeeciaaaGreat
open Go.RowKit Go.Shelf
def notQ : Obj → Bool
  | .cells _ t _ => t != 177 && t != 95
  | .deferred _ => true
  | _ => false
structure QJ (w W : World) (p : Dp) (d : DS) (os : List (Nat × Obj)) (gl l : Nat) (r : Loop) (A : List (Int × Mp)) : Prop where
  db : DB W p d
  but : ButL p.f.w w W
  old : ∀ k ∈ p.all, k < w.heap.size
  obs : ∀ q ∈ os, Ob W q.1 q.2 ∧ w.heap.size ≤ q.1 ∧ notQ q.2 = true
  gl0 : w.heap.size ≤ gl
  l0 : w.heap.size ≤ l
  loop : Ob W l (.loop r)
  lst : ∃ v, Ob W gl (box v 95) ∧ W.ownsRow w.heap.size 177 5 v A.length (flat A)
theorem Ob.trans' {W W' : World} {k : Nat} {o : Obj} {G : List Nat} (h : Ob W k o) (hb : ButL G W W') (hk : k ∉ G) : Ob W' k o := (hb.block k h.lt hk).trans h
theorem Fp.w_dp {p : Dp} {k : Nat} (h : k ∈ p.f.w) : k ∈ p.all := by have := Fp.w_all h; simp [Dp.all, this]
variable {w W : World} {p : Dp} {d : DS} {os : List (Nat × Obj)} {gl l : Nat} {r : Loop} {A : List (Int × Mp)}
theorem QJ.high (h : QJ w W p d os gl l r A) {k : Nat} (hk : w.heap.size ≤ k) : k ∉ p.f.w := fun hm => by have := h.old k (Fp.w_dp hm); omega
theorem QJ.ob (h : QJ w W p d os gl l r A) (i : Nat) {k : Nat} {o : Obj} (hi : os[i]? = some (k, o)) : Ob W k o := (h.obs _ (List.mem_of_getElem? hi)).1
theorem QJ.cel (h : QJ w W p d os gl l r A) (i : Nat) {k : Nat} {t : TypeId} {cs : List Value} (hi : os[i]? = some (k, .cells cs.toArray t (0, 0))) : Cel W k t cs := h.ob i hi
theorem own_at {b : Nat} {e : TypeId} {size n : Nat} {v : Value} {xs : List Value} (h : W.ownsRow b e size v n xs) {k : Nat} (hk : v.ownBlock = some k) : b ≤ k ∧ ∃ cur, W.heap[k]? = some (.cells cur e (0, 0)) := by
  rcases h.2 with ⟨hn, _⟩ | ⟨g, cap, cur, hn, h1, h2, _⟩
  · rw [hn] at hk; cases hk
  · rw [hn] at hk
    have e2 : g = k := by simpa [Value.ownBlock] using hk
    subst e2
    exact ⟨h1, cur, h2⟩
theorem QJ.ne_own (_h : QJ w W p d os gl l r A) {v : Value} (ho : W.ownsRow w.heap.size 177 5 v A.length (flat A)) {k : Nat} {o : Obj} (hk : Ob W k o) (hn : ∀ cs z, o ≠ .cells cs 177 z) : some k ≠ v.ownBlock := fun e => by
  obtain ⟨_, cur, hc⟩ := own_at ho e.symm
  unfold Ob at hk
  rw [hc] at hk
  cases hk
  exact hn _ _ rfl
theorem notQ55 {o : Obj} (h : notQ o = true) (cs : Array Value) (z : Nat × Nat) : o ≠ .cells cs 177 z := by rintro rfl; simp [notQ] at h
theorem QJ.ne_gl (h : QJ w W p d os gl l r A) {q : Nat × Obj} (hq : q ∈ os) : q.1 ≠ gl := fun e => by
  obtain ⟨v, hv, _⟩ := h.lst
  obtain ⟨a, _, c⟩ := h.obs q hq
  rw [e] at a
  unfold Ob at a hv
  rw [hv] at a
  injection a with a
  rw [← a] at c
  simp [notQ, box] at c
theorem QJ.ne_l (h : QJ w W p d os gl l r A) {q : Nat × Obj} (hq : q ∈ os) : q.1 ≠ l := fun e => by
  obtain ⟨a, _, c⟩ := h.obs q hq
  have hl := h.loop
  rw [e] at a
  unfold Ob at a hl
  rw [hl] at a
  injection a with a
  rw [← a] at c
  simp [notQ] at c
theorem QJ.gl_l (h : QJ w W p d os gl l r A) : gl ≠ l := fun e => by
  obtain ⟨v, hv, _⟩ := h.lst
  have hl := h.loop
  rw [e] at hv
  unfold Ob at hv hl
  rw [hl] at hv
  injection hv with hv
  simp [box] at hv
theorem QJ.mem {W' : World} {d' : DS} (h : QJ w W p d os gl l r A) (hd : DB W' p d') (hb : ButL p.f.w W W') : QJ w W' p d' os gl l r A := by
  obtain ⟨v, hv, ho⟩ := h.lst
  exact ⟨hd, h.but.trans hb, h.old, fun q hq => ⟨(h.obs q hq).1.trans' hb (h.high (h.obs q hq).2.1), (h.obs q hq).2⟩, h.gl0, h.l0, h.loop.trans' hb (h.high h.l0), v, hv.trans' hb (h.high h.gl0), ownsRow_same ho (fun k cs t z hk hc => hb.block k (Array.getElem?_eq_some_iff.1 hc).1 (h.high hk))⟩
theorem QJ.on {W' : World} (h : QJ w W p d os gl l r A) (hb : Below W.heap.size W W') : QJ w W' p d os gl l r A := h.mem (h.db.on hb) (.of hb)
theorem QJ.new (h : QJ w W p d os gl l r A) (u : TypeId) (es : List Value) (hu : u ≠ 177 ∧ u ≠ 95) : QJ w (W.alloc (.cells es.toArray u)) p d ((W.heap.size, .cells es.toArray u (0, 0)) :: os) gl l r A := by
  have h1 := h.on (below_one W (.cells es.toArray u))
  refine ⟨h1.db, h1.but, h1.old, fun q hq => ?_, h1.gl0, h1.l0, h1.loop, h1.lst⟩
  rcases List.mem_cons.1 hq with rfl | hq
  · exact ⟨heap_alloc_new _ _, h.but.size, by simp [notQ, hu.1, hu.2]⟩
  · exact h1.obs q hq
theorem QJ.frame {W' : World} {G : List Nat} {r' : Loop} {A' : List (Int × Mp)} (h : QJ w W p d os gl l r A) (hb : ButL G W W') (hG : ∀ k ∈ G, w.heap.size ≤ k) (hos : ∀ q ∈ os, q.1 ∉ G) (hl : Ob W' l (.loop r')) (hlst : ∃ v, Ob W' gl (box v 95) ∧ W'.ownsRow w.heap.size 177 5 v A'.length (flat A')) : QJ w W' p d os gl l r' A' :=
  ⟨h.db.frame hb (fun k hk hm => by have := hG k hm; have := h.old k hk; omega),
   ⟨hb.os.trans h.but.os, hb.tape.trans h.but.tape, hb.output.trans h.but.output, Nat.le_trans h.but.size hb.size, fun k hk hn => (hb.block k (by have := h.but.size; omega) (fun hm => by have := hG k hm; omega)).trans (h.but.block k hk hn)⟩,
   h.old, fun q hq => ⟨(h.obs q hq).1.trans' hb (hos q hq), (h.obs q hq).2⟩, h.gl0, h.l0, hl, hlst⟩
theorem QJ.putL (h : QJ w W p d os gl l r A) (r' : Loop) : QJ w (W.putObj l (.loop r')) p d os gl l r' A := by
  have hb := putObj_but W l (.loop r')
  obtain ⟨v, hv, ho⟩ := h.lst
  refine h.frame hb (fun k hk => by rw [List.mem_singleton] at hk; rw [hk]; exact h.l0) (fun q hq => by rw [List.mem_singleton]; exact h.ne_l hq) (h.loop.put _) ⟨v, hv.trans' hb (by rw [List.mem_singleton]; exact h.gl_l), ownsRow_same ho (fun k cs t z hk hc => hb.block k (Array.getElem?_eq_some_iff.1 hc).1 ?_)⟩
  rw [List.mem_singleton]
  rintro rfl
  have hl := h.loop
  unfold Ob at hl
  rw [hl] at hc
  cases hc
theorem QJ.app {W5 : World} {v v' : Value} {A' : List (Int × Mp)} (h : QJ w W p d os gl l r A) (hv : Ob W gl (box v 95)) (ho : W.ownsRow w.heap.size 177 5 v A.length (flat A)) (hg : W.grownBy W5 v.ownBlock) (ho5 : W5.ownsRow w.heap.size 177 5 v' A'.length (flat A')) :
    QJ w (W5.setCell ⟨gl, 0, none⟩ v') p d os gl l r A' := by
  have hgo : some gl ≠ v.ownBlock := h.ne_own ho hv (by intro cs z e; simp [box] at e)
  have hlo : some l ≠ v.ownBlock := h.ne_own ho h.loop (by intro cs z e; cases e)
  have hg5 : Ob W5 gl (box v 95) := (hg.block gl hv.lt hgo).trans hv
  have hl5 : Ob W5 l (.loop r) := (hg.block l h.loop.lt hlo).trans h.loop
  have hb : ButL (gl :: v.ownBlock.toList) W (W5.setCell ⟨gl, 0, none⟩ v') :=
    ButL.trans (b := W5) ⟨hg.os, hg.tape, hg.output, hg.size, fun k hk hn => hg.block k hk (fun e => hn (by rw [← e]; simp))⟩ (.setCell _ _ _ _ (by simp))
  refine h.frame hb (fun k hk => ?_) (fun q hq hm => ?_) ((heap_setCell_other W5 ⟨gl, 0, none⟩ l v' (fun e => h.gl_l e.symm)).trans hl5) ⟨v', Cel.setCell (t := 95) (cs := [v]) (g := gl) (w := W5) hg5 0 v', ?_⟩
  · simp only [List.mem_cons, Option.mem_toList] at hk
    rcases hk with rfl | hk
    · exact h.gl0
    · exact (own_at ho (by simpa using hk)).1
  · simp only [List.mem_cons, Option.mem_toList] at hm
    rcases hm with e | e
    · exact h.ne_gl hq e
    · exact h.ne_own ho (h.obs q hq).1 (fun cs z => notQ55 (h.obs q hq).2.2 cs z) (by simpa using e.symm)
  · refine ⟨ho5.1, ho5.2.imp id ?_⟩
    rintro ⟨g, cap, cur, hn, h1, h2, h3⟩
    refine ⟨g, cap, cur, hn, h1, (heap_setCell_other W5 ⟨gl, 0, none⟩ g v' (fun e => ?_)).trans h2, h3⟩
    have e2 : g = gl := e
    rw [e2] at h2
    unfold Ob at hg5
    rw [hg5] at h2
    injection h2 with h2
    simp [box] at h2
theorem QJ.putC {W2 : World} {g : Nat} {u : TypeId} {cs es : List Value} (h : QJ w W p d ((g, .cells cs.toArray u (0, 0)) :: os) gl l r A) (hne : ∀ q ∈ os, q.1 ≠ g) (hc : Cel W2 g u es) (hb : ButL [g] W W2) : QJ w W2 p d ((g, .cells es.toArray u (0, 0)) :: os) gl l r A := by
  have h0 := h.obs _ (List.mem_cons_self)
  have h1 : QJ w W p d os gl l r A := ⟨h.db, h.but, h.old, fun q hq => h.obs q (List.mem_cons_of_mem _ hq), h.gl0, h.l0, h.loop, h.lst⟩
  obtain ⟨v, hv, ho⟩ := h.lst
  have hg1 : gl ≠ g := fun e => h.ne_gl (List.mem_cons_self) e.symm
  have hg2 : l ≠ g := fun e => h.ne_l (List.mem_cons_self) e.symm
  have hg3 := h.ne_own ho h0.1 (fun cs z => notQ55 h0.2.2 cs z)
  have h2 : QJ w W2 p d os gl l r A := h1.frame hb (fun k hk => by rw [List.mem_singleton] at hk; rw [hk]; exact h0.2.1) (fun q hq => by rw [List.mem_singleton]; exact hne q hq) (h.loop.trans' hb (by rw [List.mem_singleton]; exact hg2)) ⟨v, hv.trans' hb (by rw [List.mem_singleton]; exact hg1), by
    refine ⟨ho.1, ho.2.imp id ?_⟩
    rintro ⟨k, cap, cur, hn, a1, a2, a3⟩
    refine ⟨k, cap, cur, hn, a1, (hb.block k (Array.getElem?_eq_some_iff.1 a2).1 ?_).trans a2, a3⟩
    rw [List.mem_singleton]
    rintro rfl
    exact hg3 (by rw [hn]; rfl)⟩
  exact ⟨h2.db, h2.but, h2.old, fun q hq => by
    rcases List.mem_cons.1 hq with rfl | hq
    · exact ⟨hc, h0.2.1, h0.2.2⟩
    · exact h2.obs q hq, h2.gl0, h2.l0, h2.loop, h2.lst⟩
theorem QJ.fin {D : Nat} {x : Option (List Deferred)} (h : QJ w W p d os gl l r A) (i : Nat) (hi : os[i]? = some (D, .deferred x)) (o' : Obj) :
    DB (W.putObj D o') p d ∧ ButL p.f.w w (W.putObj D o') ∧ ∀ v, Ob W gl (box v 95) → W.ownsRow w.heap.size 177 5 v A.length (flat A) → (W.putObj D o').ownsRow w.heap.size 177 5 v A.length (flat A) := by
  have hq := List.mem_of_getElem? hi
  have h0 := h.obs _ hq
  have hb := putObj_but W D o'
  refine ⟨h.db.frame hb (fun k hk hm => by rw [List.mem_singleton] at hm; have := h.old k hk; have := h0.2.1; simp only at this; omega), ⟨hb.os.trans h.but.os, hb.tape.trans h.but.tape, hb.output.trans h.but.output, Nat.le_trans h.but.size hb.size, fun k hk hn => (hb.block k (by have := h.but.size; omega) (by rw [List.mem_singleton]; have := h0.2.1; simp only at this; omega)).trans (h.but.block k hk hn)⟩, fun v hv ho => ?_⟩
  refine ownsRow_same ho (fun k cs t z hk hc => hb.block k (Array.getElem?_eq_some_iff.1 hc).1 ?_)
  rw [List.mem_singleton]
  rintro rfl
  have := h0.1
  unfold Ob at this
  rw [hc] at this
  cases this
theorem QJ.tl {x : Nat × Obj} (h : QJ w W p d (x :: os) gl l r A) : QJ w W p d os gl l r A := ⟨h.db, h.but, h.old, fun q hq => h.obs q (List.mem_cons_of_mem _ hq), h.gl0, h.l0, h.loop, h.lst⟩
def DS.wc (d : DS) (c : Int) : DS := { d with m := d.m.wc c }
theorem DS.wc_rd (d : DS) (c a b : Int) : (d.wc c).rd a b = d.wc ((d.m.wc c).read true a b).c := by
  unfold DS.rd DS.wc
  rw [show (({ d with m := d.m.wc c } : DS).m) = d.m.wc c from rfl, MS.wc_read]
  rfl
def MS.und (m : MS) (i tb : Int) : Nat → List (Int × Mp)
  | 0 => []
  | j + 1 => m.und i tb j ++ (if m.mE (m.word true tb (j : Int)) = 0 then [(jW i (j : Int) 0, m.mM (m.word true tb (j : Int)))] else [])
theorem MS.und_len (m : MS) (i tb : Int) (j : Nat) : (m.und i tb j).length ≤ j := by
  induction j with
  | zero => simp [MS.und]
  | succ j ih =>
    rw [MS.und, List.length_append]
    split <;> simp <;> omega
end Go.Proofs.YtgbpbfnpeeciaaaGreat
namespace Go.Proofs.YtgbpbfnpeeciaaaGreat
open Go.RowKit Go.Shelf
set_option maxHeartbeats 8000000
set_option maxRecDepth 100000
theorem places_any (W : World) (p : Dp) (s t tb n : Int) :
    Calls Tryz.prog 95 #[tbV p s t, .int .i64 tb, .int .i64 n] W fun x W' => ∃ b3 b4 b5, x = .returned (.func (.func 118) #[] #[ptr b5, ptr b3, ptr b4]) ∧ Bag W W' [(b5, 3, [.int .i64 n]), (b4, 3, [.int .i64 tb]), (b3, 139, tbC p s t)] ∧ W.heap.size ≤ b3 ∧ W.heap.size ≤ b4 ∧ W.heap.size ≤ b5 := by
  have B0 := hid ((Bag.two W 139 3 (tbC p s t) [.int .i64 tb]).add (u := 3) (ds := [.int .i64 n]) (es := [.int .i64 n]) (Cel.new _ 3 [.int .i64 n]) (.refl _ _))
  simp only [World.size_alloc] at B0
  unfold tbC ptr at B0
  unfold tbV tbC ptr
  go_enter Tryz.func95, Tryz.ntmps95
  go_wp2_with fail
  go_returns
  exact ⟨W.heap.size, W.heap.size + 1, W.heap.size + 1 + 1, rfl, B0.out, Nat.le_refl _, Nat.le_succ _, by omega⟩
theorem plc_in (n l b5 b3 b4 : Nat) (p : Dp) (s t tb : Int) (words : Nat) (hw : words ≤ 1024) (J : Nat → World → Prop)
    (hJ : ∀ k W, J k W → (∃ d, DB W p d) ∧ W.cell? ⟨b5, 0, none⟩ = some (.int .i64 (words : Int)) ∧ Cel W b3 139 (tbC p s t) ∧ W.cell? ⟨b4, 0, none⟩ = some (.int .i64 tb))
    (hS : ∀ (k : Nat) W W', k < words → J k W → Below W.heap.size W W' → YieldAt .wide (n - 1) Tryz.prog l #[.int .i64 (k : Int), plV p.f tb (k : Int)] W' (fun e W'' => e = .returned (.bool true) ∧ J (k + 1) W''))
    (W : World) (h0 : J 0 W) :
    CallsIn .wide n Tryz.prog 118 #[.func (.yield l) #[] #[], .pointer (some ⟨b5, 0, none⟩), .pointer (some ⟨b3, 0, none⟩), .pointer (some ⟨b4, 0, none⟩)] W fun e W' => (∃ v, e = .returned v) ∧ J words W' := by
  have wq : (words : Int) ≤ 1024 := by omega
  have w0 := (hJ 0 W h0).2.1
  refine callsIn_of_wp Tryz.func118 rfl trivial ?_ rfl
  simp only [Tryz.ntmps118, List.size_toArray, List.length_cons, List.length_nil, Nat.reduceAdd, Nat.reduceSub, Array.replicate_succ, Array.replicate_zero, List.push_toArray, List.append_toArray, List.nil_append, List.cons_append]
  gi_wp2
  clear w0
  gi_loopw [7] (fun p wr => ∃ (k : Nat), k ≤ words ∧ p = .int .i64 (k : Int) ∧ Hid (J k wr)) (fun p _ => words - (intOf p).toNat)
  case atStart => exact ⟨0, Nat.zero_le _, rfl, hid h0⟩
  case round =>
    obtain ⟨k, hk, rfl, HQ⟩ := hrel
    by_cases hlt : k < words
    · have q1 : (k : Int) < (words : Int) := by omega
      have q2 : (k : Int) ≤ 1024 := by omega
      obtain ⟨⟨d, hd⟩, _, hb3, e4⟩ := hJ k _ HQ.out
      have HP := hid (placep_any wr p d hd s t tb (k : Int))
      have e1 := hb3.cell 0
      have e2 := hb3.cell 1
      have e3 := hb3.cell 2
      have HSk := hid (fun w1 (h2 : Below wr.heap.size wr w1) => hS k wr w1 hlt HQ.out h2)
      clear hd hb3
      simp only [tbC, List.getElem?_cons_zero, List.getElem?_cons_succ] at e1 e2 e3
      unfold tbV at HP
      unfold plV at HP HSk
      simp only [ptr] at *
      gi_wp2
      refine ⟨trivial, (fun h => by cases h), CallsIn.mono (callsIn_wide.2 HP.out) ?_⟩
      rintro x w1 ⟨rfl, hb1⟩
      have HS1 := hid (HSk.out w1 hb1)
      clear hb1 HP HSk e1 e2 e3 e4
      obtain ⟨fn, tmps, assign, body, hy, hR⟩ := HS1.out
      have HR := hid hR
      clear hR
      gi_wp2
      refine ⟨(fun h => by cases h), RoundIn.mono HR.out ?_⟩
      rintro x w2 ⟨rfl, hJ2⟩
      have HJ2 := hid hJ2
      clear hJ2 HR hy
      gi_wp2
      go_roundw
      case rel => exact ⟨k + 1, by omega, by simp, HJ2⟩
      case measure => simp [intOf] <;> omega
    · have hkw : k = words := by omega
      subst hkw
      gi_wp2
      go_end0
      exact ⟨⟨_, rfl⟩, HQ.out⟩
end Go.Proofs.YtgbpbfnpeeciaaaGreat
