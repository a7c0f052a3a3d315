/- slices.Concat and slices.Grow over bytes; appends onto a list of the call's own. -/
import Derived.Test.YtialckmoigcdeaaDoorMth
import Derived.Lib.AppendZeros
namespace Go.Proofs.YtialckmoigcdeaaDoor
open Go.RowKit

theorem Holds.alloc {W wr : World} {k : IntKind} {e : TypeId} {v : Value} {L : List Int} (h : Holds W wr k e v L) (o : Obj) : Holds W (wr.alloc o) k e v L := ⟨h.own.alloc o, h.below.alloc h.below.size o⟩
theorem Holds.drew {W wr : World} {k : IntKind} {e : TypeId} {v : Value} {L : List Int} (h : Holds W wr k e v L) : Holds W wr.drew k e v L := ⟨h.own, h.below.drew⟩
/-- append(own, x...), whatever x is. -/
theorem wpList_append_at {P : Program} {W w : World} {ops : Array Oper} {rest : List Oper} {o : Oper} {a : Act} {Q : Exit → Act → World → Prop} (hgd : o.guard = none) (s x : Operand) (t : TypeId)
    (ho : o.op = .call { callee := .builtin .append, args := #[s, x], argTypes := #[t, t] }) (k : IntKind) (e : TypeId) (i : TypeInfo) (z : Value) (bytes : Nat) (ht : P.underlying t = some (.slice e)) (hi : P.info? e = some i) (hz : i.zero = some z) (hsize : i.size = 1) (hby : i.bytes = bytes) (hzs : z.cells.size = 1)
    (v : Value) (L : List Int) (hs : a.eval s = v) (H : Holds W w k e v L) (ao : Option Addr) (m c : Nat) (xs : List Int) (hx : a.eval x = .slice ao m c) (hl : xs.length = m) (hat : At w k ao xs) (hn : ao = none → c = 0) (h63 : L.length + m ≤ maxLen) (hbytes : (L.length + m) * bytes ≤ 140737488355328)
    (h : ∀ v' w', Holds W w' k e v' (L ++ xs) → wpList P ops Q rest (a.put o.dst v') w') : wpList P ops Q (o :: rest) a w := by
  cases ao with
  | none =>
    have hx0 : xs = [] := by
      rcases hat with h0 | ⟨b, off, h1, _⟩
      · exact h0
      · cases h1
    subst hx0
    simp at hl
    subst hl
    obtain rfl := hn rfl
    refine wpList_append_own_none hgd s x t ho W.heap.size e i 1 ht hi v L.length _ hs H.own hx ?_
    have := h v w
    rw [List.append_nil] at this
    exact this H
  | some ad =>
    obtain ⟨v', w', hr, h1, h2, _⟩ := run_append_own (P := P) w W.heap.size t o.type e i z 1 bytes ht hi hz hsize hby hzs (by decide) v L.length _ H.own ad m c (xs.map (Value.int k)) (by simp [hl]) hat.cells (ints_oneCell k xs) h63 hbytes H.below.size
    have hH : Holds W w' k e v' (L ++ xs) := Holds.grow H.below (fun g hg => (H.own.lt g hg).1) h1 h2 (by simp [hl]) (by simp)
    refine wpList_plain hgd fun K hK => ?_
    unfold Oper.wp execOp
    simp only [ho, resolve, invoke, builtin, Sem.run_bind, Sem.run_pure, Result.andThen_ok, List.map_toArray, List.map_cons, List.map_nil, hs, hx, hr]
    exact hK _ _ (h _ _ hH)
/-- A slice that came in or was made: where it has no place it has no room. -/
def Sl (ao : Option Addr) (c : Nat) : Prop := ao = none → c = 0

def joinX (X : Nat → List Int) : Nat → List Int
  | 0 => []
  | t + 1 => joinX X t ++ X t
theorem joinX_le (X : Nat → List Int) (t : Nat) : ∀ d, (joinX X t).length ≤ (joinX X (t + d)).length
  | 0 => Nat.le_refl _
  | d + 1 => by
    have := joinX_le X t d
    show _ ≤ (joinX X (t + d) ++ X (t + d)).length
    rw [List.length_append]
    omega

set_option maxRecDepth 20000 in
set_option maxHeartbeats 400000 in
theorem grow_any (W : World) (n : Nat) (hn : n ≤ 140737488355328) :
    Calls Tryd.prog 46 #[.slice none 0 0, .int .i64 (n : Int)] W fun e W' => ∃ v, e = .returned v ∧ Holds W W' .u8 5 v [] := by
  obtain ⟨i0, hi, hz0, hz1, hz2⟩ := info_parts Tryd.info5
  have i1 : (n : Int) ≤ 140737488355328 := by omega
  by_cases h0 : n = 0
  · subst h0
    have HH : Hid (Holds W W .u8 5 (.slice none 0 0) []) := Holds.start _ _ _
    go_enter Tryd.func46, Tryd.ntmps46
    go_wp2
    go_ret
    exact ⟨_, rfl, HH.out⟩
  · have i2 : (0 : Int) < (n : Int) := by omega
    have hr := Lib.run_append_nil_zeros (P := Tryd.prog) W 22 3 22 5 i0 (.int .u8 0) .i64 .i64 Tryd.underlying22 Tryd.underlying3 hi hz0 n (by omega) (by omega) (by omega) (by rw [hz2]; omega)
    have hge := grownCap_ge W n 0 5
    have hle := grownCap_le_maxLen W n 0 5 (by unfold maxLen; omega)
    generalize grownCap W n 0 5 = cap at *
    have HH : Hid (Holds W (W.drew.alloc (.cells (Builtin.zeroCells (Value.cells (.int .u8 0)) n ++ Builtin.zeroCells (Value.cells (.int .u8 0)) (cap - n)) 5)) .u8 5 (.slice (some ⟨W.heap.size, 0, none⟩) 0 cap) []) := by
      refine ⟨?_, (Below.refl W.heap.size W).drew.alloc (by simp) _⟩
      have := World.ownsRow_made (base := W.heap.size) (e := 5) (size := 1) W.drew (Builtin.zeroCells (Value.cells (.int .u8 0)) n ++ Builtin.zeroCells (Value.cells (.int .u8 0)) (cap - n)) cap (by simp) hle (by simp [Builtin.zeroCells, Value.cells]; omega)
      simpa using this
    generalize (W.drew.alloc (.cells (Builtin.zeroCells (Value.cells (.int .u8 0)) n ++ Builtin.zeroCells (Value.cells (.int .u8 0)) (cap - n)) 5)) = X at *
    clear hi hz0 hz1 hz2 hn
    have c1 : (n : Int) ≤ (cap : Int) := by omega
    have c2 : (cap : Int) ≤ 9223372036854775807 := by unfold maxLen at hle; omega
    clear hge hle h0
    go_enter Tryd.func46, Tryd.ntmps46
    go_wp2_with (first | (at_builtin; refine Lib.wpList_append_run _ rfl _ _ _ _ rfl _ _ rfl rfl _ _ hr ?_))
    go_ret
    exact ⟨_, rfl, HH.out⟩
set_option maxHeartbeats 1000000 in
theorem concat_any (W : World) (gs q c : Nat) (A : Nat → Option Addr) (N C : Nat → Nat) (X : Nat → List Int) (hq : q ≤ 1000) (hc : ∀ t, t < q → W.cell? ⟨gs, t, none⟩ = some (.slice (A t) (N t) (C t))) (hg : gs < W.heap.size)
    (hX : ∀ t, t < q → (X t).length = N t) (hat : ∀ t, t < q → At W .u8 (A t) (X t)) (hs : ∀ t, t < q → Sl (A t) (C t)) (hl : (joinX X q).length ≤ 140737488355328) :
    Calls Tryd.prog 27 #[.slice (some ⟨gs, 0, none⟩) q c] W fun e W' => ∃ v, e = .returned v ∧ Holds W W' .u8 5 v (joinX X q) := by
  obtain ⟨i0, hi, hz0, hz1, hz2⟩ := info_parts Tryd.info5
  go_enter Tryd.func27, Tryd.ntmps27
  go_wp2
  go_loopw [3, 11] (fun s i wr => ∃ t : Nat, t ≤ q ∧ i = .int .i64 t ∧ s = .int .i64 ((joinX X t).length : Int) ∧ W = wr) (fun _ i _ => q - (intOf i).toNat)
  case atStart => exact ⟨0, Nat.zero_le _, rfl, rfl, rfl⟩
  case round =>
    obtain ⟨t, ht, rfl, rfl, rfl⟩ := hrel
    by_cases hlt : t < q
    · have hct := hc t hlt
      have e1 : (joinX X (t + 1)).length = (joinX X t).length + N t := by
        show (joinX X t ++ X t).length = _
        rw [List.length_append, hX t hlt]
      have hle := joinX_le X (t + 1) (q - (t + 1))
      rw [show t + 1 + (q - (t + 1)) = q by omega] at hle
      generalize (joinX X t).length = l0 at *
      generalize A t = a at *
      generalize N t = n at *
      generalize C t = cc at *
      have HE : Hid (∀ u : Int, u = (l0 : Int) + (n : Int) → u = ((joinX X (t + 1)).length : Int)) := fun u hu => by omega
      have i1 : (l0 : Int) ≤ 140737488355328 := by omega
      have i2 : (n : Int) ≤ 140737488355328 := by omega
      have i3 : (t : Int) < (q : Int) := by omega
      have i4 : (q : Int) ≤ 1000 := by omega
      clear e1 hle hl ht hq hc hX hat hs hi hz0 hz1 hz2
      go_wp2
      go_roundw
      case rel => exact ⟨t + 1, by omega, by go_num, by congr 1; exact HE.out _ rfl, trivial⟩
      case measure => simp [intOf]; omega
    · obtain rfl : t = q := by omega
      have i1 : (t : Int) ≤ 1000 := by omega
      have GR : Hid (Calls Tryd.prog 46 #[.slice none 0 0, .int .i64 ((joinX X t).length : Int)] W fun e W' => ∃ v, e = .returned v ∧ Holds W W' .u8 5 v []) := grow_any W _ hl
      go_wp2_with (first | (go_at_call 46; refine GR.out.mono ?_; rintro e w1 ⟨v0, rfl, H0⟩))
      clear GR
      go_loopw [6, 27] (fun v i wr => ∃ k : Nat, k ≤ t ∧ i = .int .i64 k ∧ Holds W wr .u8 5 v (joinX X k)) (fun _ i _ => t - (intOf i).toNat)
      case atStart => exact ⟨0, Nat.zero_le _, rfl, H0⟩
      case round =>
        clear H0
        obtain ⟨k, hk, rfl, H⟩ := hrel
        by_cases hlt' : k < t
        · have hct := hc k hlt'
          have hct' : wr.cell? ⟨gs, k, none⟩ = some (.slice (A k) (N k) (C k)) := (H.below.cell (p := ⟨gs, k, none⟩) hg).trans hct
          have hle := joinX_le X (k + 1) (t - (k + 1))
          rw [show k + 1 + (t - (k + 1)) = t by omega] at hle
          have e1 : (joinX X (k + 1)).length = (joinX X k).length + N k := by
            show (joinX X k ++ X k).length = _
            rw [List.length_append, hX k hlt']
          have h63 : (joinX X k).length + N k ≤ maxLen := by unfold maxLen; omega
          have hby : ((joinX X k).length + N k) * 1 ≤ 140737488355328 := by omega
          have i3 : (k : Int) < (t : Int) := by omega
          have HX := hX k hlt'
          have HA := (hat k hlt').below H.below
          have HS := hs k hlt'
          have HH : Hid (Holds W wr .u8 5 u6 (joinX X k)) := H
          have HN : Hid (∀ v' w', Holds W w' .u8 5 v' (joinX X k ++ X k) → Holds W w' .u8 5 v' (joinX X (k + 1))) := fun _ _ h => h
          clear hct hle e1 hl hc hX hat hs H hq
          generalize joinX X k = J at *
          generalize A k = a at *
          generalize N k = n at *
          generalize C k = cc at *
          have HS' : Hid (a = none → cc = 0) := HS
          have HA' : Hid (At wr .u8 a (X k)) := HA
          have HX' : Hid ((X k).length = n) := HX
          clear HS HA HX
          go_wp2_with (first | (at_builtin; refine wpList_append_at (W := W) rfl _ _ 22 rfl .u8 5 i0 (.int .u8 0) 1 Tryd.underlying22 hi hz0 hz1 hz2 rfl u6 J rfl HH.out a n cc (X k) rfl HX'.out HA'.out HS'.out h63 hby ?_; intro v' w3 H3; have H3' : Hid _ := HN.out _ _ H3; clear H3))
          go_roundw
          case rel => exact ⟨k + 1, by omega, by go_num, H3'.out⟩
          case measure => simp [intOf]; omega
        · obtain rfl : k = t := by omega
          have HH : Hid (Holds W wr .u8 5 u6 (joinX X k)) := H
          clear H
          go_wp2
          go_ret
          exact ⟨_, rfl, HH.out⟩
end Go.Proofs.YtialckmoigcdeaaDoor
