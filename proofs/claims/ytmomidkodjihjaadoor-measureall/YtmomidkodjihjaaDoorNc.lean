/- The document's same, Measure, Collide. -/
import Derived.Test.YtmomidkodjihjaaDoorNa
import Derived.Test.YtmomidkodjihjaaDoorMs
import Derived.Test.YtmomidkodjihjaaDoorHRSum
namespace Go.Proofs.YtmomidkodjihjaaDoor
open Go.RowKit
open H
set_option maxHeartbeats 4000000
set_option maxRecDepth 100000
theorem size81 : (Tryd.prog.info? 81).map (·.size) = some 2 := by kernel_rfl
theorem tabR_below {W w : World} {B : Nat} (h : TabR W) (hb : Below B W w) (hB : 1 < B) : TabR w := Row.below h hb hB
theorem rsumW_any (W : World) (hT : TabR W) (h2 : 1 < W.heap.size) (ao : Option Addr) (m c : Nat) (xs : List Int) (hx : xs.length = m) (wx : Wds xs) (hat : At W .u32 ao xs) (hm : m ≤ 262144) :
    Calls Tryd.prog 48 #[.slice ao m c] W fun e W' => e = .returned (Ag (sumW xs)) ∧ Below W.heap.size W W' := by
  rw [sumW_eq xs wx, ← rsumB_eq (bytesD xs) (by rw [bytesD_length]; omega)]
  exact rsum_any W hT h2 ao m c xs hx hat (by omega)
theorem rsame_any (W : World) (ao bo : Option Addr) (n m c d : Nat) (xs ys : List Int) (hx : xs.length = n) (hy : ys.length = m) (ha : At W .u32 ao xs) (hb : At W .u32 bo ys) (hn : n ≤ 4611686018427387904) :
    Calls Tryd.prog 49 #[.slice ao n c, .slice bo m d] W fun e W' => e = .returned (.bool (decide (xs = ys))) ∧ Below W.heap.size W W' := by
  by_cases hnm : n = m
  · subst hnm
    have HF : Hid ((∀ k, k < n → xs.getD k 0 = ys.getD k 0) → xs = ys) := hid (fun h => List.ext_getElem (hx.trans hy.symm) (fun i h1 h2 => by
      have := h i (by omega)
      simpa [List.getD_eq_getElem?_getD, h1, h2] using this))
    have HX := hid hx
    have HY := hid hy
    have HA := hid ha
    have HB := hid hb
    have q0 : (n : Int) ≤ 4611686018427387904 := by omega
    obtain ⟨r, hr⟩ : ∃ r, r = decide (xs = ys) := ⟨_, rfl⟩
    have HR := hid hr
    rw [← hr]
    clear hx hy ha hb hn hr
    go_enter Tryd.func49, Tryd.ntmps49
    go_wp2_with fail
    go_loopw [5] (fun i wr => ∃ k : Nat, k ≤ n ∧ i = .int .i64 (k : Int) ∧ Hid (Below W.heap.size W wr ∧ ∀ j, j < k → xs.getD j 0 = ys.getD j 0)) (fun i _ => n - (intOf i).toNat)
    case atStart => exact ⟨0, Nat.zero_le _, rfl, hid ⟨Below.refl _ _, by intro j hj; omega⟩⟩
    case round =>
      obtain ⟨k, hk, rfl, HQ⟩ := hrel
      by_cases hlt : k < n
      · obtain ⟨b1, o1, rfl, g1, r1⟩ : ∃ b off, ao = some ⟨b, off, none⟩ ∧ b < W.heap.size ∧ Row W .u32 b off xs := HA.out.resolve_left (by intro e; have := HX.out; rw [e] at this; simp at this; omega)
        obtain ⟨b2, o2, rfl, g2, r2⟩ : ∃ b off, bo = some ⟨b, off, none⟩ ∧ b < W.heap.size ∧ Row W .u32 b off ys := HB.out.resolve_left (by intro e; have := HY.out; rw [e] at this; simp at this; omega)
        have HC : Hid (∀ w, Below W.heap.size W w → w.cell? ⟨b1, o1 + k, none⟩ = some (.int .u32 (xs.getD k 0)) ∧ w.cell? ⟨b2, o2 + k, none⟩ = some (.int .u32 (ys.getD k 0))) := hid (fun w hw => ⟨(r1.below hw g1) k (by rw [HX.out]; exact hlt), (r2.below hw g2) k (by rw [HY.out]; exact hlt)⟩)
        have q1 : (k : Int) < (n : Int) := by omega
        have q2 : (0 : Int) ≤ (k : Int) := by omega
        have HK := hid hlt
        obtain ⟨x, hx⟩ : ∃ x, xs.getD k 0 = x := ⟨_, rfl⟩
        obtain ⟨y, hy⟩ : ∃ y, ys.getD k 0 = y := ⟨_, rfl⟩
        rw [hx, hy] at HC
        have HE : Hid (xs.getD k 0 = x ∧ ys.getD k 0 = y) := hid ⟨hx, hy⟩
        clear hx hy g1 r1 g2 r2 hlt hk
        go_upto_region 6 with fail
        have X0 := hid HQ.out.1.drew
        by_cases he : x = y
        · subst he
          refine wp_region_held_drew (S := fun w => Below W.heap.size W w) (by kernel_rfl) X0.out (fun hHeld => ?_)
          generalize World.drew _ = w0 at *
          refine wpAnyH_take (i := 0) (oi := { dst := some 17, op := Op.move (Operand.tmp 0), type := 22, pos := "ref.go:139", after := #[], guard := none }) (v := .slice (some ⟨b1, o1, none⟩) n c) rfl (by kernel_rfl) (by kernel_rfl) (by kernel_rfl) (fun _ _ _ h => h) (Or.inl ⟨by rfl, by intro w hSw; go_simp⟩) (by assumption) ?_
          simp only [Act.put, List.setIfInBounds_toArray, List.set_cons_zero, List.set_cons_succ]
          refine wpAnyH_take (i := 1) (oi := { dst := some 18, op := Op.move (Operand.tmp 5), type := 3, pos := "ref.go:139", after := #[], guard := none }) (v := .int .i64 (k : Int)) rfl (by kernel_rfl) (by kernel_rfl) (by kernel_rfl) (fun _ _ _ h => h) (Or.inl ⟨by rfl, by intro w hSw; go_simp⟩) (by assumption) ?_
          simp only [Act.put, List.setIfInBounds_toArray, List.set_cons_zero, List.set_cons_succ]
          refine wpAnyH_take (i := 2) (oi := { dst := some 19, op := Op.indexAddr 22 (Operand.tmp 17) (Operand.tmp 18), type := 0, pos := "ref.go:139", after := #[{ on := 0, ground := Ground.data }, { on := 1, ground := Ground.data }], guard := none }) (v := .pointer (some ⟨b1, o1 + k, none⟩)) rfl (by kernel_rfl) (by kernel_rfl) (by kernel_rfl) (fun _ _ _ h => h) (Or.inl ⟨by rfl, by intro w hSw; go_simp⟩) (by assumption) ?_
          simp only [Act.put, List.setIfInBounds_toArray, List.set_cons_zero, List.set_cons_succ]
          refine wpAnyH_take (i := 3) (oi := { dst := some 20, op := Op.load 24 (Operand.tmp 19), type := 24, pos := "ref.go:139", after := #[{ on := 2, ground := Ground.data }], guard := none }) (v := .int .u32 x) rfl (by kernel_rfl) (by kernel_rfl) (by kernel_rfl) (fun _ _ _ h => h) (Or.inl ⟨by rfl, by intro w hSw; have hc := (HC.out w hSw).1; go_simp⟩) (by assumption) ?_
          simp only [Act.put, List.setIfInBounds_toArray, List.set_cons_zero, List.set_cons_succ]
          refine wpAnyH_take (i := 4) (oi := { dst := some 21, op := Op.move (Operand.tmp 1), type := 22, pos := "ref.go:139", after := #[], guard := none }) (v := .slice (some ⟨b2, o2, none⟩) n d) rfl (by kernel_rfl) (by kernel_rfl) (by kernel_rfl) (fun _ _ _ h => h) (Or.inl ⟨by rfl, by intro w hSw; go_simp⟩) (by assumption) ?_
          simp only [Act.put, List.setIfInBounds_toArray, List.set_cons_zero, List.set_cons_succ]
          refine wpAnyH_take (i := 5) (oi := { dst := some 22, op := Op.move (Operand.tmp 5), type := 3, pos := "ref.go:139", after := #[], guard := none }) (v := .int .i64 (k : Int)) rfl (by kernel_rfl) (by kernel_rfl) (by kernel_rfl) (fun _ _ _ h => h) (Or.inl ⟨by rfl, by intro w hSw; go_simp⟩) (by assumption) ?_
          simp only [Act.put, List.setIfInBounds_toArray, List.set_cons_zero, List.set_cons_succ]
          refine wpAnyH_take (i := 6) (oi := { dst := some 23, op := Op.indexAddr 22 (Operand.tmp 21) (Operand.tmp 22), type := 0, pos := "ref.go:139", after := #[{ on := 4, ground := Ground.data }, { on := 5, ground := Ground.data }], guard := none }) (v := .pointer (some ⟨b2, o2 + k, none⟩)) rfl (by kernel_rfl) (by kernel_rfl) (by kernel_rfl) (fun _ _ _ h => h) (Or.inl ⟨by rfl, by intro w hSw; go_simp⟩) (by assumption) ?_
          simp only [Act.put, List.setIfInBounds_toArray, List.set_cons_zero, List.set_cons_succ]
          refine wpAnyH_take (i := 7) (oi := { dst := some 24, op := Op.load 24 (Operand.tmp 23), type := 24, pos := "ref.go:139", after := #[{ on := 6, ground := Ground.data }], guard := none }) (v := .int .u32 x) rfl (by kernel_rfl) (by kernel_rfl) (by kernel_rfl) (fun _ _ _ h => h) (Or.inl ⟨by rfl, by intro w hSw; have hc := (HC.out w hSw).2; go_simp⟩) (by assumption) ?_
          simp only [Act.put, List.setIfInBounds_toArray, List.set_cons_zero, List.set_cons_succ]
          refine wpAnyH_take (i := 8) (oi := { dst := some 25, op := Op.binOp BinOp.neq 24 (Operand.tmp 20) (Operand.tmp 24) 24, type := 4, pos := "ref.go:139", after := #[{ on := 3, ground := Ground.data }, { on := 7, ground := Ground.data }], guard := none }) (v := .bool false) rfl (by kernel_rfl) (by kernel_rfl) (by kernel_rfl) (fun _ _ _ h => h) (Or.inl ⟨by rfl, by intro w hSw; go_simp⟩) (by assumption) ?_
          simp only [Act.put, List.setIfInBounds_toArray, List.set_cons_zero, List.set_cons_succ]
          refine wpAnyH_done (by kernel_rfl) ?_ _
          go_wp2_with fail
          go_roundw
          case measure => have := HK.out; simp [intOf] <;> omega
          case rel => exact ⟨k + 1, HK.out, by simp, hid ⟨X0.out, fun j hj => by
            by_cases e : j = k
            · rw [e, HE.out.1, HE.out.2]
            · exact HQ.out.2 j (by omega)⟩⟩
        · have hne : (x != y) = true := by simpa using he
          have HN : Hid (r = false) := hid (by rw [HR.out]; exact decide_eq_false (fun e => he (by rw [← HE.out.1, ← HE.out.2, e])))
          clear he
          refine wp_region_held_drew (S := fun w => Below W.heap.size W w) (by kernel_rfl) X0.out (fun hHeld => ?_)
          generalize World.drew _ = w0 at *
          refine wpAnyH_take (i := 0) (oi := { dst := some 17, op := Op.move (Operand.tmp 0), type := 22, pos := "ref.go:139", after := #[], guard := none }) (v := .slice (some ⟨b1, o1, none⟩) n c) rfl (by kernel_rfl) (by kernel_rfl) (by kernel_rfl) (fun _ _ _ h => h) (Or.inl ⟨by rfl, by intro w hSw; go_simp⟩) (by assumption) ?_
          simp only [Act.put, List.setIfInBounds_toArray, List.set_cons_zero, List.set_cons_succ]
          refine wpAnyH_take (i := 1) (oi := { dst := some 18, op := Op.move (Operand.tmp 5), type := 3, pos := "ref.go:139", after := #[], guard := none }) (v := .int .i64 (k : Int)) rfl (by kernel_rfl) (by kernel_rfl) (by kernel_rfl) (fun _ _ _ h => h) (Or.inl ⟨by rfl, by intro w hSw; go_simp⟩) (by assumption) ?_
          simp only [Act.put, List.setIfInBounds_toArray, List.set_cons_zero, List.set_cons_succ]
          refine wpAnyH_take (i := 2) (oi := { dst := some 19, op := Op.indexAddr 22 (Operand.tmp 17) (Operand.tmp 18), type := 0, pos := "ref.go:139", after := #[{ on := 0, ground := Ground.data }, { on := 1, ground := Ground.data }], guard := none }) (v := .pointer (some ⟨b1, o1 + k, none⟩)) rfl (by kernel_rfl) (by kernel_rfl) (by kernel_rfl) (fun _ _ _ h => h) (Or.inl ⟨by rfl, by intro w hSw; go_simp⟩) (by assumption) ?_
          simp only [Act.put, List.setIfInBounds_toArray, List.set_cons_zero, List.set_cons_succ]
          refine wpAnyH_take (i := 3) (oi := { dst := some 20, op := Op.load 24 (Operand.tmp 19), type := 24, pos := "ref.go:139", after := #[{ on := 2, ground := Ground.data }], guard := none }) (v := .int .u32 x) rfl (by kernel_rfl) (by kernel_rfl) (by kernel_rfl) (fun _ _ _ h => h) (Or.inl ⟨by rfl, by intro w hSw; have hc := (HC.out w hSw).1; go_simp⟩) (by assumption) ?_
          simp only [Act.put, List.setIfInBounds_toArray, List.set_cons_zero, List.set_cons_succ]
          refine wpAnyH_take (i := 4) (oi := { dst := some 21, op := Op.move (Operand.tmp 1), type := 22, pos := "ref.go:139", after := #[], guard := none }) (v := .slice (some ⟨b2, o2, none⟩) n d) rfl (by kernel_rfl) (by kernel_rfl) (by kernel_rfl) (fun _ _ _ h => h) (Or.inl ⟨by rfl, by intro w hSw; go_simp⟩) (by assumption) ?_
          simp only [Act.put, List.setIfInBounds_toArray, List.set_cons_zero, List.set_cons_succ]
          refine wpAnyH_take (i := 5) (oi := { dst := some 22, op := Op.move (Operand.tmp 5), type := 3, pos := "ref.go:139", after := #[], guard := none }) (v := .int .i64 (k : Int)) rfl (by kernel_rfl) (by kernel_rfl) (by kernel_rfl) (fun _ _ _ h => h) (Or.inl ⟨by rfl, by intro w hSw; go_simp⟩) (by assumption) ?_
          simp only [Act.put, List.setIfInBounds_toArray, List.set_cons_zero, List.set_cons_succ]
          refine wpAnyH_take (i := 6) (oi := { dst := some 23, op := Op.indexAddr 22 (Operand.tmp 21) (Operand.tmp 22), type := 0, pos := "ref.go:139", after := #[{ on := 4, ground := Ground.data }, { on := 5, ground := Ground.data }], guard := none }) (v := .pointer (some ⟨b2, o2 + k, none⟩)) rfl (by kernel_rfl) (by kernel_rfl) (by kernel_rfl) (fun _ _ _ h => h) (Or.inl ⟨by rfl, by intro w hSw; go_simp⟩) (by assumption) ?_
          simp only [Act.put, List.setIfInBounds_toArray, List.set_cons_zero, List.set_cons_succ]
          refine wpAnyH_take (i := 7) (oi := { dst := some 24, op := Op.load 24 (Operand.tmp 23), type := 24, pos := "ref.go:139", after := #[{ on := 6, ground := Ground.data }], guard := none }) (v := .int .u32 y) rfl (by kernel_rfl) (by kernel_rfl) (by kernel_rfl) (fun _ _ _ h => h) (Or.inl ⟨by rfl, by intro w hSw; have hc := (HC.out w hSw).2; go_simp⟩) (by assumption) ?_
          simp only [Act.put, List.setIfInBounds_toArray, List.set_cons_zero, List.set_cons_succ]
          refine wpAnyH_take (i := 8) (oi := { dst := some 25, op := Op.binOp BinOp.neq 24 (Operand.tmp 20) (Operand.tmp 24) 24, type := 4, pos := "ref.go:139", after := #[{ on := 3, ground := Ground.data }, { on := 7, ground := Ground.data }], guard := none }) (v := .bool true) rfl (by kernel_rfl) (by kernel_rfl) (by kernel_rfl) (fun _ _ _ h => h) (Or.inl ⟨by rfl, by intro w hSw; go_simp⟩) (by assumption) ?_
          simp only [Act.put, List.setIfInBounds_toArray, List.set_cons_zero, List.set_cons_succ]
          refine wpAnyH_done (by kernel_rfl) ?_ _
          go_wp2_with fail
          go_ret
          exact ⟨by rw [HN.out]; rfl, X0.out⟩
      · obtain rfl : k = n := by omega
        have HN : Hid (r = true) := hid (by rw [HR.out]; exact decide_eq_true (HF.out HQ.out.2))
        clear hlt hk
        go_wp2_with fail
        go_ret
        exact ⟨by rw [HN.out]; rfl, HQ.out.1⟩
  · have hne : ((n : Int) != (m : Int)) = true := by rw [bne_iff_ne]; omega
    have hF : decide (xs = ys) = false := decide_eq_false (fun e => hnm (by rw [← hx, ← hy, e]))
    rw [hF]
    clear hF hnm ha hb hx hy hn
    go_enter Tryd.func49, Tryd.ntmps49
    go_wp2_with fail
    go_ret
    exact ⟨rfl, Below.refl _ _⟩
theorem rencode_ok (W : World) (ao : Option Addr) (n c : Nat) (l : List Ov) (hn : l.length = n) (h : OL W ao l) (hm : n ≤ 4611686018427387904) (ho : ∀ o ∈ l.map Ov.o, o.Ok) (hl : (enc (l.map Ov.o)).length ≤ 262144) :
    Calls Tryd.prog 30 #[.slice ao n c] W fun e W' => ∃ p cp, e = .returned (.tuple #[.slice p (enc (l.map Ov.o)).length cp, .int .i64 0]) ∧ Holds W W' .u32 24 (.slice p (enc (l.map Ov.o)).length cp) (enc (l.map Ov.o)) := by
  refine (rencode_any W ao n c l hn h hm).mono ?_
  rintro e w ⟨hb, ⟨⟨o, h1, h2⟩, _⟩ | ⟨_, h1, _⟩ | ⟨_, _, v, rfl, h1⟩⟩
  · exact absurd (ho o h1) h2
  · omega
  · obtain ⟨p, cp, hv, _⟩ := h1.at'
    subst hv
    exact ⟨p, cp, rfl, h1⟩
theorem rencode_bad (W : World) (ao : Option Addr) (n c : Nat) (l : List Ov) (hn : l.length = n) (h : OL W ao l) (hm : n ≤ 4611686018427387904) (ho : ∃ o ∈ l.map Ov.o, ¬ o.Ok) :
    Calls Tryd.prog 30 #[.slice ao n c] W fun e W' => e = .returned (.tuple #[.slice none 0 0, .int .i64 150]) ∧ Below W.heap.size W W' := by
  refine (rencode_any W ao n c l hn h hm).mono ?_
  rintro e w ⟨hb, ⟨_, h1⟩ | ⟨h1, _⟩ | ⟨h1, _⟩⟩
  · exact ⟨h1, hb⟩
  · obtain ⟨o, h2, h3⟩ := ho
    exact absurd (h1 o h2) h3
  · obtain ⟨o, h2, h3⟩ := ho
    exact absurd (h1 o h2) h3
theorem rencode_long (W : World) (ao : Option Addr) (n c : Nat) (l : List Ov) (hn : l.length = n) (h : OL W ao l) (hm : n ≤ 4611686018427387904) (ho : ∀ o ∈ l.map Ov.o, o.Ok) (hl : 262144 < (enc (l.map Ov.o)).length) :
    Calls Tryd.prog 30 #[.slice ao n c] W fun e W' => e = .returned (.tuple #[.slice none 0 0, .int .i64 2]) ∧ Below W.heap.size W W' := by
  refine (rencode_any W ao n c l hn h hm).mono ?_
  rintro e w ⟨hb, ⟨⟨o, h1, h2⟩, _⟩ | ⟨_, _, h1⟩ | ⟨_, h1, _⟩⟩
  · exact absurd (ho o h1) h2
  · exact ⟨h1, hb⟩
  · omega
attribute [-simp] Tryd.isAgg44 Tryd.sizeOf44 Tryd.zeroValue44
theorem rmeasure_err (W : World) (ao : Option Addr) (n c : Nat) (er : Int) (h0 : (er != 0) = true)
    (H : ∀ w, Below W.heap.size W w → Calls Tryd.prog 30 #[.slice ao n c] w fun e W' => e = .returned (.tuple #[.slice none 0 0, .int .i64 er]) ∧ Below w.heap.size w W') :
    Calls Tryd.prog 32 #[.slice ao n c] W fun e W' => e = .returned (.tuple #[Ag (List.replicate 8 0), .int .i64 er]) ∧ Below W.heap.size W W' := by
  obtain ⟨Z, hZ⟩ : ∃ Z : List Int, Z = List.replicate 8 0 := ⟨_, rfl⟩
  have hZl : Z.length = 8 := by rw [hZ]; simp
  have hz : ∀ w, (zeroValue 44).run Tryd.prog w = .ok (.agg (Z.map (Value.int .u32)).toArray) w := fun w => by rw [Tryd.zeroValue44, hZ]; rfl
  rw [← hZ]
  clear hZ
  have B1 : Hid (Below W.heap.size W (W.alloc (Obj.cells (List.map (Value.int IntKind.u32) Z).toArray 44))) := below_one _ _
  have Z1 : Hid (Blk (W.alloc (Obj.cells (List.map (Value.int IntKind.u32) Z).toArray 44)) W.heap.size .u32 44 Z) := Blk.new W .u32 44 Z
  have HE := hid H
  clear H
  go_enter Tryd.func32, Tryd.ntmps32
  go_wp2_with (first | (go_at_call 30; refine (HE.out _ B1.out).mono ?_; rintro e w1 ⟨rfl, hb⟩; have B2 := hid (below_on B1.out hb); have Z2 := hid (Z1.out.on hb); clear hb) | (refine wpList_store_blk rfl 44 _ _ rfl W.heap.size Z rfl rfl Z2.out (by rw [hZl]; exact size27) rfl ?_))
  refine ret_cell2 rfl rfl W.heap.size Z rfl (Z2.out.setRow _) Tryd.underlying44 (by rw [hZl]; exact size27) ⟨rfl, below_setRow B2.out (Nat.le_refl _) _⟩
theorem rmeasure_ok (W : World) (hT : TabR W) (h2 : 1 < W.heap.size) (ao : Option Addr) (n c : Nat) (l : List Ov) (hn : l.length = n) (h : OL W ao l) (hm : n ≤ 4611686018427387904) (ho : ∀ o ∈ l.map Ov.o, o.Ok) (hl : (enc (l.map Ov.o)).length ≤ 262144) (hwE : Wds (enc (l.map Ov.o))) :
    Calls Tryd.prog 32 #[.slice ao n c] W fun e W' => e = .returned (.tuple #[Ag (sumW (enc (l.map Ov.o))), .int .i64 0]) ∧ Below W.heap.size W W' := by
  obtain ⟨Z, hZ⟩ : ∃ Z : List Int, Z = List.replicate 8 0 := ⟨_, rfl⟩
  have hZl : Z.length = 8 := by rw [hZ]; simp
  have hz : ∀ w, (zeroValue 44).run Tryd.prog w = .ok (.agg (Z.map (Value.int .u32)).toArray) w := fun w => by rw [Tryd.zeroValue44, hZ]; rfl
  clear hZ
  have B1 : Hid (Below W.heap.size W (W.alloc (Obj.cells (List.map (Value.int IntKind.u32) Z).toArray 44))) := below_one _ _
  have Z1 : Hid (Blk (W.alloc (Obj.cells (List.map (Value.int IntKind.u32) Z).toArray 44)) W.heap.size .u32 44 Z) := Blk.new W .u32 44 Z
  have HE := hid (fun w (hw : Below W.heap.size W w) => rencode_ok w ao n c l hn (h.on hw) hm ho hl)
  have hMl := sumW_length (enc (l.map Ov.o))
  have HS := hid (fun w (hw : Below W.heap.size W w) p cp (hp : At w .u32 p (enc (l.map Ov.o))) => rsumW_any w (hT.below hw (by omega)) (by have := hw.size; omega) p _ cp _ rfl hwE hp (by omega))
  clear hn h hm ho hl hT h2 hwE
  generalize sumW (enc (l.map Ov.o)) = M at *
  generalize enc (l.map Ov.o) = L at *
  go_enter Tryd.func32, Tryd.ntmps32
  go_wp2_with (first | (go_at_call 30; refine (HE.out _ B1.out).mono ?_; rintro e w1 ⟨p, cp, rfl, hh⟩; have HA : Hid (At w1 .u32 p L) := hid (by obtain ⟨p', cp', e, _, ha, _⟩ := hh.at'; injection e with e1; rw [e1]; exact ha); have B2 := hid (below_on B1.out hh.below); have Z2 := hid (Z1.out.on hh.below); clear hh) | (go_at_call 48; refine (HS.out _ B2.out p cp HA.out).mono ?_; rintro e w2 ⟨rfl, hb⟩; have B3 := hid (below_on B2.out hb); have Z3 := hid (Z2.out.on hb); clear hb) | (refine wpList_store_blk rfl 44 _ _ rfl W.heap.size M rfl rfl Z3.out (by rw [hMl]; exact size27) (by rw [hZl, hMl]) ?_))
  refine ret_cell2 rfl rfl W.heap.size M rfl (Z3.out.setRow _) Tryd.underlying44 (by rw [hMl]; exact size27) ⟨rfl, below_setRow B3.out (Nat.le_refl _) _⟩
/-- What Encode answers, where the list has words. -/
def REncOk (W : World) (ao : Option Addr) (n c N : Nat) (E : List Int) : Prop := ∀ w, Below W.heap.size W w → Calls Tryd.prog 30 #[.slice ao n c] w fun e W' => ∃ p cp, e = .returned (.tuple #[.slice p N cp, .int .i64 0]) ∧ Holds w W' .u32 24 (.slice p N cp) E
def REncNo (W : World) (ao : Option Addr) (n c : Nat) (er : Int) : Prop := ∀ w, Below W.heap.size W w → Calls Tryd.prog 30 #[.slice ao n c] w fun e W' => e = .returned (.tuple #[.slice none 0 0, .int .i64 er]) ∧ Below w.heap.size w W'
theorem rco_e1 (W : World) (ao bo : Option Addr) (n c m d : Nat) (er : Int) (h0 : (er != 0) = true) (H : REncNo W ao n c er) :
    Calls Tryd.prog 34 #[.slice ao n c, .slice bo m d] W fun e W' => e = .returned (.tuple #[.agg nil2.toArray, .int .i64 er]) ∧ Below W.heap.size W W' := by
  have B1 := hid (below_one W (.cells #[.slice none 0 0, .slice none 0 0] 81))
  have C1 : Hid (Cel (W.alloc (.cells #[.slice none 0 0, .slice none 0 0] 81)) W.heap.size 81 nil2) := hid (heap_alloc_new _ _)
  have HE := hid H
  clear H
  unfold REncNo at HE
  go_enter Tryd.func34, Tryd.ntmps34
  go_wp2_with (first | (go_at_call 30; refine (HE.out _ B1.out).mono ?_; rintro e w1 ⟨rfl, hb⟩; have B2 := hid (below_on B1.out hb); have C2 := hid (C1.out.on hb); clear hb) | (revert C2; intro C2; refine wpList_store_st rfl 81 _ _ rfl W.heap.size nil2 rfl rfl C2.out size81 rfl rfl ?_; intro w3 hc3 hb3 hs3; have X3 := hid (And.intro (B2.out.trans (hb3.below (Nat.le_refl _) B2.out.size)) hc3); clear hc3 hb3 hs3 C2))
  refine ret_pair rfl rfl W.heap.size nil2 rfl X3.out.2 Tryd.underlying81 rfl size81 ⟨rfl, X3.out.1⟩
theorem rco_e2 (W : World) (ao bo : Option Addr) (n c m d N : Nat) (E : List Int) (HA : REncOk W ao n c N E) (er : Int) (h0 : (er != 0) = true) (H : REncNo W bo m d er) :
    Calls Tryd.prog 34 #[.slice ao n c, .slice bo m d] W fun e W' => e = .returned (.tuple #[.agg nil2.toArray, .int .i64 er]) ∧ Below W.heap.size W W' := by
  have B1 := hid (below_one W (.cells #[.slice none 0 0, .slice none 0 0] 81))
  have C1 : Hid (Cel (W.alloc (.cells #[.slice none 0 0, .slice none 0 0] 81)) W.heap.size 81 nil2) := hid (heap_alloc_new _ _)
  have HE := hid H
  have HF := hid HA
  clear H HA
  unfold REncNo at HE
  unfold REncOk at HF
  go_enter Tryd.func34, Tryd.ntmps34
  go_upto_region 4 with (go_at_call 30; refine (HF.out _ B1.out).mono ?_; rintro e w1 ⟨p1, c1, rfl, hh⟩; have B2 := hid (below_on B1.out hh.below); have C2 := hid (C1.out.on hh.below); clear hh)
  go_wp2_with (first | (go_at_call 30; refine (HE.out _ B2.out).mono ?_; rintro e w2 ⟨rfl, hb⟩; have B3 := hid (below_on B2.out hb); have C3 := hid (C2.out.on hb); clear hb) | (revert C3; intro C3; refine wpList_store_st rfl 81 _ _ rfl W.heap.size nil2 rfl rfl C3.out size81 rfl rfl ?_; intro w3 hc3 hb3 hs3; have X3 := hid (And.intro (B3.out.trans (hb3.below (Nat.le_refl _) B3.out.size)) hc3); clear hc3 hb3 hs3 C3))
  refine ret_pair rfl rfl W.heap.size nil2 rfl X3.out.2 Tryd.underlying81 rfl size81 ⟨rfl, X3.out.1⟩
/-- Both lists have words: they are the same, or not. -/
theorem rco_two (W : World) (hT : TabR W) (h2 : 1 < W.heap.size) (ao bo : Option Addr) (n c m d N M : Nat) (E F : List Int) (hN : E.length = N) (hM : F.length = M) (lN : N ≤ 262144) (lM : M ≤ 262144) (wE : Wds E) (wF : Wds F) (HA : REncOk W ao n c N E) (HB : REncOk W bo m d M F) :
    Calls Tryd.prog 34 #[.slice ao n c, .slice bo m d] W fun e W' => (E = F ∨ sumW E ≠ sumW F) ∧ e = .returned (.tuple #[.agg nil2.toArray, .int .i64 1]) ∧ Below W.heap.size W W' ∨
      (E ≠ F ∧ sumW E = sumW F) ∧ ∃ p cp q cq, e = .returned (.tuple #[.agg #[.slice p N cp, .slice q M cq], .int .i64 0]) ∧ Holds W W' .u32 24 (.slice p N cp) E ∧ Holds W W' .u32 24 (.slice q M cq) F := by
  have B1 := hid (below_one W (.cells #[.slice none 0 0, .slice none 0 0] 81))
  have C1 : Hid (Cel (W.alloc (.cells #[.slice none 0 0, .slice none 0 0] 81)) W.heap.size 81 nil2) := hid (heap_alloc_new _ _)
  have HE := hid HA
  have HF := hid HB
  have HQ := hid (fun w p cp q cq (hp : At w .u32 p E) (hq : At w .u32 q F) => rsame_any w p q N M cp cq E F hN hM hp hq (by omega))
  have HSE : Hid (∀ w p cp, Below W.heap.size W w → At w .u32 p E → Calls Tryd.prog 48 #[.slice p N cp] w fun e W' => e = .returned (.agg ((sumW E).map (Value.int .u32)).toArray) ∧ Below w.heap.size w W') := hid (fun w p cp hw hp => rsumW_any w (hT.below hw (by omega)) (by have := hw.size; omega) p N cp E hN wE hp (by omega))
  have HSF : Hid (∀ w p cp, Below W.heap.size W w → At w .u32 p F → Calls Tryd.prog 48 #[.slice p M cp] w fun e W' => e = .returned (.agg ((sumW F).map (Value.int .u32)).toArray) ∧ Below w.heap.size w W') := hid (fun w p cp hw hp => rsumW_any w (hT.below hw (by omega)) (by have := hw.size; omega) p M cp F hM wF hp (by omega))
  have heq := eq27 (sumW E) (sumW F) (sumW_length _) (sumW_length _)
  clear HA HB hT h2 hN hM lN lM wE wF
  unfold REncOk at HE HF
  by_cases hEF : E = F
  · rw [decide_eq_true hEF] at HQ
    have HC := hid hEF
    clear hEF heq HSE HSF
    go_enter Tryd.func34, Tryd.ntmps34
    go_upto_region 4 with (go_at_call 30; refine (HE.out _ B1.out).mono ?_; rintro e w1 ⟨p1, c1, rfl, hh⟩; have B2 := hid (below_on B1.out hh.below); have C2 := hid (C1.out.on hh.below); have A2 := hid (holds_at' hh).1; clear hh)
    go_upto_region 7 with (go_at_call 30; refine (HF.out _ B2.out).mono ?_; rintro e w2 ⟨p2, c2, rfl, hh⟩; have B3 := hid (below_on B2.out hh.below); have C3 := hid (C2.out.on hh.below); have A3 := hid (And.intro (A2.out.below hh.below) (holds_at' hh).1); clear hh)
    go_wp2_with (first | (go_at_call 49; refine (HQ.out _ _ _ _ _ A3.out.1 A3.out.2).mono ?_; rintro e w4 ⟨rfl, hb⟩; have B4 := hid (below_on B3.out hb); have C4 := hid (C3.out.on hb); clear hb) | (revert C4; intro C4; refine wpList_store_st rfl 81 _ _ rfl W.heap.size nil2 rfl rfl C4.out size81 rfl rfl ?_; intro w5 hc5 hb5 hs5; have X5 := hid (And.intro (B4.out.trans (hb5.below (Nat.le_refl _) B4.out.size)) hc5); clear hc5 hb5 hs5 C4))
    refine ret_pair rfl rfl W.heap.size nil2 rfl X5.out.2 Tryd.underlying81 rfl size81 (.inl ⟨.inl HC.out, rfl, X5.out.1⟩)
  · rw [decide_eq_false hEF] at HQ
    have HC := hid hEF
    clear hEF
    by_cases hs : sumW E = sumW F
    · rw [decide_eq_true hs] at heq
      have HS := hid hs
      clear hs
      go_enter Tryd.func34, Tryd.ntmps34
      go_upto_region 4 with (go_at_call 30; refine (HE.out _ B1.out).mono ?_; rintro e w1 ⟨p1, c1, rfl, hh⟩; have B2 := hid (holds_base hh B1.out); have C2 := hid (C1.out.on hh.below); clear hh)
      go_upto_region 7 with (go_at_call 30; refine (HF.out _ B2.out.below).mono ?_; rintro e w2 ⟨p2, c2, rfl, hh⟩; have B3 := hid (And.intro (holds_on B2.out hh.below) (holds_base hh B2.out.below)); have C3 := hid (C2.out.on hh.below); clear hh)
      go_wp2_with (first | (go_at_call 49; refine (HQ.out _ _ _ _ _ (holds_at' B3.out.1).1 (holds_at' B3.out.2).1).mono ?_; rintro e w4 ⟨rfl, hb⟩; have B4 := hid (And.intro (holds_on B3.out.1 hb) (holds_on B3.out.2 hb)); have C4 := hid (C3.out.on hb); clear hb C3) | (go_at_call 48; refine (HSE.out _ _ _ B4.out.1.below (holds_at' B4.out.1).1).mono ?_; rintro e w5 ⟨rfl, hb⟩; have B5 := hid (And.intro (holds_on B4.out.1 hb) (holds_on B4.out.2 hb)); have C5 := hid (C4.out.on hb); clear hb C4 B4) | (go_at_call 48; refine (HSF.out _ _ _ B5.out.1.below (holds_at' B5.out.2).1).mono ?_; rintro e w6 ⟨rfl, hb⟩; have B6 := hid (And.intro (holds_on B5.out.1 hb) (holds_on B5.out.2 hb)); have C6 := hid (C5.out.on hb); clear hb C5 B5) | (revert C6; intro C6; refine wpList_store_st rfl 81 _ _ rfl W.heap.size [.slice p1 N c1, .slice p2 M c2] rfl rfl C6.out size81 rfl rfl ?_; intro w7 hc7 hb7 hs7; have X7 : Hid (Holds W w7 .u32 24 (.slice p1 N c1) E ∧ Holds W w7 .u32 24 (.slice p2 M c2) F ∧ Cel w7 W.heap.size 81 [.slice p1 N c1, .slice p2 M c2]) := hid ⟨holds_but B6.out.1 hb7 (Nat.le_refl _) (fun e => cel_ty B6.out.1.own C6.out (by decide) _ e rfl), holds_but B6.out.2 hb7 (Nat.le_refl _) (fun e => cel_ty B6.out.2.own C6.out (by decide) _ e rfl), hc7⟩; clear hc7 hb7 hs7 C6))
      refine ret_pair rfl rfl W.heap.size [.slice p1 N c1, .slice p2 M c2] rfl X7.out.2.2 Tryd.underlying81 rfl size81 (.inr ⟨⟨HC.out, HS.out⟩, p1, c1, p2, c2, rfl, X7.out.1, X7.out.2.1⟩)
    · rw [decide_eq_false hs] at heq
      have HS := hid hs
      clear hs
      go_enter Tryd.func34, Tryd.ntmps34
      go_upto_region 4 with (go_at_call 30; refine (HE.out _ B1.out).mono ?_; rintro e w1 ⟨p1, c1, rfl, hh⟩; have B2 := hid (holds_base hh B1.out); have C2 := hid (C1.out.on hh.below); clear hh)
      go_upto_region 7 with (go_at_call 30; refine (HF.out _ B2.out.below).mono ?_; rintro e w2 ⟨p2, c2, rfl, hh⟩; have B3 := hid (And.intro (holds_on B2.out hh.below) (holds_base hh B2.out.below)); have C3 := hid (C2.out.on hh.below); clear hh)
      go_wp2_with (first | (go_at_call 49; refine (HQ.out _ _ _ _ _ (holds_at' B3.out.1).1 (holds_at' B3.out.2).1).mono ?_; rintro e w4 ⟨rfl, hb⟩; have B4 := hid (And.intro (holds_on B3.out.1 hb) (holds_on B3.out.2 hb)); have C4 := hid (C3.out.on hb); clear hb C3) | (go_at_call 48; refine (HSE.out _ _ _ B4.out.1.below (holds_at' B4.out.1).1).mono ?_; rintro e w5 ⟨rfl, hb⟩; have B5 := hid (And.intro (holds_on B4.out.1 hb) (holds_on B4.out.2 hb)); have C5 := hid (C4.out.on hb); clear hb C4 B4) | (go_at_call 48; refine (HSF.out _ _ _ B5.out.1.below (holds_at' B5.out.2).1).mono ?_; rintro e w6 ⟨rfl, hb⟩; have B6 := hid (And.intro (holds_on B5.out.1 hb) (holds_on B5.out.2 hb)); have C6 := hid (C5.out.on hb); clear hb C5 B5) | (revert C6; intro C6; refine wpList_store_st rfl 81 _ _ rfl W.heap.size nil2 rfl rfl C6.out size81 rfl rfl ?_; intro w7 hc7 hb7 hs7; have X7 := hid (And.intro (B6.out.1.below.trans (hb7.below (Nat.le_refl _) B6.out.1.below.size)) hc7); clear hc7 hb7 hs7 C6))
      refine ret_pair rfl rfl W.heap.size nil2 rfl X7.out.2 Tryd.underlying81 rfl size81 (.inl ⟨.inr HS.out, rfl, X7.out.1⟩)
end Go.Proofs.YtmomidkodjihjaaDoor
