import Derived.Test.YtialckmoigcdeaaDoorDig
namespace Go.Proofs.YtialckmoigcdeaaDoor
open Go.RowKit

set_option maxRecDepth 20000 in
theorem first_any (W : World) :
    Calls Tryd.prog 53 #[] W fun e W' => e = .returned (Ag S.First) ∧ Below W.heap.size W W' := by
  have b := Blk.new W .u32 26 [0, 0, 0, 0, 0, 0, 0, 0]
  have B : Hid (Blk (W.alloc (.cells #[.int .u32 0, .int .u32 0, .int .u32 0, .int .u32 0, .int .u32 0, .int .u32 0, .int .u32 0, .int .u32 0] 26)) W.heap.size .u32 26 [0, 0, 0, 0, 0, 0, 0, 0]) := b
  clear b
  go_enter Tryd.func53, Tryd.ntmps53
  go_wp2_with (first | (refine wpList_store_blk rfl 26 _ _ rfl W.heap.size S.First rfl rfl B.out size26 rfl ?_))
  refine ret_cell rfl rfl W.heap.size S.First rfl (B.out.setRow _) Tryd.underlying26 size26 ⟨rfl, ?_⟩
  exact below_setRow (below_one _ _) (Nat.le_refl _) _
set_option maxRecDepth 20000 in
theorem new_any (W : World) :
    Calls Tryd.prog 43 #[] W fun e W' => ∃ g, W.heap.size ≤ g ∧ e = .returned (.pointer (some ⟨g, 0, none⟩)) ∧ Dig W' g S.First 0 [] ∧ Below W.heap.size W W' := by
  go_enter Tryd.func43, Tryd.ntmps43
  go_wp2_with (first | (go_at_call 53; refine (first_any _).mono ?_; rintro e w' ⟨rfl, hb⟩; unfold Ag S.First))
  go_ret
  exact ⟨_, hb.size, rfl, ⟨rfl, by decide, rfl, List.replicate 16 0, rfl, heap_alloc_new _ _⟩, hb.alloc hb.size _⟩

theorem wpList_load_cel {P : Program} {ops : Array Oper} {rest : List Oper} {o : Oper} {a : Act} {w : World} {Q : Exit → Act → World → Prop} (hgd : o.guard = none) (ty : TypeId) (x : Operand) (ho : o.op = .load ty x)
    (g : Nat) (cs : List Value) (hx : a.eval x = .pointer (some ⟨g, 0, none⟩)) {e : TypeId} {d : TypeDesc} (hg : Cel w g e cs) (hu : P.underlying ty = some d) (hd : (match d with | .struct _ | .array _ _ => true | _ => false) = true) (hi : (P.info? ty).map (·.size) = some cs.length)
    (h : wpList P ops Q rest (a.put o.dst (.agg cs.toArray)) w) : wpList P ops Q (o :: rest) a w :=
  wpList_load_row hgd ty x ho g hx e _ (0, 0) _ hg hu hd (by rw [hi]; simp) h
theorem wpList_store_cel {P : Program} {ops : Array Oper} {rest : List Oper} {o : Oper} {a : Act} {w : World} {Q : Exit → Act → World → Prop} (hgd : o.guard = none) (ty : TypeId) (x y : Operand) (ho : o.op = .store ty x y)
    (g : Nat) (cs : List Value) (hx : a.eval x = .pointer (some ⟨g, 0, none⟩)) (hy : a.eval y = .agg cs.toArray) {e : TypeId} {cur : List Value} (hg : Cel w g e cur) (hi : (P.info? ty).map (·.size) = some cs.length) (hl : cur.length = cs.length) (h1 : ∀ v ∈ cs, v.oneCell' = true)
    (h : ∀ w', Cel w' g e cs → But g w w' → w'.heap.size = w.heap.size → wpList P ops Q rest (a.put o.dst undef) w') : wpList P ops Q (o :: rest) a w :=
  wpList_store_row hgd ty x y ho g _ hx hy e _ hg (by rw [hi]; simp) (by simp [hl]) (all_oneCell_toArray h1) (h _ (setRow_heap w g _ _ e _ hg) (but_setRow w g _) (by simp))
theorem digC_one (A : List Int) (n : Nat) (q : List Int) : ∀ v ∈ digC A n q, v.oneCell' = true := by
  intro v hv
  simp only [digC, List.mem_append, List.mem_cons] at hv
  rcases hv with hv | rfl | hv
  · exact ints_oneCell .u32 A v hv
  · exact ints_oneCell .i64 [(n : Int)] _ (by simp)
  · exact ints_oneCell .u32 q v hv
attribute [-simp] Tryd.isAgg70 Tryd.sizeOf70 Tryd.zeroValue70
set_option maxRecDepth 20000 in
theorem copy_any (W : World) (g : Nat) (A : List Int) (n : Nat) (p : List Int) (D : Dig W g A n p) :
    Calls Tryd.prog 35 #[.pointer (some ⟨g, 0, none⟩)] W fun e W' => ∃ g', W.heap.size ≤ g' ∧ e = .returned (.pointer (some ⟨g', 0, none⟩)) ∧ Dig W' g' A n p ∧ Below W.heap.size W W' := by
  obtain ⟨al, nl, pl, r, hr, hc⟩ := D
  have H1 := digC_one A n (p ++ r)
  have hl := digC_length A n (p ++ r) al hr
  have HD : Hid (∀ w', Cel w' W.heap.size 70 (digC A n (p ++ r)) → Dig w' W.heap.size A n p) := fun w' h => ⟨al, nl, pl, r, hr, h⟩
  have HG : Hid (g < W.heap.size) := hc.lt
  have HC : Hid (Cel W g 70 (digC A n (p ++ r))) := hc
  generalize digC A n (p ++ r) = cs at *
  obtain ⟨Z, hZ⟩ : ∃ Z : List Value, Z = (List.replicate 8 (Value.int .u32 0)) ++ (Value.int .i64 0 :: List.replicate 16 (Value.int .u32 0)) := ⟨_, rfl⟩
  have hz : ∀ w, (zeroValue 70).run Tryd.prog w = .ok (.agg Z.toArray) w := fun w => by rw [Tryd.zeroValue70, hZ]; rfl
  have hZl : Z.length = 25 := by rw [hZ]; rfl
  have HZ : Hid (Cel (W.alloc (.cells Z.toArray 70)) W.heap.size 70 Z) := heap_alloc_new _ _
  have H1' : Hid (∀ v ∈ cs, v.oneCell' = true) := H1
  clear hZ hc H1 al nl pl hr
  go_enter Tryd.func35, Tryd.ntmps35
  go_wp2_with (first | (refine wpList_load_cel rfl 70 _ rfl g cs rfl HC.out Tryd.underlying70 rfl (by rw [hl]; exact size70) ?_) | (refine wpList_store_cel rfl 70 _ _ rfl W.heap.size cs rfl rfl HZ.out (by rw [hl]; exact size70) (by rw [hl, hZl]) H1'.out ?_; intro w' hc' hb' hs'))
  go_ret
  exact ⟨_, Nat.le_refl _, rfl, HD.out _ hc', (below_one _ _).trans (hb'.below (Nat.le_refl _) (by simp))⟩
end Go.Proofs.YtialckmoigcdeaaDoor
