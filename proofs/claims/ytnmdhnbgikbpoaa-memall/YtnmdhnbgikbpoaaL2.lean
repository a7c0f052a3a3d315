/- The law's acted 20. -/
import Derived.Test.YtnmdhnbgikbpoaaL1
namespace Go.Proofs.Ytnmdhnbgikbpoaa
open Go.RowKit
theorem in_any2 (w : World) (n : Int) : Calls Try.prog 10 #[.int .i64 n] w fun x w' => x = .returned (fr (decide (n % 4 < 2)) (n % 2)) ∧ Below w.heap.size w w' := by
  have h := in_any w n
  rw [show n % 4 % 2 = n % 2 by omega] at h
  exact h
theorem Fp.w_all' {f : Fp} {k : Nat} (hk : k ∈ f.w) : k ∈ f.all := by
  simp only [Fp.w, Fp.all, List.mem_cons] at hk ⊢
  rcases hk with h | h
  · exact .inl h
  · exact .inr (.inr (.inr h))
def MS.act (m : MS) (a : Ac) : MS := ⟨m.ns, actP m.P a, wrap64 (m.c + costN a.k)⟩
/-- A memory of two and two pages. -/
structure M4 (m : MS) : Prop where
  ns : m.ns = 2
  len : m.P.length = 4
  c : wrap64 m.c = m.c
theorem M4.act {m : MS} (h : M4 m) (a : Ac) : M4 (m.act a) := ⟨h.ns, by show (actP m.P a).length = 4; rw [actP_len, h.len], wrap_wrap _⟩
theorem M4.at {m : MS} (h : M4 m) (n : Int) : m.at (decide (n % 4 < 2)) (n % 2) = some (n % 4).toNat := by have h' := at_in m n h.ns h.len; rwa [show n % 4 % 2 = n % 2 by omega] at h'
theorem in_off (n : Int) : In (n % 1024) := ⟨by omega, by omega⟩
theorem act1 {m : MS} (h : M4 m) (a : Ac) (hk : a.k = 1) : m.write (decide (a.f % 4 < 2)) (a.f % 2) (a.o % 1024) a.v = m.act a ∧ m.err (decide (a.f % 4 < 2)) (a.f % 2) (a.o % 1024) = 0 := by
  unfold MS.write MS.err
  rw [h.at]
  simp only [if_pos (in_off a.o)]
  refine ⟨?_, trivial⟩
  unfold MS.act actP costN MS.tick
  rw [if_pos hk, if_pos hk]
  rfl
theorem act2 {m : MS} (h : M4 m) (a : Ac) (hk : a.k = 2) : m.zero (decide (a.f % 4 < 2)) (a.f % 2) = m.act a ∧ m.perr (decide (a.f % 4 < 2)) (a.f % 2) = 0 := by
  unfold MS.zero MS.perr
  rw [h.at]
  refine ⟨?_, rfl⟩
  unfold MS.act actP costN MS.tick
  rw [if_neg (show ¬ a.k = 1 by omega), if_neg (show ¬ a.k = 1 by omega), if_pos hk, if_pos (.inl hk)]
theorem act3 {m : MS} (h : M4 m) (a : Ac) (hk : a.k = 3) : m.copy (decide (a.f % 4 < 2)) (a.f % 2) (decide (a.g % 4 < 2)) (a.g % 2) = m.act a ∧ m.cerr (decide (a.f % 4 < 2)) (a.f % 2) (decide (a.g % 4 < 2)) (a.g % 2) = 0 := by
  unfold MS.copy MS.cerr
  rw [h.at, h.at]
  refine ⟨?_, rfl⟩
  unfold MS.act actP costN MS.tick
  rw [if_neg (show ¬ a.k = 1 by omega), if_neg (show ¬ a.k = 1 by omega), if_neg (show ¬ a.k = 2 by omega), if_neg (show ¬ (a.k = 2 ∨ a.k = 4) by omega), if_pos hk, if_pos hk]
  rfl
theorem act4 {m : MS} (h : M4 m) (a : Ac) (hk : a.k = 4) : m.lay (decide (a.f % 4 < 2)) (a.f % 2) (rowL a.v) = m.act a ∧ m.lerr (decide (a.f % 4 < 2)) (a.f % 2) (rowL a.v) = 0 := by
  unfold MS.lay MS.lerr
  rw [h.at]
  simp only [if_pos (rowL_len a.v)]
  refine ⟨?_, trivial⟩
  unfold MS.act actP costN MS.tick
  rw [if_neg (show ¬ a.k = 1 by omega), if_neg (show ¬ a.k = 1 by omega), if_neg (show ¬ a.k = 2 by omega), if_neg (show ¬ a.k = 3 by omega), if_pos hk, if_pos (show a.k = 2 ∨ a.k = 4 from .inr hk)]
theorem act0 {m : MS} (h : M4 m) (a : Ac) (h1 : a.k ≠ 1) (h2 : a.k ≠ 2) (h3 : a.k ≠ 3) (h4 : a.k ≠ 4) : m.act a = m := by
  have hc := h.c
  unfold MS.act actP costN
  rw [if_neg h1, if_neg h1, if_neg h2, if_neg (show ¬ (a.k = 2 ∨ a.k = 4) by omega), if_neg h3, if_neg h3, if_neg h4, Int.add_zero, hc]
set_option maxRecDepth 40000 in
set_option maxHeartbeats 4000000 in
theorem acted_any (w : World) (f : Fp) (m : MS) (h : Mem w f m) (h4 : M4 m) (a : Ac) :
    Calls Try.prog 20 #[ptr f.gm, .agg a.cs.toArray] w fun x w' => x = .returned (.bool true) ∧ Mem w' f (m.act a) ∧ ButL f.w w w' := by
  have hX := h.on (below_one w (.cells a.cs.toArray 50))
  have hB := hid (below_one w (.cells a.cs.toArray 50))
  have C3 := hid (Cel.new w 50 a.cs)
  have NE : Hid (w.heap.size ∉ f.w) := hid (fun hm => by have := h.lt _ (Fp.w_all' hm); omega)
  have H := hid hX
  have H4 := hid h4
  have A1 := hid (act1 h4 a)
  have A2 := hid (act2 h4 a)
  have A3 := hid (act3 h4 a)
  have A4 := hid (act4 h4 a)
  have A0 := hid (act0 h4 a)
  clear h h4 hX
  obtain ⟨ak, af, ag, ao, av⟩ := a
  simp only [Ac.cs, ptr] at *
  have c0 := C3.out.cell 0
  have c1 := C3.out.cell 1
  have c2 := C3.out.cell 2
  have c3 := C3.out.cell 3
  have c4 := C3.out.cell 4
  simp only [List.getElem?_cons_zero, List.getElem?_cons_succ] at c0 c1 c2 c3 c4
  generalize hG : MS.act m _ = m' at *
  clear hG
  go_enter Try.func20, Try.ntmps20
  by_cases k1 : ak = 1
  · subst k1
    have HA := hid (A1.out rfl)
    clear A1 A2 A3 A4 A0
    go_wp2_with fail
    generalize hXX : w.alloc _ = X at *
    clear hXX c0 c1 c2 c3 c4
    generalize hgg : w.heap.size = g3 at *
    refine wp_region_held_drew (S := fun x => ButL f.w X x) (by kernel_rfl) (.of (Below.refl _ _).drew) (fun hHeld => ?_)
    refine wpAnyH_take (i := 0) (oi := { dst := some 10, op := Op.move (Operand.tmp 0), type := 25, pos := "outright.go:95", after := #[], guard := none }) (v := .pointer (some ⟨f.gm, 0, none⟩)) rfl (by kernel_rfl) (by kernel_rfl) (by kernel_rfl) (fun _ _ _ h => h) (Or.inl ⟨by rfl, by intro w hSw; go_simp⟩) (by assumption) ?_
    simp only [Act.put, List.setIfInBounds_toArray, List.set_cons_zero, List.set_cons_succ]
    refine wpAnyH_take (i := 1) (oi := { dst := some 11, op := Op.fieldAddr 50 (Operand.tmp 3) 1, type := 0, pos := "outright.go:95", after := #[], guard := none }) (v := .pointer (some ⟨g3, 1, none⟩)) rfl (by kernel_rfl) (by kernel_rfl) (by kernel_rfl) (fun _ _ _ h => h) (Or.inl ⟨by rfl, by intro w hSw; go_simp⟩) (by assumption) ?_
    simp only [Act.put, List.setIfInBounds_toArray, List.set_cons_zero, List.set_cons_succ]
    refine wpAnyH_take (i := 2) (oi := { dst := some 12, op := Op.load 3 (Operand.tmp 11), type := 3, pos := "outright.go:95", after := #[{ on := 1, ground := Ground.data }], guard := none }) (v := .int .i64 af) rfl (by kernel_rfl) (by kernel_rfl) (by kernel_rfl) (fun _ _ _ h => h) (Or.inl ⟨by rfl, by intro w hSw; have hcc := (C3.out.but hSw NE.out).cell 1; simp only [List.getElem?_cons_zero, List.getElem?_cons_succ] at hcc; go_simp⟩) (by assumption) ?_
    simp only [Act.put, List.setIfInBounds_toArray, List.set_cons_zero, List.set_cons_succ]
    refine wpAnyH_take (i := 4) (oi := { dst := some 14, op := Op.fieldAddr 50 (Operand.tmp 3) 3, type := 0, pos := "outright.go:95", after := #[], guard := none }) (v := .pointer (some ⟨g3, 3, none⟩)) rfl (by kernel_rfl) (by kernel_rfl) (by kernel_rfl) (fun _ _ _ h => h) (Or.inl ⟨by rfl, by intro w hSw; go_simp⟩) (by assumption) ?_
    simp only [Act.put, List.setIfInBounds_toArray, List.set_cons_zero, List.set_cons_succ]
    refine wpAnyH_take (i := 5) (oi := { dst := some 15, op := Op.load 3 (Operand.tmp 14), type := 3, pos := "outright.go:95", after := #[{ on := 4, ground := Ground.data }], guard := none }) (v := .int .i64 ao) rfl (by kernel_rfl) (by kernel_rfl) (by kernel_rfl) (fun _ _ _ h => h) (Or.inl ⟨by rfl, by intro w hSw; have hcc := (C3.out.but hSw NE.out).cell 3; simp only [List.getElem?_cons_zero, List.getElem?_cons_succ] at hcc; go_simp⟩) (by assumption) ?_
    simp only [Act.put, List.setIfInBounds_toArray, List.set_cons_zero, List.set_cons_succ]
    refine wpAnyH_take (i := 7) (oi := { dst := some 17, op := Op.fieldAddr 50 (Operand.tmp 3) 4, type := 0, pos := "outright.go:95", after := #[], guard := none }) (v := .pointer (some ⟨g3, 4, none⟩)) rfl (by kernel_rfl) (by kernel_rfl) (by kernel_rfl) (fun _ _ _ h => h) (Or.inl ⟨by rfl, by intro w hSw; go_simp⟩) (by assumption) ?_
    simp only [Act.put, List.setIfInBounds_toArray, List.set_cons_zero, List.set_cons_succ]
    refine wpAnyH_take (i := 8) (oi := { dst := some 18, op := Op.load 32 (Operand.tmp 17), type := 32, pos := "outright.go:95", after := #[{ on := 7, ground := Ground.data }], guard := none }) (v := .int .u32 av) rfl (by kernel_rfl) (by kernel_rfl) (by kernel_rfl) (fun _ _ _ h => h) (Or.inl ⟨by rfl, by intro w hSw; have hcc := (C3.out.but hSw NE.out).cell 4; simp only [List.getElem?_cons_zero, List.getElem?_cons_succ] at hcc; go_simp⟩) (by assumption) ?_
    simp only [Act.put, List.setIfInBounds_toArray, List.set_cons_zero, List.set_cons_succ]
    refine wpAnyH_ready (rs := [3]) (by kernel_rfl) (by simp) (AllReadyH.cons (o := { dst := some 13, op := Op.call { callee := Callee.value (Operand.func 10), args := #[Operand.tmp 12], argTypes := #[3] }, type := 23, pos := "outright.go:95", after := #[{ on := 2, ground := Ground.data }], guard := none }) rfl (fun KQ hK => ?_) AllReadyH.nil)
    go_simp
    refine (in_any2 _ af).mono ?_
    rintro x w1 ⟨rfl, hb1⟩
    have hB1 := below_on ((Below.refl _ _).drew) hb1
    simp only [fr]
    go_wp2_with fail
    refine hK.out _ _ (.of hB1) (fun hHeld => ?_)
    clear hK KQ
    try simp only [Act.put, List.setIfInBounds_toArray, List.set_cons_zero, List.set_cons_succ]
    refine wpAnyH_ready (rs := [6]) (by kernel_rfl) (by simp) (AllReadyH.cons (o := { dst := some 16, op := Op.call { callee := Callee.value (Operand.func 22), args := #[Operand.tmp 15], argTypes := #[3] }, type := 3, pos := "outright.go:95", after := #[{ on := 5, ground := Ground.data }, { on := 3, ground := Ground.chain }], guard := none }) rfl (fun KQ hK => ?_) AllReadyH.nil)
    go_simp
    refine (off_any _ ao).mono ?_
    rintro x wo ⟨rfl, rfl⟩
    go_wp2_with fail
    refine hK.out _ _ (.of hB1) (fun hHeld => ?_)
    clear hK KQ
    try simp only [Act.put, List.setIfInBounds_toArray, List.set_cons_zero, List.set_cons_succ]
    refine wpAnyH_ready (rs := [9]) (by kernel_rfl) (by simp) (AllReadyH.cons (o := { dst := some 19, op := Op.call { callee := Callee.value (Operand.func 9), args := #[Operand.tmp 10, Operand.tmp 13, Operand.tmp 16, Operand.tmp 18], argTypes := #[25, 23, 3, 32] }, type := 26, pos := "outright.go:95", after := #[{ on := 0, ground := Ground.data }, { on := 3, ground := Ground.data }, { on := 6, ground := Ground.data }, { on := 8, ground := Ground.data }, { on := 6, ground := Ground.chain }], guard := none }) rfl (fun KQ hK => ?_) AllReadyH.nil)
    go_simp
    refine (write_any _ f m (H.out.on hB1) _ _ _ _).mono ?_
    rintro x wz ⟨rfl, hm, hbb⟩
    have hm2 := HA.out.1 ▸ hm
    have hbz := (ButL.of hB1).trans hbb
    rw [HA.out.2]
    go_wp2_with fail
    refine hK.out _ _ hbz (fun hHeld => ?_)
    clear hK KQ
    try simp only [Act.put, List.setIfInBounds_toArray, List.set_cons_zero, List.set_cons_succ]
    refine wpAnyH_ready (rs := [10]) (by kernel_rfl) (by simp) (AllReadyH.cons (o := { dst := some 5, op := Op.assign (Operand.tmp 19), type := 26, pos := "outright.go:95", after := #[{ on := 9, ground := Ground.data }, { on := 9, ground := Ground.chain }, { on := 0, ground := Ground.phase }, { on := 1, ground := Ground.phase }, { on := 2, ground := Ground.phase }, { on := 3, ground := Ground.phase }, { on := 4, ground := Ground.phase }, { on := 5, ground := Ground.phase }, { on := 6, ground := Ground.phase }, { on := 7, ground := Ground.phase }, { on := 8, ground := Ground.phase }, { on := 9, ground := Ground.phase }], guard := none }) rfl (fun KQ hK => ?_) AllReadyH.nil)
    go_simp
    refine hK.out _ _ hbz (fun hHeld => ?_)
    clear hK KQ
    try simp only [Act.put, List.setIfInBounds_toArray, List.set_cons_zero, List.set_cons_succ]
    refine wpAnyH_done (by kernel_rfl) ?_ _
    clear hHeld
    have HM2 := hid hm2
    have HB2 := hid ((ButL.of (hgg ▸ hB.out)).trans hbz)
    clear hm hm2 hbb hbz
    go_wp2_with fail
    go_ret
    exact ⟨rfl, HM2.out, HB2.out⟩
  by_cases k2 : ak = 2
  · subst k2
    have HA := hid (A2.out rfl)
    clear A1 A2 A3 A4 A0
    go_wp2_with fail
    refine (in_any2 _ af).mono ?_
    rintro x w1 ⟨rfl, hb1⟩
    simp only [fr]
    have HB1 := hid (below_on hB.out hb1)
    have HM := hid (H.out.on hb1)
    clear hb1 c0 c1 c2 c3 c4
    go_wp2_with fail
    refine (zero_any _ f m HM.out _ _).mono ?_
    rintro x w2 ⟨rfl, hm, hbb⟩
    have hm2 := HA.out.1 ▸ hm
    have HM2 := hid hm2
    have HB2 := hid ((ButL.of HB1.out).trans hbb)
    rw [HA.out.2]
    clear hm hm2 hbb
    go_wp2_with fail
    go_ret
    exact ⟨rfl, HM2.out, HB2.out⟩
  by_cases k3 : ak = 3
  · subst k3
    have HA := hid (A3.out rfl)
    clear A1 A2 A3 A4 A0
    go_wp2_with fail
    generalize hXX : w.alloc _ = X at *
    clear hXX c0 c1 c2 c3 c4
    generalize hgg : w.heap.size = g3 at *
    refine wp_region_held_drew (S := fun x => ButL f.w X x) (by kernel_rfl) (.of (Below.refl _ _).drew) (fun hHeld => ?_)
    refine wpAnyH_take (i := 0) (oi := { dst := some 29, op := Op.move (Operand.tmp 0), type := 25, pos := "outright.go:99", after := #[], guard := none }) (v := .pointer (some ⟨f.gm, 0, none⟩)) rfl (by kernel_rfl) (by kernel_rfl) (by kernel_rfl) (fun _ _ _ h => h) (Or.inl ⟨by rfl, by intro w hSw; go_simp⟩) (by assumption) ?_
    simp only [Act.put, List.setIfInBounds_toArray, List.set_cons_zero, List.set_cons_succ]
    refine wpAnyH_take (i := 1) (oi := { dst := some 30, op := Op.fieldAddr 50 (Operand.tmp 3) 1, type := 0, pos := "outright.go:99", after := #[], guard := none }) (v := .pointer (some ⟨g3, 1, none⟩)) rfl (by kernel_rfl) (by kernel_rfl) (by kernel_rfl) (fun _ _ _ h => h) (Or.inl ⟨by rfl, by intro w hSw; go_simp⟩) (by assumption) ?_
    simp only [Act.put, List.setIfInBounds_toArray, List.set_cons_zero, List.set_cons_succ]
    refine wpAnyH_take (i := 2) (oi := { dst := some 31, op := Op.load 3 (Operand.tmp 30), type := 3, pos := "outright.go:99", after := #[{ on := 1, ground := Ground.data }], guard := none }) (v := .int .i64 af) rfl (by kernel_rfl) (by kernel_rfl) (by kernel_rfl) (fun _ _ _ h => h) (Or.inl ⟨by rfl, by intro w hSw; have hcc := (C3.out.but hSw NE.out).cell 1; simp only [List.getElem?_cons_zero, List.getElem?_cons_succ] at hcc; go_simp⟩) (by assumption) ?_
    simp only [Act.put, List.setIfInBounds_toArray, List.set_cons_zero, List.set_cons_succ]
    refine wpAnyH_take (i := 4) (oi := { dst := some 33, op := Op.fieldAddr 50 (Operand.tmp 3) 2, type := 0, pos := "outright.go:99", after := #[], guard := none }) (v := .pointer (some ⟨g3, 2, none⟩)) rfl (by kernel_rfl) (by kernel_rfl) (by kernel_rfl) (fun _ _ _ h => h) (Or.inl ⟨by rfl, by intro w hSw; go_simp⟩) (by assumption) ?_
    simp only [Act.put, List.setIfInBounds_toArray, List.set_cons_zero, List.set_cons_succ]
    refine wpAnyH_take (i := 5) (oi := { dst := some 34, op := Op.load 3 (Operand.tmp 33), type := 3, pos := "outright.go:99", after := #[{ on := 4, ground := Ground.data }], guard := none }) (v := .int .i64 ag) rfl (by kernel_rfl) (by kernel_rfl) (by kernel_rfl) (fun _ _ _ h => h) (Or.inl ⟨by rfl, by intro w hSw; have hcc := (C3.out.but hSw NE.out).cell 2; simp only [List.getElem?_cons_zero, List.getElem?_cons_succ] at hcc; go_simp⟩) (by assumption) ?_
    simp only [Act.put, List.setIfInBounds_toArray, List.set_cons_zero, List.set_cons_succ]
    refine wpAnyH_ready (rs := [3]) (by kernel_rfl) (by simp) (AllReadyH.cons (o := { dst := some 32, op := Op.call { callee := Callee.value (Operand.func 10), args := #[Operand.tmp 31], argTypes := #[3] }, type := 23, pos := "outright.go:99", after := #[{ on := 2, ground := Ground.data }], guard := none }) rfl (fun KQ hK => ?_) AllReadyH.nil)
    go_simp
    refine (in_any2 _ af).mono ?_
    rintro x w1 ⟨rfl, hb1⟩
    have hB1 := below_on ((Below.refl _ _).drew) hb1
    simp only [fr]
    go_wp2_with fail
    refine hK.out _ _ (.of hB1) (fun hHeld => ?_)
    clear hK KQ
    try simp only [Act.put, List.setIfInBounds_toArray, List.set_cons_zero, List.set_cons_succ]
    refine wpAnyH_ready (rs := [6]) (by kernel_rfl) (by simp) (AllReadyH.cons (o := { dst := some 35, op := Op.call { callee := Callee.value (Operand.func 10), args := #[Operand.tmp 34], argTypes := #[3] }, type := 23, pos := "outright.go:99", after := #[{ on := 5, ground := Ground.data }, { on := 3, ground := Ground.chain }], guard := none }) rfl (fun KQ hK => ?_) AllReadyH.nil)
    go_simp
    refine (in_any2 _ ag).mono ?_
    rintro x w2 ⟨rfl, hb2⟩
    have hB2 := below_on hB1 hb2
    simp only [fr]
    go_wp2_with fail
    refine hK.out _ _ (.of hB2) (fun hHeld => ?_)
    clear hK KQ
    try simp only [Act.put, List.setIfInBounds_toArray, List.set_cons_zero, List.set_cons_succ]
    refine wpAnyH_ready (rs := [7]) (by kernel_rfl) (by simp) (AllReadyH.cons (o := { dst := some 36, op := Op.call { callee := Callee.value (Operand.func 14), args := #[Operand.tmp 29, Operand.tmp 32, Operand.tmp 35], argTypes := #[25, 23, 23] }, type := 26, pos := "outright.go:99", after := #[{ on := 0, ground := Ground.data }, { on := 3, ground := Ground.data }, { on := 6, ground := Ground.data }, { on := 6, ground := Ground.chain }], guard := none }) rfl (fun KQ hK => ?_) AllReadyH.nil)
    go_simp
    refine (copy_any _ f m (H.out.on hB2) _ _ _ _).mono ?_
    rintro x wz ⟨rfl, hm, hbb⟩
    have hm2 := HA.out.1 ▸ hm
    have hbz := (ButL.of hB2).trans hbb
    rw [HA.out.2]
    go_wp2_with fail
    refine hK.out _ _ hbz (fun hHeld => ?_)
    clear hK KQ
    try simp only [Act.put, List.setIfInBounds_toArray, List.set_cons_zero, List.set_cons_succ]
    refine wpAnyH_ready (rs := [8]) (by kernel_rfl) (by simp) (AllReadyH.cons (o := { dst := some 5, op := Op.assign (Operand.tmp 36), type := 26, pos := "outright.go:99", after := #[{ on := 7, ground := Ground.data }, { on := 7, ground := Ground.chain }, { on := 0, ground := Ground.phase }, { on := 1, ground := Ground.phase }, { on := 2, ground := Ground.phase }, { on := 3, ground := Ground.phase }, { on := 4, ground := Ground.phase }, { on := 5, ground := Ground.phase }, { on := 6, ground := Ground.phase }, { on := 7, ground := Ground.phase }], guard := none }) rfl (fun KQ hK => ?_) AllReadyH.nil)
    go_simp
    refine hK.out _ _ hbz (fun hHeld => ?_)
    clear hK KQ
    try simp only [Act.put, List.setIfInBounds_toArray, List.set_cons_zero, List.set_cons_succ]
    refine wpAnyH_done (by kernel_rfl) ?_ _
    clear hHeld
    have HM2 := hid hm2
    have HB2 := hid ((ButL.of (hgg ▸ hB.out)).trans hbz)
    clear hm hm2 hbb hbz
    go_wp2_with fail
    go_ret
    exact ⟨rfl, HM2.out, HB2.out⟩
  by_cases k4 : ak = 4
  · subst k4
    have HA := hid (A4.out rfl)
    clear A1 A2 A3 A4 A0
    go_wp2_with fail
    generalize hXX : w.alloc _ = X at *
    clear hXX c0 c1 c2 c3 c4
    generalize hgg : w.heap.size = g3 at *
    refine wp_region_held_drew (S := fun x => ButL f.w X x) (by kernel_rfl) (.of (Below.refl _ _).drew) (fun hHeld => ?_)
    refine wpAnyH_take (i := 0) (oi := { dst := some 39, op := Op.move (Operand.tmp 0), type := 25, pos := "outright.go:101", after := #[], guard := none }) (v := .pointer (some ⟨f.gm, 0, none⟩)) rfl (by kernel_rfl) (by kernel_rfl) (by kernel_rfl) (fun _ _ _ h => h) (Or.inl ⟨by rfl, by intro w hSw; go_simp⟩) (by assumption) ?_
    simp only [Act.put, List.setIfInBounds_toArray, List.set_cons_zero, List.set_cons_succ]
    refine wpAnyH_take (i := 1) (oi := { dst := some 40, op := Op.fieldAddr 50 (Operand.tmp 3) 1, type := 0, pos := "outright.go:101", after := #[], guard := none }) (v := .pointer (some ⟨g3, 1, none⟩)) rfl (by kernel_rfl) (by kernel_rfl) (by kernel_rfl) (fun _ _ _ h => h) (Or.inl ⟨by rfl, by intro w hSw; go_simp⟩) (by assumption) ?_
    simp only [Act.put, List.setIfInBounds_toArray, List.set_cons_zero, List.set_cons_succ]
    refine wpAnyH_take (i := 2) (oi := { dst := some 41, op := Op.load 3 (Operand.tmp 40), type := 3, pos := "outright.go:101", after := #[{ on := 1, ground := Ground.data }], guard := none }) (v := .int .i64 af) rfl (by kernel_rfl) (by kernel_rfl) (by kernel_rfl) (fun _ _ _ h => h) (Or.inl ⟨by rfl, by intro w hSw; have hcc := (C3.out.but hSw NE.out).cell 1; simp only [List.getElem?_cons_zero, List.getElem?_cons_succ] at hcc; go_simp⟩) (by assumption) ?_
    simp only [Act.put, List.setIfInBounds_toArray, List.set_cons_zero, List.set_cons_succ]
    refine wpAnyH_take (i := 4) (oi := { dst := some 43, op := Op.fieldAddr 50 (Operand.tmp 3) 4, type := 0, pos := "outright.go:101", after := #[], guard := none }) (v := .pointer (some ⟨g3, 4, none⟩)) rfl (by kernel_rfl) (by kernel_rfl) (by kernel_rfl) (fun _ _ _ h => h) (Or.inl ⟨by rfl, by intro w hSw; go_simp⟩) (by assumption) ?_
    simp only [Act.put, List.setIfInBounds_toArray, List.set_cons_zero, List.set_cons_succ]
    refine wpAnyH_take (i := 5) (oi := { dst := some 44, op := Op.load 32 (Operand.tmp 43), type := 32, pos := "outright.go:101", after := #[{ on := 4, ground := Ground.data }], guard := none }) (v := .int .u32 av) rfl (by kernel_rfl) (by kernel_rfl) (by kernel_rfl) (fun _ _ _ h => h) (Or.inl ⟨by rfl, by intro w hSw; have hcc := (C3.out.but hSw NE.out).cell 4; simp only [List.getElem?_cons_zero, List.getElem?_cons_succ] at hcc; go_simp⟩) (by assumption) ?_
    simp only [Act.put, List.setIfInBounds_toArray, List.set_cons_zero, List.set_cons_succ]
    refine wpAnyH_ready (rs := [3]) (by kernel_rfl) (by simp) (AllReadyH.cons (o := { dst := some 42, op := Op.call { callee := Callee.value (Operand.func 10), args := #[Operand.tmp 41], argTypes := #[3] }, type := 23, pos := "outright.go:101", after := #[{ on := 2, ground := Ground.data }], guard := none }) rfl (fun KQ hK => ?_) AllReadyH.nil)
    go_simp
    refine (in_any2 _ af).mono ?_
    rintro x w1 ⟨rfl, hb1⟩
    have hB1 := below_on ((Below.refl _ _).drew) hb1
    simp only [fr]
    go_wp2_with fail
    refine hK.out _ _ (.of hB1) (fun hHeld => ?_)
    clear hK KQ
    try simp only [Act.put, List.setIfInBounds_toArray, List.set_cons_zero, List.set_cons_succ]
    refine wpAnyH_ready (rs := [6]) (by kernel_rfl) (by simp) (AllReadyH.cons (o := { dst := some 45, op := Op.call { callee := Callee.value (Operand.func 36), args := #[Operand.tmp 44], argTypes := #[32] }, type := 24, pos := "outright.go:101", after := #[{ on := 5, ground := Ground.data }, { on := 3, ground := Ground.chain }], guard := none }) rfl (fun KQ hK => ?_) AllReadyH.nil)
    go_simp
    refine (row_any _ av).mono ?_
    rintro x wr ⟨y, rfl, hl⟩
    have hBr := below_on hB1 hl.below
    go_wp2_with fail
    refine hK.out _ _ (.of hBr) (fun hHeld => ?_)
    clear hK KQ
    try simp only [Act.put, List.setIfInBounds_toArray, List.set_cons_zero, List.set_cons_succ]
    refine wpAnyH_ready (rs := [7]) (by kernel_rfl) (by simp) (AllReadyH.cons (o := { dst := some 46, op := Op.call { callee := Callee.value (Operand.func 16), args := #[Operand.tmp 39, Operand.tmp 42, Operand.tmp 45], argTypes := #[25, 23, 24] }, type := 26, pos := "outright.go:101", after := #[{ on := 0, ground := Ground.data }, { on := 3, ground := Ground.data }, { on := 6, ground := Ground.data }, { on := 6, ground := Ground.chain }], guard := none }) rfl (fun KQ hK => ?_) AllReadyH.nil)
    go_simp
    obtain ⟨ro, rc, rfl, hrr⟩ := hl.form
    refine (lay_any _ f m (H.out.on hBr) _ _ (rowL av) ro rc (by rw [rowL_len]; decide) (fun _ hl4 => by obtain ⟨g, rfl, hg1, hg2, _, hcc⟩ := hrr (by omega); exact ⟨g, 0, rfl, hg2, fun hm => by have := (H.out.on hB1).lt g (Fp.w_all' hm); omega, fun j u hu => by rw [Nat.zero_add]; exact hcc j u hu⟩)).mono ?_
    rintro x wz ⟨rfl, hm, hbb⟩
    have hm2 := HA.out.1 ▸ hm
    have hbz := (ButL.of hBr).trans hbb
    rw [HA.out.2]
    go_wp2_with fail
    refine hK.out _ _ hbz (fun hHeld => ?_)
    clear hK KQ
    try simp only [Act.put, List.setIfInBounds_toArray, List.set_cons_zero, List.set_cons_succ]
    refine wpAnyH_ready (rs := [8]) (by kernel_rfl) (by simp) (AllReadyH.cons (o := { dst := some 5, op := Op.assign (Operand.tmp 46), type := 26, pos := "outright.go:101", after := #[{ on := 7, ground := Ground.data }, { on := 7, ground := Ground.chain }, { on := 0, ground := Ground.phase }, { on := 1, ground := Ground.phase }, { on := 2, ground := Ground.phase }, { on := 3, ground := Ground.phase }, { on := 4, ground := Ground.phase }, { on := 5, ground := Ground.phase }, { on := 6, ground := Ground.phase }, { on := 7, ground := Ground.phase }], guard := none }) rfl (fun KQ hK => ?_) AllReadyH.nil)
    go_simp
    refine hK.out _ _ hbz (fun hHeld => ?_)
    clear hK KQ
    try simp only [Act.put, List.setIfInBounds_toArray, List.set_cons_zero, List.set_cons_succ]
    refine wpAnyH_done (by kernel_rfl) ?_ _
    clear hHeld
    have HM2 := hid hm2
    have HB2 := hid ((ButL.of (hgg ▸ hB.out)).trans hbz)
    clear hm hm2 hbb hbz
    go_wp2_with fail
    go_ret
    exact ⟨rfl, HM2.out, HB2.out⟩
  have HA := hid (A0.out k1 k2 k3 k4)
  clear A1 A2 A3 A4 A0
  go_wp2_with fail
  go_ret
  exact ⟨rfl, HA.out ▸ H.out, .of hB.out⟩
end Go.Proofs.Ytnmdhnbgikbpoaa
