/- The law's num 10, size 23, made 6. -/
import Derived.Test.YteldpapacdbbiaaGreatDoorC7C8
import Derived.Test.YteldpapacdbbiaaGreatDoorM4M5M6
import Derived.Test.YteldpapacdbbiaaGreatDoorB1LpP6a
namespace Go.Proofs.YteldpapacdbbiaaGreatDoor
open Go.RowKit
set_option maxHeartbeats 8000000
set_option maxRecDepth 100000
attribute [-simp] Tryz.isAgg26 Tryz.sizeOf26 Tryz.isAgg24 Tryz.isAgg28 Tryz.sizeOf28
theorem num_any (W : World) (x : Int) : Calls Tryz.prog 15 #[.int .i64 x] W fun e W' => e = .returned (.int .i64 x) ∧ W = W' := by
  go_enter Tryz.func15, Tryz.ntmps15
  go_wp2
  go_ret
  exact ⟨rfl, rfl⟩
def sz (x : Int) : Nat := (x % 8 + 1).toNat
theorem sz_range (x : Int) : 1 ≤ sz x ∧ sz x ≤ 8 := by unfold sz; omega
theorem size_any (W : World) (x : Int) : Calls Tryz.prog 18 #[.int .i64 x] W fun e W' => e = .returned (.int .i64 (sz x : Int)) ∧ W = W' := by
  have h : Hid (x.tmod 8 % 8 + 1 = (sz x : Int)) := by
    show _ = _
    unfold sz
    have := Int.tmod_eq_emod (a := x) (b := 8)
    split at this <;> omega
  have hb := Int.tmod_eq_emod (a := x) (b := 8)
  have h0 : -8 < x.tmod 8 := by split at hb <;> omega
  have h1 : x.tmod 8 < 8 := by split at hb <;> omega
  have h2 : 0 ≤ (x.tmod 8 + 8).tmod 8 := Int.tmod_nonneg _ (by omega)
  have h3 : (x.tmod 8 + 8).tmod 8 < 8 := Int.tmod_lt_of_pos _ (by decide)
  clear hb
  go_enter Tryz.func18, Tryz.ntmps18
  go_wp2
  all_goals go_ret
  all_goals exact ⟨ret_int h.out, rfl⟩
/-- Words that are to be laid. -/
structure Ly where
  s : Bool
  p : Int
  o : Int
  ao : Option Addr
  n : Nat
  cp : Nat
  w : Nat → Int
instance : Inhabited Ly := ⟨⟨false, 0, 0, none, 0, 0, fun _ => 0⟩⟩
structure LyOk (W : World) (y : Ly) : Prop where
  c : 0 < y.n → ∃ b off, y.ao = some ⟨b, off, none⟩ ∧ b < W.heap.size ∧ ∀ j, j < y.n → W.cell? ⟨b, off + j, none⟩ = some (.int .u32 (y.w j))
  r : ∀ j, j < y.n → 0 ≤ y.w j ∧ y.w j < 4294967296
theorem LyOk.on {W w : World} {y : Ly} (h : LyOk W y) (hb : Below W.heap.size W w) : LyOk w y :=
  ⟨fun hn => by
    obtain ⟨b, off, h1, h2, h3⟩ := h.c hn
    exact ⟨b, off, h1, Nat.lt_of_lt_of_le h2 hb.size, fun j hj => (hb.cell (p := ⟨b, off + j, none⟩) h2).trans (h3 j hj)⟩, h.r⟩
structure LysAt (W : World) (ao : Option Addr) (n b off : Nat) (L : Nat → Ly) : Prop where
  ao : 0 < n → ao = some ⟨b, off, none⟩ ∧ b < W.heap.size
  c : ∀ j, j < n → W.cell? ⟨b, off + j * 4, none⟩ = some (.bool (L j).s) ∧ W.cell? ⟨b, off + j * 4 + 1, none⟩ = some (.int .i64 (L j).p) ∧ W.cell? ⟨b, off + j * 4 + 2, none⟩ = some (.int .i64 (L j).o) ∧ W.cell? ⟨b, off + j * 4 + 3, none⟩ = some (.slice (L j).ao (L j).n (L j).cp)
  ok : ∀ j, j < n → LyOk W (L j)
theorem LysAt.on {W w : World} {ao : Option Addr} {n b off : Nat} {L : Nat → Ly} (h : LysAt W ao n b off L) (hb : Below W.heap.size W w) : LysAt w ao n b off L :=
  ⟨fun hn => ⟨(h.ao hn).1, Nat.lt_of_lt_of_le (h.ao hn).2 hb.size⟩, fun j hj => by
    have hlt := (h.ao (by omega)).2
    obtain ⟨h1, h2, h3, h4⟩ := h.c j hj
    exact ⟨(hb.cell (p := ⟨b, off + j * 4, none⟩) hlt).trans h1, (hb.cell (p := ⟨b, off + j * 4 + 1, none⟩) hlt).trans h2, (hb.cell (p := ⟨b, off + j * 4 + 2, none⟩) hlt).trans h3, (hb.cell (p := ⟨b, off + j * 4 + 3, none⟩) hlt).trans h4⟩, fun j hj => (h.ok j hj).on hb⟩
def MS.lay1 (m : MS) (y : Ly) : Nat → MS
  | 0 => m
  | j + 1 => if 0 ≤ y.o ∧ y.o < 1024 then (m.lay1 y j).write y.s y.p (y.o + j) (y.w j) else m.lay1 y j
def MS.lays (m : MS) (L : Nat → Ly) : Nat → MS
  | 0 => m
  | i + 1 => (m.lays L i).lay1 (L i) (min (L i).n 1024)
/-- A machine. -/
structure Mq where
  s : Int
  n : Int
  ao : Option Addr
  ln : Nat
  cp : Nat
  l : Int
  f : F
def Mq.cs (q : Mq) : List Value := [.int .i64 q.s, .int .i64 q.n, .slice q.ao q.ln q.cp, .int .i64 q.l] ++ q.f.cs
def Mq.v (q : Mq) : Value := .agg q.cs.toArray
theorem Mq.len (q : Mq) : q.cs.length = 23 := by simp [Mq.cs, F.len]
structure Mq.Ok (W : World) (q : Mq) (b off : Nat) (L : Nat → Ly) : Prop where
  at_ : LysAt W q.ao q.ln b off L
  n : (q.ln : Int) ≤ 140737488355328
  f : q.f.U
theorem Mq.Ok.on {W w : World} {q : Mq} {b off : Nat} {L : Nat → Ly} (h : q.Ok W b off L) (hb : Below W.heap.size W w) : q.Ok w b off L := ⟨h.at_.on hb, h.n, h.f⟩
def Mq.m (q : Mq) (L : Nat → Ly) : MS := (MS.new (sz q.s) (sz q.n)).lays L q.ln
structure MB (W x : World) (g : Nat) (q : Mq) : Prop where
  c : Cel x g 28 q.cs
  below : Below W.heap.size W x
theorem MB.on {W x x' : World} {g : Nat} {q : Mq} (h : MB W x g q) (hb : Below x.heap.size x x') : MB W x' g q := ⟨h.c.on hb, below_on h.below hb⟩
theorem MB.c0 {W x : World} {g : Nat} {q : Mq} (h : MB W x g q) : x.cell? ⟨g, 0, none⟩ = some (.int .i64 q.s) := h.c.cell 0
theorem MB.c1 {W x : World} {g : Nat} {q : Mq} (h : MB W x g q) : x.cell? ⟨g, 1, none⟩ = some (.int .i64 q.n) := h.c.cell 1
theorem MB.c2 {W x : World} {g : Nat} {q : Mq} (h : MB W x g q) : x.cell? ⟨g, 2, none⟩ = some (.slice q.ao q.ln q.cp) := h.c.cell 2
theorem MB.c3 {W x : World} {g : Nat} {q : Mq} (h : MB W x g q) : x.cell? ⟨g, 3, none⟩ = some (.int .i64 q.l) := h.c.cell 3
theorem made_any (W : World) (q : Mq) (bk off : Nat) (L : Nat → Ly) (hq : q.Ok W bk off L) :
    Calls Tryz.prog 4 #[q.v] W fun e W' => ∃ f, e = .returned (ptr f.gm) ∧ NewMem W W' f (q.m L) := by
  have HC : Hid (MB W (W.alloc (.cells q.cs.toArray 28)) W.heap.size q) := hid ⟨Cel.new W 28 _, below_one _ _⟩
  have HX : Hid (W.heap.size < (W.alloc (.cells q.cs.toArray 28)).heap.size) := hid (by simp)
  have H1 := hid (fun W => size_any W q.s)
  have H2 := hid (fun W => size_any W q.n)
  have e1 := sz_range q.s
  have e2 := sz_range q.n
  have H3 := hid (fun W => new_any W (sz q.s) (sz q.n) e1.1 (by omega) e2.1 (by omega))
  have HQ := hid hq.at_
  have hn := hq.n
  clear hq e1 e2
  unfold ptr Mq.m Mq.v at *
  generalize MS.new (sz q.s) (sz q.n) = m at *
  generalize sz q.s = pa at *
  generalize sz q.n = pb at *
  generalize hcs : q.cs.toArray = C at *
  clear hcs
  go_enter Tryz.func4, Tryz.ntmps4
  go_upto_region 1 with fail
  generalize hX : W.alloc _ = X at *
  clear hX
  generalize hg : W.heap.size = g0 at *
  have HD := hid (HC.out.on (Below.refl _ _).drew)
  refine wp_region_held_drew (S := fun x => MB W x g0 q) (by kernel_rfl) HD.out (fun hHeld => ?_)
  refine wpAnyH_take (i := 0) (oi := { dst := some 9, op := Op.fieldAddr 28 (Operand.tmp 1) 0, type := 0, pos := "law.go:50", after := #[], guard := none }) (v := .pointer (some ⟨g0, 0, none⟩)) rfl (by kernel_rfl) (by kernel_rfl) (by kernel_rfl) (fun _ _ _ h => h) (Or.inl ⟨by rfl, by intro w hSw; go_simp⟩) (by assumption) ?_
  simp only [Act.put, List.setIfInBounds_toArray, List.set_cons_zero, List.set_cons_succ]
  refine wpAnyH_take (i := 1) (oi := { dst := some 10, op := Op.load 3 (Operand.tmp 9), type := 3, pos := "law.go:50", after := #[{ on := 0, ground := Ground.data }], guard := none }) (v := .int .i64 q.s) rfl (by kernel_rfl) (by kernel_rfl) (by kernel_rfl) (fun _ _ _ h => h) (Or.inl ⟨by rfl, by intro w hSw; have hq := hSw.c0; go_simp⟩) (by assumption) ?_
  simp only [Act.put, List.setIfInBounds_toArray, List.set_cons_zero, List.set_cons_succ]
  refine wpAnyH_take (i := 3) (oi := { dst := some 12, op := Op.fieldAddr 28 (Operand.tmp 1) 1, type := 0, pos := "law.go:50", after := #[], guard := none }) (v := .pointer (some ⟨g0, 1, none⟩)) rfl (by kernel_rfl) (by kernel_rfl) (by kernel_rfl) (fun _ _ _ h => h) (Or.inl ⟨by rfl, by intro w hSw; go_simp⟩) (by assumption) ?_
  simp only [Act.put, List.setIfInBounds_toArray, List.set_cons_zero, List.set_cons_succ]
  refine wpAnyH_take (i := 4) (oi := { dst := some 13, op := Op.load 3 (Operand.tmp 12), type := 3, pos := "law.go:50", after := #[{ on := 3, ground := Ground.data }], guard := none }) (v := .int .i64 q.n) rfl (by kernel_rfl) (by kernel_rfl) (by kernel_rfl) (fun _ _ _ h => h) (Or.inl ⟨by rfl, by intro w hSw; have hq := hSw.c1; go_simp⟩) (by assumption) ?_
  simp only [Act.put, List.setIfInBounds_toArray, List.set_cons_zero, List.set_cons_succ]
  refine wpAnyH_ready (rs := [2]) (by kernel_rfl) (by simp) (AllReadyH.cons (o := { dst := some 11, op := Op.call { callee := Callee.value (Operand.func 18), args := #[Operand.tmp 10], argTypes := #[3] }, type := 3, pos := "law.go:50", after := #[{ on := 1, ground := Ground.data }], guard := none }) rfl (fun KQ hK => ?_) AllReadyH.nil)
  go_simp
  refine (H1.out _).mono ?_
  rintro e wx ⟨rfl, rfl⟩
  go_wp2_with fail
  refine hK.out _ _ HD.out (fun hHeld => ?_)
  clear hK KQ
  try simp only [Act.put, List.setIfInBounds_toArray, List.set_cons_zero, List.set_cons_succ]
  refine wpAnyH_ready (rs := [5]) (by kernel_rfl) (by simp) (AllReadyH.cons (o := { dst := some 14, op := Op.call { callee := Callee.value (Operand.func 18), args := #[Operand.tmp 13], argTypes := #[3] }, type := 3, pos := "law.go:50", after := #[{ on := 4, ground := Ground.data }, { on := 2, ground := Ground.chain }], guard := none }) rfl (fun KQ hK => ?_) AllReadyH.nil)
  go_simp
  refine (H2.out _).mono ?_
  rintro e wx ⟨rfl, rfl⟩
  go_wp2_with fail
  refine hK.out _ _ HD.out (fun hHeld => ?_)
  clear hK KQ
  try simp only [Act.put, List.setIfInBounds_toArray, List.set_cons_zero, List.set_cons_succ]
  refine wpAnyH_ready (rs := [6]) (by kernel_rfl) (by simp) (AllReadyH.cons (o := { dst := some 15, op := Op.call { callee := Callee.value (Operand.func 17), args := #[Operand.tmp 11, Operand.tmp 14], argTypes := #[3, 3] }, type := 55, pos := "law.go:50", after := #[{ on := 2, ground := Ground.data }, { on := 5, ground := Ground.data }, { on := 5, ground := Ground.chain }], guard := none }) rfl (fun KQ hK => ?_) AllReadyH.nil)
  go_simp
  refine (H3.out _).mono ?_
  rintro e w1 ⟨f, rfl, hm1⟩
  have HM1 := hid hm1
  have HE := hid (HD.out.on hm1.below)
  clear hm1
  go_wp2_with fail
  refine hK.out _ _ HE.out (fun hHeld => ?_)
  clear hK KQ
  try simp only [Act.put, List.setIfInBounds_toArray, List.set_cons_zero, List.set_cons_succ]
  refine wpAnyH_take (i := 7) (oi := { dst := some 8, op := Op.move (Operand.tmp 15), type := 55, pos := "law.go:50", after := #[{ on := 6, ground := Ground.data }], guard := none }) (v := .tuple #[.pointer (some ⟨f.gm, 0, none⟩), .int .i64 0]) rfl (by kernel_rfl) (by kernel_rfl) (by kernel_rfl) (fun _ _ _ h => h) (Or.inl ⟨by rfl, by intro w hSw; go_simp⟩) (by assumption) ?_
  simp only [Act.put, List.setIfInBounds_toArray, List.set_cons_zero, List.set_cons_succ]
  refine wpAnyH_take (i := 8) (oi := { dst := some 16, op := Op.extract (Operand.tmp 8) 0, type := 29, pos := "law.go:50", after := #[{ on := 7, ground := Ground.data }], guard := none }) (v := .pointer (some ⟨f.gm, 0, none⟩)) rfl (by kernel_rfl) (by kernel_rfl) (by kernel_rfl) (fun _ _ _ h => h) (Or.inl ⟨by rfl, by intro w hSw; go_simp⟩) (by assumption) ?_
  simp only [Act.put, List.setIfInBounds_toArray, List.set_cons_zero, List.set_cons_succ]
  refine wpAnyH_take (i := 9) (oi := { dst := some 17, op := Op.extract (Operand.tmp 8) 1, type := 47, pos := "law.go:50", after := #[{ on := 7, ground := Ground.data }, { on := 10, ground := Ground.gcOnly Departure.lateStores }], guard := none }) (v := .int .i64 0) rfl (by kernel_rfl) (by kernel_rfl) (by kernel_rfl) (fun _ _ _ h => h) (Or.inl ⟨by rfl, by intro w hSw; go_simp⟩) (by assumption) ?_
  simp only [Act.put, List.setIfInBounds_toArray, List.set_cons_zero, List.set_cons_succ]
  refine wpAnyH_ready (rs := [10]) (by kernel_rfl) (by simp) (AllReadyH.cons (o := { dst := some 3, op := Op.assign (Operand.tmp 16), type := 29, pos := "law.go:50", after := #[{ on := 8, ground := Ground.data }, { on := 6, ground := Ground.chain }, { on := 0, ground := Ground.phase }, { on := 1, ground := Ground.phase }, { on := 2, ground := Ground.phase }, { on := 3, ground := Ground.phase }, { on := 4, ground := Ground.phase }, { on := 5, ground := Ground.phase }, { on := 6, ground := Ground.phase }, { on := 7, ground := Ground.phase }, { on := 8, ground := Ground.phase }, { on := 9, ground := Ground.textOnly Departure.lateStores }], guard := none }) rfl (fun KQ hK => ?_) AllReadyH.nil)
  go_simp
  refine hK.out _ _ HE.out (fun hHeld => ?_)
  clear hK KQ
  try simp only [Act.put, List.setIfInBounds_toArray, List.set_cons_zero, List.set_cons_succ]
  refine wpAnyH_ready (rs := [11]) (by kernel_rfl) (by simp) (AllReadyH.cons (o := { dst := some 4, op := Op.assign (Operand.tmp 17), type := 47, pos := "law.go:50", after := #[{ on := 9, ground := Ground.data }, { on := 10, ground := Ground.chain }, { on := 0, ground := Ground.phase }, { on := 1, ground := Ground.phase }, { on := 2, ground := Ground.phase }, { on := 3, ground := Ground.phase }, { on := 4, ground := Ground.phase }, { on := 5, ground := Ground.phase }, { on := 6, ground := Ground.phase }, { on := 7, ground := Ground.phase }, { on := 8, ground := Ground.phase }, { on := 9, ground := Ground.phase }, { on := 10, ground := Ground.phase }], guard := none }) rfl (fun KQ hK => ?_) AllReadyH.nil)
  go_simp
  refine hK.out _ _ HE.out (fun hHeld => ?_)
  clear hK KQ
  try simp only [Act.put, List.setIfInBounds_toArray, List.set_cons_zero, List.set_cons_succ]
  refine wpAnyH_done (by kernel_rfl) ?_ _
  subst hg
  have HB1 := hid HE.out.below
  go_wp2_with fail
  refine (num_any _ _).mono ?_
  rintro e wx ⟨rfl, rfl⟩
  go_wp2_with fail
  go_loopw [5] (fun i wr => ∃ j : Nat, j ≤ q.ln ∧ i = .int .i64 (j : Int) ∧ Hid (NewMem X.drew wr f (m.lays L j))) (fun i _ => q.ln - (intOf i).toNat)
  case atStart => exact ⟨0, Nat.zero_le _, rfl, HM1⟩
  case round =>
    obtain ⟨j, hj, rfl, HN⟩ := hrel
    have HMB := hid (HD.out.on HN.out.below)
    have c2 := HMB.out.c2
    by_cases hlt : j < q.ln
    · have q1 : (j : Int) < (q.ln : Int) := by omega
      obtain ⟨hao, hb0⟩ := HQ.out.ao (by omega)
      rw [hao] at c2
      clear hao
      have HKx := hid (HQ.out.on (below_on HD.out.below HN.out.below))
      obtain ⟨k0, k1, k2, k3⟩ := HKx.out.c j hlt
      have HLy := hid (HQ.out.ok j hlt)
      have HNX : Hid (m.lays L (j + 1) = (m.lays L j).lay1 (L j) (min (L j).n 1024)) := hid rfl
      clear HKx
      generalize m.lays L j = mj at *
      generalize L j = y at *
      obtain ⟨ys, yp, yo, yao, yn, ycp, yw⟩ := y
      simp only at k0 k1 k2 k3 HNX
      have HA := hid (below_one wr (.cells #[.bool ys, .int .i64 yp, .int .i64 yo, .slice yao yn ycp] 62))
      have HC6 := hid (Cel.new wr 62 [.bool ys, .int .i64 yp, .int .i64 yo, .slice yao yn ycp])
      have HN2 := hid (HN.out.on HA.out)
      have HL6 : Hid (∀ k ∈ f.w, k < wr.heap.size) := hid (fun k hk => HN.out.mem.lt k (by simp only [Fp.w, Fp.all, List.mem_cons] at hk ⊢; rcases hk with hk | hk <;> simp [hk]))
      have HB6 : Hid (Below W.heap.size W wr) := hid (below_on HD.out.below HN.out.below)
      clear HA HN HMB
      go_upto_region 8 with fail
      generalize hX6 : wr.alloc _ = x6 at *
      clear hX6 c2 k0 k1 k2 k3
      generalize wr.heap.size = g6 at *
      go_wp2_with fail
      go_loopw [7] (fun i w7 => ∃ t : Nat, t ≤ min yn 1024 ∧ i = .int .i64 (t : Int) ∧ Hid (NewMem X.drew w7 f (mj.lay1 ⟨ys, yp, yo, yao, yn, ycp, yw⟩ t) ∧ Cel w7 g6 62 [.bool ys, .int .i64 yp, .int .i64 yo, .slice yao yn ycp])) (fun i _ => min yn 1024 - (intOf i).toNat)
      case atStart => exact ⟨0, Nat.zero_le _, rfl, hid ⟨HN2.out, HC6.out⟩⟩
      case round =>
        obtain ⟨t, ht, rfl, HT⟩ := hrel
        have d2 := HT.out.2.cell 2
        have d3 := HT.out.2.cell 3
        simp only [List.getElem?_cons_zero, List.getElem?_cons_succ] at d2 d3
        by_cases htl : t < min yn 1024
        · have t1 : (t : Int) < (yn : Int) := by omega
          have t2 : (t : Int) < 1024 := by omega
          have HT1 : Hid (t < min yn 1024) := hid htl
          by_cases ho : 0 ≤ yo ∧ yo < 1024
          · have HO := hid ho
            obtain ⟨o0, o1⟩ := ho
            go_upto_region 12 with fail
            clear d2 d3
            obtain ⟨b, of, hao, hlt2, hw⟩ := HLy.out.c (by show 0 < yn; omega)
            simp only at hao hw
            subst hao
            have HW0 := hid (hw t (by omega))
            have HW1 : Hid (∀ x, Below W.heap.size W x → x.cell? ⟨b, of + t, none⟩ = some (.int .u32 (yw t))) := hid (fun x hb => (hb.cell (p := ⟨b, of + t, none⟩) hlt2).trans HW0.out)
            have HW2 := hid (HW1.out _ (below_on HD.out.below HT.out.1.below).drew)
            clear hw HW0
            have HWr := hid (fun x (hm : Mem x f (mj.lay1 ⟨ys, yp, yo, some ⟨b, of, none⟩, yn, ycp, yw⟩ t)) => write_any x f _ hm ys yp (yo + (t : Int)) (yw t))
            unfold fr ptr at HWr
            have HTD := hid (And.intro (HT.out.1.on (Below.refl _ _).drew) (HT.out.2.on (Below.refl _ _).drew))
            refine wp_region_held_drew (S := fun x => Cel x g6 62 [.bool ys, .int .i64 yp, .int .i64 yo, .slice (some ⟨b, of, none⟩) yn ycp] ∧ x.cell? ⟨b, of + t, none⟩ = some (.int .u32 (yw t))) (by kernel_rfl) ⟨HTD.out.2, HW2.out⟩ (fun hHeld => ?_)
            refine wpAnyH_take (i := 0) (oi := { dst := some 56, op := Op.move (Operand.tmp 3), type := 29, pos := "law.go:58", after := #[], guard := none }) (v := .pointer (some ⟨f.gm, 0, none⟩)) rfl (by kernel_rfl) (by kernel_rfl) (by kernel_rfl) (fun _ _ _ h => h) (Or.inl ⟨by rfl, by intro w hSw; go_simp⟩) (by assumption) ?_
            simp only [Act.put, List.setIfInBounds_toArray, List.set_cons_zero, List.set_cons_succ]
            refine wpAnyH_take (i := 1) (oi := { dst := some 57, op := Op.fieldAddr 62 (Operand.tmp 6) 0, type := 0, pos := "law.go:58", after := #[], guard := none }) (v := .pointer (some ⟨g6, 0, none⟩)) rfl (by kernel_rfl) (by kernel_rfl) (by kernel_rfl) (fun _ _ _ h => h) (Or.inl ⟨by rfl, by intro w hSw; go_simp⟩) (by assumption) ?_
            simp only [Act.put, List.setIfInBounds_toArray, List.set_cons_zero, List.set_cons_succ]
            refine wpAnyH_take (i := 2) (oi := { dst := some 58, op := Op.load 59 (Operand.tmp 57), type := 59, pos := "law.go:58", after := #[{ on := 1, ground := Ground.data }], guard := none }) (v := .agg #[.bool ys, .int .i64 yp]) rfl (by kernel_rfl) (by kernel_rfl) (by kernel_rfl) (fun _ _ _ h => h) (Or.inl ⟨by rfl, by intro w hSw; have h0 := Cel.cell hSw.1 0; have h1 := Cel.cell hSw.1 1; have h2 := Cel.cell hSw.1 2; have h3 := Cel.cell hSw.1 3; simp only [List.getElem?_cons_zero, List.getElem?_cons_succ] at h0 h1 h2 h3; go_simp⟩) (by assumption) ?_
            simp only [Act.put, List.setIfInBounds_toArray, List.set_cons_zero, List.set_cons_succ]
            refine wpAnyH_take (i := 3) (oi := { dst := some 59, op := Op.fieldAddr 62 (Operand.tmp 6) 1, type := 0, pos := "law.go:58", after := #[], guard := none }) (v := .pointer (some ⟨g6, 2, none⟩)) rfl (by kernel_rfl) (by kernel_rfl) (by kernel_rfl) (fun _ _ _ h => h) (Or.inl ⟨by rfl, by intro w hSw; go_simp⟩) (by assumption) ?_
            simp only [Act.put, List.setIfInBounds_toArray, List.set_cons_zero, List.set_cons_succ]
            refine wpAnyH_take (i := 4) (oi := { dst := some 60, op := Op.load 3 (Operand.tmp 59), type := 3, pos := "law.go:58", after := #[{ on := 3, ground := Ground.data }], guard := none }) (v := .int .i64 yo) rfl (by kernel_rfl) (by kernel_rfl) (by kernel_rfl) (fun _ _ _ h => h) (Or.inl ⟨by rfl, by intro w hSw; have h0 := Cel.cell hSw.1 0; have h1 := Cel.cell hSw.1 1; have h2 := Cel.cell hSw.1 2; have h3 := Cel.cell hSw.1 3; simp only [List.getElem?_cons_zero, List.getElem?_cons_succ] at h0 h1 h2 h3; go_simp⟩) (by assumption) ?_
            simp only [Act.put, List.setIfInBounds_toArray, List.set_cons_zero, List.set_cons_succ]
            refine wpAnyH_take (i := 5) (oi := { dst := some 61, op := Op.move (Operand.tmp 7), type := 3, pos := "law.go:58", after := #[], guard := none }) (v := .int .i64 (t : Int)) rfl (by kernel_rfl) (by kernel_rfl) (by kernel_rfl) (fun _ _ _ h => h) (Or.inl ⟨by rfl, by intro w hSw; go_simp⟩) (by assumption) ?_
            simp only [Act.put, List.setIfInBounds_toArray, List.set_cons_zero, List.set_cons_succ]
            refine wpAnyH_take (i := 6) (oi := { dst := some 62, op := Op.binOp BinOp.add 3 (Operand.tmp 60) (Operand.tmp 61) 3, type := 3, pos := "law.go:58", after := #[{ on := 4, ground := Ground.data }, { on := 5, ground := Ground.data }], guard := none }) (v := .int .i64 (yo + (t : Int))) rfl (by kernel_rfl) (by kernel_rfl) (by kernel_rfl) (fun _ _ _ h => h) (Or.inl ⟨by rfl, by intro w hSw; go_simp; exact wrapI _ (by omega)⟩) (by assumption) ?_
            simp only [Act.put, List.setIfInBounds_toArray, List.set_cons_zero, List.set_cons_succ]
            refine wpAnyH_take (i := 7) (oi := { dst := some 63, op := Op.fieldAddr 62 (Operand.tmp 6) 2, type := 0, pos := "law.go:58", after := #[], guard := none }) (v := .pointer (some ⟨g6, 3, none⟩)) rfl (by kernel_rfl) (by kernel_rfl) (by kernel_rfl) (fun _ _ _ h => h) (Or.inl ⟨by rfl, by intro w hSw; go_simp⟩) (by assumption) ?_
            simp only [Act.put, List.setIfInBounds_toArray, List.set_cons_zero, List.set_cons_succ]
            refine wpAnyH_take (i := 8) (oi := { dst := some 64, op := Op.load 60 (Operand.tmp 63), type := 60, pos := "law.go:58", after := #[{ on := 7, ground := Ground.data }], guard := none }) (v := .slice (some ⟨b, of, none⟩) yn ycp) rfl (by kernel_rfl) (by kernel_rfl) (by kernel_rfl) (fun _ _ _ h => h) (Or.inl ⟨by rfl, by intro w hSw; have h0 := Cel.cell hSw.1 0; have h1 := Cel.cell hSw.1 1; have h2 := Cel.cell hSw.1 2; have h3 := Cel.cell hSw.1 3; simp only [List.getElem?_cons_zero, List.getElem?_cons_succ] at h0 h1 h2 h3; go_simp⟩) (by assumption) ?_
            simp only [Act.put, List.setIfInBounds_toArray, List.set_cons_zero, List.set_cons_succ]
            refine wpAnyH_take (i := 9) (oi := { dst := some 65, op := Op.move (Operand.tmp 7), type := 3, pos := "law.go:58", after := #[], guard := none }) (v := .int .i64 (t : Int)) rfl (by kernel_rfl) (by kernel_rfl) (by kernel_rfl) (fun _ _ _ h => h) (Or.inl ⟨by rfl, by intro w hSw; go_simp⟩) (by assumption) ?_
            simp only [Act.put, List.setIfInBounds_toArray, List.set_cons_zero, List.set_cons_succ]
            refine wpAnyH_take (i := 10) (oi := { dst := some 66, op := Op.indexAddr 60 (Operand.tmp 64) (Operand.tmp 65), type := 0, pos := "law.go:58", after := #[{ on := 8, ground := Ground.data }, { on := 9, ground := Ground.data }], guard := none }) (v := .pointer (some ⟨b, of + t, none⟩)) rfl (by kernel_rfl) (by kernel_rfl) (by kernel_rfl) (fun _ _ _ h => h) (Or.inl ⟨by rfl, by intro w hSw; go_simp⟩) (by assumption) ?_
            simp only [Act.put, List.setIfInBounds_toArray, List.set_cons_zero, List.set_cons_succ]
            refine wpAnyH_take (i := 11) (oi := { dst := some 67, op := Op.load 23 (Operand.tmp 66), type := 23, pos := "law.go:58", after := #[{ on := 10, ground := Ground.data }], guard := none }) (v := .int .u32 (yw t)) rfl (by kernel_rfl) (by kernel_rfl) (by kernel_rfl) (fun _ _ _ h => h) (Or.inl ⟨by rfl, by intro w hSw; have h0 := hSw.2; go_simp⟩) (by assumption) ?_
            simp only [Act.put, List.setIfInBounds_toArray, List.set_cons_zero, List.set_cons_succ]
            refine wpAnyH_ready (rs := [12]) (by kernel_rfl) (by simp) (AllReadyH.cons (o := { dst := some 68, op := Op.call { callee := Callee.value (Operand.func 19), args := #[Operand.tmp 56, Operand.tmp 58, Operand.tmp 62, Operand.tmp 67], argTypes := #[29, 59, 3, 23] }, type := 47, pos := "law.go:58", after := #[{ on := 0, ground := Ground.data }, { on := 2, ground := Ground.data }, { on := 6, ground := Ground.data }, { on := 11, ground := Ground.data }], guard := none }) rfl (fun KQ hK => ?_) AllReadyH.nil)
            go_simp
            refine (HWr.out _ HTD.out.1.mem).mono ?_
            rintro e w9 ⟨rfl, hm9, hb9⟩
            have HT9 : Hid (NewMem X.drew w9 f ((mj.lay1 ⟨ys, yp, yo, some ⟨b, of, none⟩, yn, ycp, yw⟩ t).write ys yp (yo + (t : Int)) (yw t)) ∧ Cel w9 g6 62 [.bool ys, .int .i64 yp, .int .i64 yo, .slice (some ⟨b, of, none⟩) yn ycp]) := hid ⟨HTD.out.1.write hm9 hb9, HTD.out.2.but hb9 (fun h => by have := HL6.out _ h; omega)⟩
            have HW9 := hid (HW1.out _ (below_on HD.out.below HT9.out.1.below))
            clear hm9 hb9
            go_wp2_with fail
            refine hK.out _ _ ⟨HT9.out.2, HW9.out⟩ (fun hHeld => ?_)
            clear hK KQ
            try simp only [Act.put, List.setIfInBounds_toArray, List.set_cons_zero, List.set_cons_succ]
            refine wpAnyH_done (by kernel_rfl) ?_ _
            go_wp2_with fail
            go_roundw
            case measure => simp [intOf] <;> omega
            case rel => exact ⟨t + 1, by have := HT1.out; omega, by simp, hid ⟨by
              have h := HT9.out.1
              unfold MS.lay1
              rw [if_pos (show 0 ≤ yo ∧ yo < 1024 from HO.out)]
              exact h, HT9.out.2⟩⟩
          · have HO := hid ho
            have HS2 : Hid (NewMem X.drew wr f (mj.lay1 ⟨ys, yp, yo, yao, yn, ycp, yw⟩ (t + 1)) ∧ Cel wr g6 62 [.bool ys, .int .i64 yp, .int .i64 yo, .slice yao yn ycp]) := hid ⟨by
              have h := HT.out.1
              unfold MS.lay1
              rw [if_neg (show ¬ (0 ≤ yo ∧ yo < 1024) from HO.out)]
              exact h, HT.out.2⟩
            have ho' : yo < 0 ∨ 1024 ≤ yo := by omega
            clear ho
            rcases ho' with ho | ho
            all_goals go_wp2_with fail
            all_goals go_roundw
            all_goals first | (simp [intOf] <;> omega) | exact ⟨t + 1, by have := HT1.out; omega, by simp, HS2⟩
        · have htn : t = min yn 1024 := by omega
          subst htn
          have HZ : Hid (NewMem X.drew wr f (m.lays L (j + 1))) := hid (by rw [HNX.out]; exact HT.out.1)
          by_cases hyn : yn < 1024
          · have e1 : ((min yn 1024 : Nat) : Int) = (yn : Int) := by omega
            rw [e1] at *
            go_wp2_with fail
            go_roundw
            case measure => simp [intOf] <;> omega
            case rel => exact ⟨j + 1, by omega, by simp, HZ⟩
          · have e1 : ((min yn 1024 : Nat) : Int) = 1024 := by omega
            rw [e1] at *
            by_cases hy2 : yn = 1024
            · have e2 : (yn : Int) = 1024 := by omega
              rw [e2] at *
              clear hy2 hyn e2
              go_wp2_with fail
              go_roundw
              all_goals first | exact ⟨⟨j + 1, by omega, by simp, HZ⟩, by simp [intOf]; omega⟩ | exact ⟨j + 1, by omega, by simp, HZ⟩ | (simp [intOf]; omega)
            · have e2 : 1024 < (yn : Int) := by omega
              go_wp2_with fail
              go_roundw
              case measure => simp [intOf] <;> omega
              case rel => exact ⟨j + 1, by omega, by simp, HZ⟩
    · have hjn : j = q.ln := by omega
      subst hjn
      go_wp2_with fail
      go_returns
      exact ⟨f, rfl, HN.out.mem, below_to HD.out.below (by have := HX.out; simp at this ⊢; omega) HN.out.below, fun k hk => by have := HN.out.new k hk; have := HX.out; simp at *; omega⟩
end Go.Proofs.YteldpapacdbbiaaGreatDoor
