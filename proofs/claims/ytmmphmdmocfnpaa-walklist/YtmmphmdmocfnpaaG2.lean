/- Both memories and boxes beside them; rows; document 40. -/
import Derived.Test.YtmmphmdmocfnpaaG1
import Derived.Test.YtmmphmdmocfnpaaB1
import Derived.Test.YtmmphmdmocfnpaaK2
import Derived.Test.YtmmphmdmocfnpaaW4
namespace Go.Proofs.Ytmmphmdmocfnpaa
open Go.RowKit
set_option maxHeartbeats 8000000
set_option maxRecDepth 100000
theorem Fp.w_all {f : Fp} {k : Nat} (h : k ∈ f.w) : k ∈ f.all := by simp only [Fp.w, Fp.all, List.mem_cons] at h ⊢; rcases h with h | h <;> simp [h]
theorem nodup_inj {L : List (Nat × TypeId × List Value)} (h : (L.map (·.1)).Nodup) {k j : Nat} {p q : Nat × TypeId × List Value} (hk : L[k]? = some p) (hj : L[j]? = some q) (he : p.1 = q.1) : k = j := by
  obtain ⟨h1, e1⟩ := List.getElem?_eq_some_iff.1 hk
  obtain ⟨h2, e2⟩ := List.getElem?_eq_some_iff.1 hj
  by_cases hkj : k = j
  · exact hkj
  · exfalso
    have hne := List.pairwise_iff_getElem.1 h
    rcases Nat.lt_or_gt_of_ne hkj with hlt | hlt
    · exact hne k j (by simpa using h1) (by simpa using h2) hlt (by simp [e1, e2, he])
    · exact hne j k (by simpa using h2) (by simpa using h1) hlt (by simp [e1, e2, he])
theorem NewR.on {W w w' : World} {r : Rf} {m : MS} (h : NewR W w r m) (hb : Below w.heap.size w w') : NewR W w' r m := ⟨h.mem.on hb, below_on h.below hb, h.new⟩
theorem NewR.step {W w w' : World} {r r' : Rf} {m m' : MS} (h : NewR W w r m) (s : RSt w w' r r' m') : NewR W w' r' m' :=
  ⟨s.mem, h.below.trans (s.but.below h.new h.below.size), fun k hk => by
    rcases s.sub k hk with h1 | h1
    · exact h.new k h1
    · exact Nat.le_trans h.below.size h1⟩
structure TB (W x : World) (fa : Fp) (r : Rf) (ma mr : MS) (L : List (Nat × TypeId × List Value)) : Prop where
  a : Mem x fa ma
  d : RMem x r mr
  below : Below W.heap.size W x
  la : ∀ k ∈ fa.all, W.heap.size ≤ k
  lr : ∀ k ∈ r.all, W.heap.size ≤ k
  ar : ∀ k ∈ r.all, k ∉ fa.all
  all : ∀ p ∈ L, Cel x p.1 p.2.1 p.2.2
  new : ∀ p ∈ L, W.heap.size ≤ p.1 ∧ p.1 ∉ fa.all ∧ p.1 ∉ r.all
  nd : (L.map (·.1)).Nodup
theorem TB.get {W x : World} {fa : Fp} {r : Rf} {ma mr : MS} {L : List (Nat × TypeId × List Value)} (h : TB W x fa r ma mr L) (k : Nat) {g : Nat} {t : TypeId} {cs : List Value} (hk : L[k]? = some (g, t, cs)) : Cel x g t cs := h.all _ (List.mem_of_getElem? hk)
theorem TB.on {W x x' : World} {fa : Fp} {r : Rf} {ma mr : MS} {L : List (Nat × TypeId × List Value)} (h : TB W x fa r ma mr L) (hb : Below x.heap.size x x') : TB W x' fa r ma mr L :=
  ⟨h.a.on hb, h.d.on hb, below_on h.below hb, h.la, h.lr, h.ar, fun p hp => (h.all p hp).on hb, h.new, h.nd⟩
theorem TB.stepA {W x x' : World} {fa : Fp} {r : Rf} {ma mr m' : MS} {L : List (Nat × TypeId × List Value)} (h : TB W x fa r ma mr L) (s : Rd x x' fa m') : TB W x' fa r m' mr L :=
  ⟨s.mem, h.d.frame s.but (fun k hk hw => h.ar k hk (Fp.w_all hw)), h.below.trans (s.but.below (fun k hk => h.la k (Fp.w_all hk)) h.below.size), h.la, h.lr, h.ar, fun p hp => (h.all p hp).but s.but (fun hw => (h.new p hp).2.1 (Fp.w_all hw)), h.new, h.nd⟩
theorem TB.stepR {W x x' : World} {fa : Fp} {r r' : Rf} {ma mr m' : MS} {L : List (Nat × TypeId × List Value)} (h : TB W x fa r ma mr L) (s : RSt x x' r r' m') : TB W x' fa r' ma m' L :=
  ⟨h.a.frame s.but (fun k hk hw => h.ar k hw hk), s.mem, h.below.trans (s.but.below h.lr h.below.size), h.la, fun k hk => by
    rcases s.sub k hk with h1 | h1
    · exact h.lr k h1
    · exact Nat.le_trans h.below.size h1, fun k hk hf => by
    rcases s.sub k hk with h1 | h1
    · exact h.ar k h1 hf
    · have := h.a.lt k hf; omega, fun p hp => (h.all p hp).but s.but (h.new p hp).2.2, fun p hp => ⟨(h.new p hp).1, (h.new p hp).2.1, fun hm => by
    rcases s.sub _ hm with h1 | h1
    · exact (h.new p hp).2.2 h1
    · have := (h.all p hp).lt; omega⟩, h.nd⟩
theorem TB.box {W x : World} {fa : Fp} {r : Rf} {ma mr : MS} {L : List (Nat × TypeId × List Value)} (h : TB W x fa r ma mr L) (t : TypeId) (cs : List Value) : TB W (x.alloc (.cells cs.toArray t)) fa r ma mr ((x.heap.size, t, cs) :: L) :=
  ⟨h.a.on (below_one _ _), h.d.on (below_one _ _), below_on h.below (below_one _ _), h.la, h.lr, h.ar, fun p hp => by
    rcases List.mem_cons.1 hp with rfl | hp
    · exact Cel.new x t cs
    · exact (h.all p hp).on (below_one _ _), fun p hp => by
    rcases List.mem_cons.1 hp with rfl | hp
    · exact ⟨h.below.size, fun hm => by have := h.a.lt _ hm; simp only at this; omega, fun hm => by have := h.d.lt _ hm; simp only at this; omega⟩
    · exact h.new p hp, by
    rw [List.map_cons, List.nodup_cons]
    exact ⟨fun hm => by
      obtain ⟨p, hp, he⟩ := List.mem_map.1 hm
      have := (h.all p hp).lt
      simp only at he
      omega, h.nd⟩⟩
theorem TB.tail {W x : World} {fa : Fp} {r : Rf} {ma mr : MS} {p : Nat × TypeId × List Value} {L : List (Nat × TypeId × List Value)} (h : TB W x fa r ma mr (p :: L)) : TB W x fa r ma mr L :=
  ⟨h.a, h.d, h.below, h.la, h.lr, h.ar, fun q hq => h.all q (by simp [hq]), fun q hq => h.new q (by simp [hq]), (List.nodup_cons.1 h.nd).2⟩
/-- A block is written. -/
theorem TB.put {W x x' : World} {fa : Fp} {r : Rf} {ma mr : MS} {L : List (Nat × TypeId × List Value)} (h : TB W x fa r ma mr L) (k : Nat) {g : Nat} {t : TypeId} {cs es : List Value} (hk : L[k]? = some (g, t, cs)) (hc : Cel x' g t es) (hb : ButL [g] x x') : TB W x' fa r ma mr (L.set k (g, t, es)) := by
  have hm := List.mem_of_getElem? hk
  have hn := h.new _ hm
  have hkl : k < L.length := (List.getElem?_eq_some_iff.1 hk).1
  refine ⟨h.a.frame hb (fun k hk hw => by rw [List.mem_singleton] at hw; exact hn.2.1 (hw ▸ hk)), h.d.frame hb (fun k hk hw => by rw [List.mem_singleton] at hw; exact hn.2.2 (hw ▸ hk)), h.below.trans (hb.below (by simpa using hn.1) h.below.size), h.la, h.lr, h.ar, fun p hp => ?_, fun p hp => ?_, ?_⟩
  · obtain ⟨j, hj⟩ := List.getElem?_of_mem hp
    by_cases e : k = j
    · subst e
      rw [List.getElem?_set_self hkl] at hj
      obtain rfl := Option.some.inj hj
      exact hc
    · rw [List.getElem?_set_ne e] at hj
      refine (h.get j (show L[j]? = some (p.1, p.2.1, p.2.2) from hj)).but hb ?_
      rw [List.mem_singleton]
      exact fun he => e (nodup_inj h.nd hk hj he.symm)
  · rcases List.mem_or_eq_of_mem_set hp with hp | rfl
    · exact h.new p hp
    · exact hn
  · have : (L.set k (g, t, es)).map (·.1) = L.map (·.1) := by
      rw [List.map_set]
      apply List.ext_getElem?
      intro j
      by_cases e : k = j
      · subst e
        rw [List.getElem?_set_self (by simpa using hkl)]
        simp [hk]
      · rw [List.getElem?_set_ne e]
    rw [this]
    exact h.nd
/-- A list of mappings in a row. -/
def RowQ (W : World) (ao : Option Addr) (A : List (Int × Mp)) : Prop :=
  ∀ k x, A[k]? = some x → ∃ g, ao = some ⟨g, 0, none⟩ ∧ g < W.heap.size ∧ W.cell? ⟨g, k * 5, none⟩ = some (.int .u32 x.1) ∧ W.cell? ⟨g, k * 5 + 1, none⟩ = some (.bool x.2.s) ∧ W.cell? ⟨g, k * 5 + 2, none⟩ = some (.int .i64 x.2.p) ∧ W.cell? ⟨g, k * 5 + 3, none⟩ = some (.bool x.2.wr) ∧ W.cell? ⟨g, k * 5 + 4, none⟩ = some (.bool x.2.ex)
theorem RowQ.on {W w : World} {ao : Option Addr} {A : List (Int × Mp)} (h : RowQ W ao A) (hb : Below W.heap.size W w) : RowQ w ao A := fun k x hk => by
  obtain ⟨g, h1, h2, c0, c1, c2, c3, c4⟩ := h k x hk
  exact ⟨g, h1, Nat.lt_of_lt_of_le h2 hb.size, (hb.cell (p := ⟨g, k * 5, none⟩) h2).trans c0, (hb.cell (p := ⟨g, k * 5 + 1, none⟩) h2).trans c1, (hb.cell (p := ⟨g, k * 5 + 2, none⟩) h2).trans c2, (hb.cell (p := ⟨g, k * 5 + 3, none⟩) h2).trans c3, (hb.cell (p := ⟨g, k * 5 + 4, none⟩) h2).trans c4⟩
theorem flatq_at : ∀ (A : List (Int × Mp)) (k : Nat) (x : Int × Mp) (i : Nat), A[k]? = some x → i < 5 → (flat A)[k * 5 + i]? = (atC x)[i]?
  | [], k, x, i, h, _ => by simp at h
  | y :: A, 0, x, i, h, hi => by
    simp only [List.getElem?_cons_zero, Option.some.injEq] at h
    subst h
    rw [flat, List.flatMap_cons, List.getElem?_append_left (by simp [atC]; omega)]
    simp
  | y :: A, k + 1, x, i, h, hi => by
    simp only [List.getElem?_cons_succ] at h
    rw [flat, List.flatMap_cons, List.getElem?_append_right (by simp [atC]; omega)]
    have e : (k + 1) * 5 + i - (atC y).length = k * 5 + i := by simp [atC]; omega
    rw [e]
    exact flatq_at A k x i h hi
theorem RowQ.of {W : World} {base : Nat} {e : TypeId} {v : Value} {A : List (Int × Mp)} (h : W.ownsRow base e 5 v A.length (flat A)) : ∃ ao c, v = .slice ao A.length c ∧ RowQ W ao A := by
  rcases h.2 with ⟨rfl, hn⟩ | ⟨g, cap, cur, rfl, _, hg, h1, _, h2, h3⟩
  · refine ⟨none, 0, by rw [hn], fun k x hk => ?_⟩
    have := (List.getElem?_eq_some_iff.1 hk).1
    omega
  · refine ⟨_, cap, rfl, fun k x hk => ⟨g, rfl, (Array.getElem?_eq_some_iff.1 hg).1, ?_⟩⟩
    have hkl := (List.getElem?_eq_some_iff.1 hk).1
    have hc : ∀ i u, i < 5 → (atC x)[i]? = some u → W.cell? ⟨g, k * 5 + i, none⟩ = some u := fun i u hi hu => by
      rw [cell_of_row W g _ _ e (0, 0) hg]
      have ee := flatq_at A k x i hk hi
      rw [hu, ← h3, List.getElem?_take_of_lt (by omega)] at ee
      simpa using ee
    exact ⟨hc 0 _ (by decide) rfl, hc 1 _ (by decide) rfl, hc 2 _ (by decide) rfl, hc 3 _ (by decide) rfl, hc 4 _ (by decide) rfl⟩
theorem MS.read_wc (m : MS) (s : Bool) (p o : Int) : ∃ c, m.read s p o = m.wc c := by
  rw [MS.read_eq]
  split
  · exact ⟨_, rfl⟩
  · exact ⟨m.c, rfl⟩
theorem MS.wkS_wc (m : MS) (l va : Int) : ∃ c, m.wkS l va = m.wc c := by
  unfold MS.wkS
  split
  · obtain ⟨c, h⟩ := MS.read_wc m true l (spI va)
    rw [h]
    split
    · obtain ⟨c', h'⟩ := MS.read_wc (m.wc c) true (m.f1 l (spI va)) (spJ va)
      exact ⟨c', h'⟩
    · exact ⟨c, rfl⟩
  · exact ⟨m.c, rfl⟩
theorem TB.first {W X w1 w3 : World} {fa : Fp} {r : Rf} {m : MS} {cs : List Value} (hX : X = W.alloc (.cells cs.toArray 71)) (h1 : NewMem X w1 fa m) (h3 : NewR w1 w3 r m) : TB W w3 fa r m m [(W.heap.size, 71, cs)] := by
  subst hX
  have hs : W.heap.size < (W.alloc (.cells cs.toArray 71)).heap.size := by rw [World.size_alloc]; omega
  have h4 := h1.below.size
  have hb := below_on (below_on (below_one W (.cells cs.toArray 71)) h1.below) h3.below
  have hc := (Cel.new W 71 cs).on h1.below
  refine ⟨h1.mem.on h3.below, h3.mem, hb, fun k hk => by have := h1.new k hk; omega, fun k hk => by have := h3.new k hk; omega, fun k hk hf => by
    have := h1.mem.lt k hf
    have := h3.new k hk
    omega, fun p hp => ?_, fun p hp => ?_, by simp⟩
  · rw [List.mem_singleton] at hp
    subst hp
    exact hc.on h3.below
  · rw [List.mem_singleton] at hp
    subst hp
    exact ⟨Nat.le_refl _, fun hf => by have := h1.new _ hf; simp only at this; omega, fun hf => by have := h3.new _ hf; simp only at this; omega⟩
theorem document_any (W : World) (a b : Int) (ao : Option Addr) (n cp bk off : Nat) (k : Pk) (hk : PkAt W ao n bk off k) (hn : (n : Int) ≤ 4611686018427387904) (a0 : -9223372036854775808 ≤ a) (a1 : a ≤ 9223372036854775807) (b0 : -9223372036854775808 ≤ b) (b1 : b ≤ 9223372036854775807) :
    Calls Try.prog 40 #[.agg #[.int .i64 a, .int .i64 b, .slice ao n cp]] W fun e W' => ∃ r : Rf, e = .returned (ptr r.g) ∧ NewR W W' r ((MS.new (pgs a) (pgs b)).poked k n) := by
  have HC : Hid (BW W (W.alloc (.cells #[.int .i64 a, .int .i64 b, .slice ao n cp] 71)) W.heap.size a b ao n cp) := hid ⟨Cel.new W 71 _, below_one _ _⟩
  have HX : Hid (W.heap.size < (W.alloc (.cells #[.int .i64 a, .int .i64 b, .slice ao n cp] 71)).heap.size) := hid (by simp)
  have H1 := hid (fun W => within_any W a 1 64 (by decide) (by decide) (by decide) a0 a1)
  have H2 := hid (fun W => within_any W b 1 64 (by decide) (by decide) (by decide) b0 b1)
  have e1 := pgs_eq a
  have e2 := pgs_eq b
  simp only [Int.reduceSub, Int.reduceAdd] at H1 H2
  rw [e1.1] at H1
  rw [e2.1] at H2
  have H3 := hid (fun W => rnew_any W (pgs a) (pgs b) e1.2.1 e1.2.2 e2.2.1 e2.2.2)
  have HK := hid hk
  clear hk e1 e2 a0 a1 b0 b1
  unfold ptr at *
  generalize MS.new (pgs a) (pgs b) = m at *
  generalize pgs a = pa at *
  generalize pgs b = pb at *
  go_enter Try.func40, Try.ntmps40
  go_upto_region 1 with fail
  generalize hX : W.alloc _ = X at *
  clear hX
  generalize hg : W.heap.size = g0 at *
  have HD := hid (HC.out.on (Below.refl _ _).drew)
  refine wp_region_held_drew (S := fun x => BW W x g0 a b ao n cp) (by kernel_rfl) HD.out (fun hHeld => ?_)
  refine wpAnyH_take (i := 0) (oi := { dst := some 8, op := Op.fieldAddr 71 (Operand.tmp 1) 0, type := 0, pos := "law.go:56", after := #[], guard := none }) (v := .pointer (some ⟨g0, 0, none⟩)) rfl (by kernel_rfl) (by kernel_rfl) (by kernel_rfl) (fun _ _ _ h => h) (Or.inl ⟨by rfl, by intro w hSw; go_simp⟩) (by assumption) ?_
  simp only [Act.put, List.setIfInBounds_toArray, List.set_cons_zero, List.set_cons_succ]
  refine wpAnyH_take (i := 1) (oi := { dst := some 9, op := Op.load 3 (Operand.tmp 8), type := 3, pos := "law.go:56", after := #[{ on := 0, ground := Ground.data }], guard := none }) (v := .int .i64 a) rfl (by kernel_rfl) (by kernel_rfl) (by kernel_rfl) (fun _ _ _ h => h) (Or.inl ⟨by rfl, by intro w hSw; have c0 := hSw.cel.cell 0; simp only [List.getElem?_cons_zero] at c0; go_simp⟩) (by assumption) ?_
  simp only [Act.put, List.setIfInBounds_toArray, List.set_cons_zero, List.set_cons_succ]
  refine wpAnyH_take (i := 3) (oi := { dst := some 11, op := Op.fieldAddr 71 (Operand.tmp 1) 1, type := 0, pos := "law.go:56", after := #[], guard := none }) (v := .pointer (some ⟨g0, 1, none⟩)) rfl (by kernel_rfl) (by kernel_rfl) (by kernel_rfl) (fun _ _ _ h => h) (Or.inl ⟨by rfl, by intro w hSw; go_simp⟩) (by assumption) ?_
  simp only [Act.put, List.setIfInBounds_toArray, List.set_cons_zero, List.set_cons_succ]
  refine wpAnyH_take (i := 4) (oi := { dst := some 12, op := Op.load 3 (Operand.tmp 11), type := 3, pos := "law.go:56", after := #[{ on := 3, ground := Ground.data }], guard := none }) (v := .int .i64 b) rfl (by kernel_rfl) (by kernel_rfl) (by kernel_rfl) (fun _ _ _ h => h) (Or.inl ⟨by rfl, by intro w hSw; have c1 := hSw.cel.cell 1; simp only [List.getElem?_cons_zero, List.getElem?_cons_succ] at c1; go_simp⟩) (by assumption) ?_
  simp only [Act.put, List.setIfInBounds_toArray, List.set_cons_zero, List.set_cons_succ]
  refine wpAnyH_ready (rs := [2]) (by kernel_rfl) (by simp) (AllReadyH.cons (o := { dst := some 10, op := Op.call { callee := Callee.value (Operand.func 25), args := #[Operand.tmp 9, Operand.const (Value.int IntKind.i64 1), Operand.const (Value.int IntKind.i64 64)], argTypes := #[3, 3, 3] }, type := 3, pos := "law.go:56", after := #[{ on := 1, ground := Ground.data }], guard := none }) rfl (fun KQ hK => ?_) AllReadyH.nil)
  go_simp
  refine (H1.out _).mono ?_
  rintro e wx ⟨rfl, rfl⟩
  go_wp2_with fail
  refine hK.out _ _ HD.out (fun hHeld => ?_)
  clear hK KQ
  try simp only [Act.put, List.setIfInBounds_toArray, List.set_cons_zero, List.set_cons_succ]
  refine wpAnyH_ready (rs := [5]) (by kernel_rfl) (by simp) (AllReadyH.cons (o := { dst := some 13, op := Op.call { callee := Callee.value (Operand.func 25), args := #[Operand.tmp 12, Operand.const (Value.int IntKind.i64 1), Operand.const (Value.int IntKind.i64 64)], argTypes := #[3, 3, 3] }, type := 3, pos := "law.go:56", after := #[{ on := 4, ground := Ground.data }, { on := 2, ground := Ground.chain }], guard := none }) rfl (fun KQ hK => ?_) AllReadyH.nil)
  go_simp
  refine (H2.out _).mono ?_
  rintro e wx ⟨rfl, rfl⟩
  go_wp2_with fail
  refine hK.out _ _ HD.out (fun hHeld => ?_)
  clear hK KQ
  try simp only [Act.put, List.setIfInBounds_toArray, List.set_cons_zero, List.set_cons_succ]
  refine wpAnyH_ready (rs := [6]) (by kernel_rfl) (by simp) (AllReadyH.cons (o := { dst := some 14, op := Op.call { callee := Callee.value (Operand.func 63), args := #[Operand.tmp 10, Operand.tmp 13], argTypes := #[3, 3] }, type := 136, pos := "law.go:56", after := #[{ on := 2, ground := Ground.data }, { on := 5, ground := Ground.data }, { on := 5, ground := Ground.chain }], guard := none }) rfl (fun KQ hK => ?_) AllReadyH.nil)
  go_simp
  refine (H3.out _).mono ?_
  rintro e w1 ⟨r0, rfl, hm1⟩
  have HM1 : Hid (∃ r : Rf, r.g = r0.g ∧ NewR X.drew w1 r m) := hid ⟨r0, rfl, hm1⟩
  have HE := hid (HD.out.on hm1.below)
  clear hm1
  generalize r0.g = gr at *
  go_wp2_with fail
  refine hK.out _ _ HE.out (fun hHeld => ?_)
  clear hK KQ
  try simp only [Act.put, List.setIfInBounds_toArray, List.set_cons_zero, List.set_cons_succ]
  refine wpAnyH_take (i := 7) (oi := { dst := some 7, op := Op.move (Operand.tmp 14), type := 136, pos := "law.go:56", after := #[{ on := 6, ground := Ground.data }], guard := none }) (v := .tuple #[.pointer (some ⟨gr, 0, none⟩), .int .i64 0]) rfl (by kernel_rfl) (by kernel_rfl) (by kernel_rfl) (fun _ _ _ h => h) (Or.inl ⟨by rfl, by intro w hSw; go_simp⟩) (by assumption) ?_
  simp only [Act.put, List.setIfInBounds_toArray, List.set_cons_zero, List.set_cons_succ]
  refine wpAnyH_take (i := 8) (oi := { dst := some 15, op := Op.extract (Operand.tmp 7) 0, type := 96, pos := "law.go:56", after := #[{ on := 7, ground := Ground.data }], guard := none }) (v := .pointer (some ⟨gr, 0, none⟩)) rfl (by kernel_rfl) (by kernel_rfl) (by kernel_rfl) (fun _ _ _ h => h) (Or.inl ⟨by rfl, by intro w hSw; go_simp⟩) (by assumption) ?_
  simp only [Act.put, List.setIfInBounds_toArray, List.set_cons_zero, List.set_cons_succ]
  refine wpAnyH_take (i := 9) (oi := { dst := some 16, op := Op.extract (Operand.tmp 7) 1, type := 3, pos := "law.go:56", after := #[{ on := 7, ground := Ground.data }, { on := 10, ground := Ground.gcOnly Departure.lateStores }], guard := none }) (v := .int .i64 0) rfl (by kernel_rfl) (by kernel_rfl) (by kernel_rfl) (fun _ _ _ h => h) (Or.inl ⟨by rfl, by intro w hSw; go_simp⟩) (by assumption) ?_
  simp only [Act.put, List.setIfInBounds_toArray, List.set_cons_zero, List.set_cons_succ]
  refine wpAnyH_ready (rs := [10]) (by kernel_rfl) (by simp) (AllReadyH.cons (o := { dst := some 3, op := Op.assign (Operand.tmp 15), type := 96, pos := "law.go:56", after := #[{ on := 8, ground := Ground.data }, { on := 6, ground := Ground.chain }, { on := 0, ground := Ground.phase }, { on := 1, ground := Ground.phase }, { on := 2, ground := Ground.phase }, { on := 3, ground := Ground.phase }, { on := 4, ground := Ground.phase }, { on := 5, ground := Ground.phase }, { on := 6, ground := Ground.phase }, { on := 7, ground := Ground.phase }, { on := 8, ground := Ground.phase }, { on := 9, ground := Ground.textOnly Departure.lateStores }], guard := none }) rfl (fun KQ hK => ?_) AllReadyH.nil)
  go_simp
  refine hK.out _ _ HE.out (fun hHeld => ?_)
  clear hK KQ
  try simp only [Act.put, List.setIfInBounds_toArray, List.set_cons_zero, List.set_cons_succ]
  refine wpAnyH_ready (rs := [11]) (by kernel_rfl) (by simp) (AllReadyH.cons (o := { dst := some 4, op := Op.assign (Operand.tmp 16), type := 3, pos := "law.go:56", after := #[{ on := 9, ground := Ground.data }, { on := 10, ground := Ground.chain }, { on := 0, ground := Ground.phase }, { on := 1, ground := Ground.phase }, { on := 2, ground := Ground.phase }, { on := 3, ground := Ground.phase }, { on := 4, ground := Ground.phase }, { on := 5, ground := Ground.phase }, { on := 6, ground := Ground.phase }, { on := 7, ground := Ground.phase }, { on := 8, ground := Ground.phase }, { on := 9, ground := Ground.phase }, { on := 10, ground := Ground.phase }], guard := none }) rfl (fun KQ hK => ?_) AllReadyH.nil)
  go_simp
  refine hK.out _ _ HE.out (fun hHeld => ?_)
  clear hK KQ
  try simp only [Act.put, List.setIfInBounds_toArray, List.set_cons_zero, List.set_cons_succ]
  refine wpAnyH_done (by kernel_rfl) ?_ _
  subst hg
  go_wp2_with fail
  go_loopw [5] (fun i wr => ∃ j : Nat, j ≤ n ∧ i = .int .i64 (j : Int) ∧ Hid (∃ r : Rf, r.g = gr ∧ NewR X.drew wr r (m.poked k j))) (fun i _ => n - (intOf i).toNat)
  case atStart => exact ⟨0, Nat.zero_le _, rfl, HM1⟩
  case round =>
    obtain ⟨j, hj, rfl, HQ0⟩ := hrel
    obtain ⟨r, hrg, hq0⟩ := HQ0.out
    have HQ := hid hq0
    have HG := hid hrg
    clear HQ0 hrg hq0
    have HCel := hid (HD.out.on HQ.out.below).cel
    have c2 := HCel.out.cell 2
    simp only [List.getElem?_cons_zero, List.getElem?_cons_succ] at c2
    by_cases hlt : j < n
    · have q1 : (j : Int) < (n : Int) := by omega
      obtain ⟨hao, hb0⟩ := HK.out.ao (by omega)
      subst hao
      have HKx := hid (HK.out.on (below_on HD.out.below HQ.out.below))
      obtain ⟨k0, k1, k2, k3⟩ := HKx.out.c j hlt
      have HA := hid (below_one wr (.cells #[.bool (k.s j), .int .i64 (k.p j), .int .i64 (k.o j), .int .u32 (k.v j)] 75))
      have HW := hid (rwrite_any _ r _ (HQ.out.mem.on HA.out) (k.s j) (k.p j) (k.o j) (k.v j))
      rw [HG.out] at HW
      unfold fr ptr at HW
      go_wp2_with fail
      refine HW.out.mono ?_
      rintro x w2 ⟨rfl, r2, hs2⟩
      have HN2 : Hid (∃ r : Rf, r.g = gr ∧ NewR X.drew w2 r (m.poked k (j + 1))) := hid ⟨r2, hs2.g.trans HG.out, (HQ.out.on HA.out).step hs2⟩
      clear hs2
      go_wp2_with fail
      go_roundw
      case measure => simp [intOf] <;> omega
      case rel => exact ⟨j + 1, by omega, by simp, HN2⟩
    · have hjn : j = n := by omega
      subst hjn
      have HZ : Hid (∃ r : Rf, r.g = gr ∧ NewR W wr r (m.poked k j)) := hid ⟨r, HG.out, HQ.out.mem, below_to HD.out.below (by have := HX.out; have := HD.out.below.size; simp at *; omega) HQ.out.below, fun k hk => by have := HQ.out.new k hk; have := HX.out; have := HD.out.below.size; simp at *; omega⟩
      go_wp2_with fail
      go_returns
      obtain ⟨r, rfl, h2⟩ := HZ.out
      exact ⟨r, rfl, h2⟩
end Go.Proofs.Ytmmphmdmocfnpaa
