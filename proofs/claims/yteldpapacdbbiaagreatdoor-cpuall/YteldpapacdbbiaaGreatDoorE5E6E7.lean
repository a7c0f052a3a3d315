/- The law's doc 23, docEvent 10. The document's answers are the same numbers. The document's memory, and blocks of the call's own beside it. -/
import Derived.Test.YteldpapacdbbiaaGreatDoorZ1Z3Z4E4
import Derived.Test.YteldpapacdbbiaaGreatDoorC9
namespace Go.Proofs.YteldpapacdbbiaaGreatDoor
open Go.RowKit
set_option maxHeartbeats 8000000
set_option maxRecDepth 100000
theorem doc_any (W : World) (s : Bool) (p : Int) : Calls Tryz.prog 23 #[fr s p] W fun e W' => e = .returned (fr s p) ∧ Below W.heap.size W W' := by
  have HC1 : Hid (Cel ((W.alloc (.cells #[.bool s, .int .i64 p] 59)).alloc (.cells #[.bool false, .int .i64 0] 68)) W.heap.size 59 [.bool s, .int .i64 p]) := hid ((Cel.new W 59 _).on (below_one _ _))
  have HC2 : Hid (Cel ((W.alloc (.cells #[.bool s, .int .i64 p] 59)).alloc (.cells #[.bool false, .int .i64 0] 68)) (W.heap.size + 1) 68 [.bool false, .int .i64 0]) := hid (by
    have := Cel.new (W.alloc (.cells #[.bool s, .int .i64 p] 59)) 68 [.bool false, .int .i64 0]
    rwa [World.size_alloc] at this)
  have HB := hid (below_on (below_one W (.cells #[.bool s, .int .i64 p] 59)) (below_one _ (.cells #[.bool false, .int .i64 0] 68)))
  unfold fr
  go_enter Tryz.func23, Tryz.ntmps23
  go_upto_region 1 with fail
  generalize hX : (W.alloc _).alloc _ = X at *
  clear hX
  have r0 := HC1.out.cell 0
  have r1 := HC1.out.cell 1
  have a0 := HC2.out.cell 0
  have a1 := HC2.out.cell 1
  simp only [List.getElem?_cons_zero, List.getElem?_cons_succ] at r0 r1 a0 a1
  have af0 := HC2.out.free 0
  have af1 := HC2.out.free 1
  go_wp2_with fail
  generalize hX3 : World.setCell _ _ _ = w9
  have HC3 := chain2r HC2.out _ _ hX3
  have HB9 := hid (HB.out.trans (HC3.2.below (by simp) HB.out.size))
  clear hX3
  obtain ⟨⟨d0, d1⟩, _⟩ := HC3
  (refine bodyPost_ret (by simp [results, Tryz.results23, go_sem, d0, d1]; try rfl) rfl ?_)
  exact ⟨rfl, HB9.out⟩
theorem chainE {w w3 : World} {g : Nat} {a b : Value} (h : Cel w g 42 [a, b]) (x y : Value) (e : (w.setCell ⟨g, 0, none⟩ x).setCell ⟨g, 1, none⟩ y = w3) :
    (w3.cell? ⟨g, 0, none⟩ = some x ∧ w3.cell? ⟨g, 1, none⟩ = some y) ∧ ButL [g] w w3 := by
  have h4 : Cel w3 g 42 [x, y] := by rw [← e]; exact (h.setCell 0 x).setCell 1 y
  exact ⟨⟨h4.cell 0, h4.cell 1⟩, by rw [← e]; exact (ButL.setCell w g 0 x (by simp)).trans (.setCell _ g 1 y (by simp))⟩
theorem docEvent_any (W : World) (k a : Int) : Calls Tryz.prog 10 #[.agg #[.int .i64 k, .int .u32 a]] W fun e W' => e = .returned (.agg #[.int .i64 k, .int .u32 a]) ∧ Below W.heap.size W W' := by
  have HC1 : Hid (Cel ((W.alloc (.cells #[.int .i64 k, .int .u32 a] 38)).alloc (.cells #[.int .i64 0, .int .u32 0] 42)) W.heap.size 38 [.int .i64 k, .int .u32 a]) := hid ((Cel.new W 38 _).on (below_one _ _))
  have HC2 : Hid (Cel ((W.alloc (.cells #[.int .i64 k, .int .u32 a] 38)).alloc (.cells #[.int .i64 0, .int .u32 0] 42)) (W.heap.size + 1) 42 [.int .i64 0, .int .u32 0]) := hid (by
    have := Cel.new (W.alloc (.cells #[.int .i64 k, .int .u32 a] 38)) 42 [.int .i64 0, .int .u32 0]
    rwa [World.size_alloc] at this)
  have HB := hid (below_on (below_one W (.cells #[.int .i64 k, .int .u32 a] 38)) (below_one _ (.cells #[.int .i64 0, .int .u32 0] 42)))
  go_enter Tryz.func10, Tryz.ntmps10
  go_upto_region 1 with fail
  generalize hX : (W.alloc _).alloc _ = X at *
  clear hX
  have r0 := HC1.out.cell 0
  have r1 := HC1.out.cell 1
  have a0 := HC2.out.cell 0
  have a1 := HC2.out.cell 1
  simp only [List.getElem?_cons_zero, List.getElem?_cons_succ] at r0 r1 a0 a1
  have af0 := HC2.out.free 0
  have af1 := HC2.out.free 1
  go_wp2_with fail
  generalize hX3 : World.setCell _ _ _ = w9
  have HC3 := chainE HC2.out _ _ hX3
  have HB9 := hid (HB.out.trans (HC3.2.below (by simp) HB.out.size))
  clear hX3
  obtain ⟨⟨d0, d1⟩, _⟩ := HC3
  (refine bodyPost_ret (by simp [results, Tryz.results10, go_sem, d0, d1]; try rfl) rfl ?_)
  exact ⟨rfl, HB9.out⟩
end Go.Proofs.YteldpapacdbbiaaGreatDoor
namespace Go.Proofs.YteldpapacdbbiaaGreatDoor
open Go.RowKit
theorem and_low (a : Int) (h0 : 0 ≤ a) (h1 : a < 4294967296) : bits .and .u32 a 65535 = a % 65536 := by
  rw [u32_and a 65535 h0 h1 (by decide) (by decide)]
  have : a.toNat &&& (65535 : Int).toNat = a.toNat % 65536 := Nat.and_two_pow_sub_one_eq_mod a.toNat 16
  rw [this]
  omega
theorem or_low (v r : Int) (h0 : 0 ≤ v) (h2 : 0 ≤ r) (h3 : r < 65536) : bits .or .u32 (v * 65536 % 4294967296) r = (v * 65536 + r) % 4294967296 := by
  rw [u32_or _ r (by omega) (by omega) h2 (by omega)]
  have e : (v * 65536 % 4294967296).toNat = (v.toNat % 65536) <<< 16 := by rw [Nat.shiftLeft_eq]; omega
  rw [e, ← Nat.shiftLeft_add_eq_or_of_lt (by omega : r.toNat < 2 ^ 16), Nat.shiftLeft_eq]
  omega
theorem sumO_two (v ra rb rc : Int) (h0 : 0 ≤ v) (ha : 0 ≤ ra ∧ ra < 4294967296) : sumO 2 v ra rb rc = (v * 65536 + ra % 65536) % 4294967296 := by
  show bits .or .u32 (v * 65536 % 4294967296) (bits .and .u32 ra 65535) = _
  rw [and_low ra ha.1 ha.2, or_low v _ h0 (by omega) (by omega)]
theorem F.put_own (f : F) (k : Nat) : f.put k (f.r k) = f := by
  obtain ⟨r, pc, z, n, l⟩ := f
  show F.mk _ _ _ _ _ = _
  congr 1
  funext j
  show (if j = k then r k else r j) = r j
  split
  · rename_i h; rw [h]
  · rfl
end Go.Proofs.YteldpapacdbbiaaGreatDoor
namespace Go.Proofs.YteldpapacdbbiaaGreatDoor
open Go.RowKit
theorem RSt.trans {w x y : World} {r r1 r2 : Rf} {m1 m2 : MS} (h : RSt w x r r1 m1) (s : RSt x y r1 r2 m2) : RSt w y r r2 m2 :=
  ⟨s.mem, ⟨s.but.os.trans h.but.os, s.but.tape.trans h.but.tape, s.but.output.trans h.but.output, Nat.le_trans h.but.size s.but.size, fun k hk hn => (s.but.block k (by have := h.but.size; omega) (fun hm => by rcases h.sub k hm with h1 | h1; exact hn h1; omega)).trans (h.but.block k hk hn)⟩,
   s.g.trans h.g, fun k hk => by
    rcases s.sub k hk with h1 | h1
    · exact h.sub k h1
    · exact .inr (Nat.le_trans h.but.size h1)⟩
theorem RSt.on {w x y : World} {r r1 : Rf} {m1 : MS} (h : RSt w x r r1 m1) (hb : Below x.heap.size x y) : RSt w y r r1 m1 := h.trans (RSt.of h.mem hb)
theorem RSt.set {w x y : World} {r r1 : Rf} {m1 : MS} {g : Nat} (h : RSt w x r r1 m1) (hb : ButL [g] x y) (hg : w.heap.size ≤ g) (hn : g ∉ r1.all) : RSt w y r r1 m1 :=
  ⟨h.mem.frame hb (fun k hk hm => by rw [List.mem_singleton] at hm; exact hn (hm ▸ hk)), h.but.trans' hb hg, h.g, h.sub⟩
structure RB (W x : World) (r r1 : Rf) (m : MS) (L : List (Nat × TypeId × List Value)) : Prop where
  st : RSt W x r r1 m
  all : ∀ p ∈ L, Cel x p.1 p.2.1 p.2.2
  new : ∀ p ∈ L, W.heap.size ≤ p.1 ∧ p.1 ∉ r1.all
  nd : (L.map (·.1)).Nodup
theorem RB.start {W : World} {r : Rf} {m : MS} (h : RMem W r m) : RB W W r r m [] := ⟨RSt.of h (Below.refl _ _), by simp, by simp, by simp⟩
theorem RB.get {W x : World} {r r1 : Rf} {m : MS} {L : List (Nat × TypeId × List Value)} (h : RB W x r r1 m L) (k : Nat) {g : Nat} {t : TypeId} {cs : List Value} (hk : L[k]? = some (g, t, cs)) : Cel x g t cs := h.all _ (List.mem_of_getElem? hk)
theorem RB.on {W x x' : World} {r r1 : Rf} {m : MS} {L : List (Nat × TypeId × List Value)} (h : RB W x r r1 m L) (hb : Below x.heap.size x x') : RB W x' r r1 m L := ⟨h.st.on hb, fun p hp => (h.all p hp).on hb, h.new, h.nd⟩
theorem RB.call {W x x' : World} {r r1 r2 : Rf} {m m2 : MS} {L : List (Nat × TypeId × List Value)} (h : RB W x r r1 m L) (s : RSt x x' r1 r2 m2) : RB W x' r r2 m2 L :=
  ⟨h.st.trans s, fun p hp => (h.all p hp).but s.but (h.new p hp).2, fun p hp => ⟨(h.new p hp).1, fun hm => by
    rcases s.sub _ hm with h1 | h1
    · exact (h.new p hp).2 h1
    · have := (h.all p hp).lt; omega⟩, h.nd⟩
/-- A new block. -/
theorem RB.box {W x : World} {r r1 : Rf} {m : MS} {L : List (Nat × TypeId × List Value)} (h : RB W x r r1 m L) (t : TypeId) (cs : List Value) : RB W (x.alloc (.cells cs.toArray t)) r r1 m ((x.heap.size, t, cs) :: L) :=
  ⟨h.st.on (below_one _ _), fun p hp => by
    rcases List.mem_cons.1 hp with rfl | hp
    · exact Cel.new x t cs
    · exact (h.all p hp).on (below_one _ _), fun p hp => by
    rcases List.mem_cons.1 hp with rfl | hp
    · exact ⟨h.st.but.size, fun hm => by have := h.st.mem.lt _ hm; simp only at this; omega⟩
    · exact h.new p hp, by
    rw [List.map_cons, List.nodup_cons]
    exact ⟨fun hm => by
      obtain ⟨p, hp, he⟩ := List.mem_map.1 hm
      have := (h.all p hp).lt
      simp only at he
      omega, h.nd⟩⟩
theorem nodup_inj {L : List (Nat × TypeId × List Value)} (h : (L.map (·.1)).Nodup) {k j : Nat} {p q : Nat × TypeId × List Value} (hk : L[k]? = some p) (hj : L[j]? = some q) (he : p.1 = q.1) : k = j := by
  obtain ⟨h1, e1⟩ := List.getElem?_eq_some_iff.1 hk
  obtain ⟨h2, e2⟩ := List.getElem?_eq_some_iff.1 hj
  by_cases hkj : k = j
  · exact hkj
  · exfalso
    have hne := List.pairwise_iff_getElem.1 h
    rcases Nat.lt_or_gt_of_ne hkj with hlt | hlt
    · exact hne k j (by simpa using h1) (by simpa using h2) hlt (by simp [e1, e2, he])
    · exact hne j k (by simpa using h2) (by simpa using h1) hlt (by simp [e1, e2, he])
/-- A block is written. -/
theorem RB.put {W x x' : World} {r r1 : Rf} {m : MS} {L : List (Nat × TypeId × List Value)} (h : RB W x r r1 m L) (k : Nat) {g : Nat} {t : TypeId} {cs es : List Value} (hk : L[k]? = some (g, t, cs)) (hc : Cel x' g t es) (hb : ButL [g] x x') : RB W x' r r1 m (L.set k (g, t, es)) := by
  have hm := List.mem_of_getElem? hk
  have hn := h.new _ hm
  have hkl : k < L.length := (List.getElem?_eq_some_iff.1 hk).1
  refine ⟨h.st.set hb hn.1 hn.2, fun p hp => ?_, fun p hp => ?_, ?_⟩
  · obtain ⟨j, hj⟩ := List.getElem?_of_mem hp
    by_cases e : k = j
    · subst e
      rw [List.getElem?_set_self hkl] at hj
      obtain rfl := Option.some.inj hj
      exact hc
    · rw [List.getElem?_set_ne e] at hj
      refine (h.get j (show L[j]? = some (p.1, p.2.1, p.2.2) from hj)).but hb ?_
      rw [List.mem_singleton]
      exact fun he => e (nodup_inj h.nd hk hj he.symm)
  · rcases List.mem_or_eq_of_mem_set hp with hp | rfl
    · exact h.new p hp
    · exact hn
  · have : (L.set k (g, t, es)).map (·.1) = L.map (·.1) := by
      rw [List.map_set]
      apply List.ext_getElem?
      intro j
      by_cases e : k = j
      · subst e
        rw [List.getElem?_set_self (by simpa using hkl)]
        simp [hk]
      · rw [List.getElem?_set_ne e]
    rw [this]
    exact h.nd
end Go.Proofs.YteldpapacdbbiaaGreatDoor
