/- mapped's closure 70. -/
import Derived.Test.YtgbpbfnpeeciaaaIt1It2It3It4
namespace Go.Proofs.Ytgbpbfnpeeciaaa
open Go.RowKit Go.Shelf
set_option maxHeartbeats 8000000
set_option maxRecDepth 100000
attribute [local go_sem] Oper.semAt_some
theorem inn_len (m : MS) (i p : Int) : ∀ j, (m.inn i p j).length ≤ j
  | 0 => by simp [MS.inn]
  | j + 1 => by
    rw [MS.inn, List.length_append]
    have := inn_len m i p j
    split <;> simp <;> omega
theorem lst_len (m : MS) (l1 : Int) : ∀ i, (m.lst l1 i).length ≤ i * 1024
  | 0 => by simp [MS.lst]
  | i + 1 => by
    rw [MS.lst, List.length_append]
    have := lst_len m l1 i
    split
    · have := inn_len m (i : Int) (m.f1 l1 (i : Int)) 1024; omega
    · simp; omega
def busyOf (r : Loop) : Loop := { r with state := .busy }
theorem yield_b {n l : Nat} {r : Loop} {args : Array Value} {W : World} {R : Ending → World → Prop} (hl : Ob W l (.loop r)) (hst : r.state = .ready) (hp : r.pending = none) (hs : args.size = r.params.size)
    (h : r.assign.wpIn (Fence.wide.inRound l) n Try.prog (Exit.then (fun a₁ w₁ => Ob w₁ l (.loop r) ∧ r.body.wpIn (Fence.wide.inRound l) n Try.prog (fun e _ w₃ => e = .normal ∧ Ob w₃ l (.loop (busyOf r)) ∧ R (.returned (.bool true)) (w₃.putObj l (.loop r))) a₁ (w₁.putObj l (.loop (busyOf r)))) (fun _ _ _ => False))
      { tmps := (r.params.zip args).foldl (fun t (p, v) => t.setIfInBounds p v) r.tmps, defers := [] } W) : YieldAt .wide n Try.prog l args W R := yield_of trivial hl hst hp hs h
theorem map70_in (n l0 bm bl : Nat) (f : Fp) (m : MS) (hU : m.U) (l1 : Int) (B : World) (J0 : List (Int × Mp) → Int → World → Prop)
    (hJ : ∀ A c W, J0 A c W → Mem W f (m.wc c) ∧ W.cell? ⟨bm, 0, none⟩ = some (.pointer (some ⟨f.gm, 0, none⟩)) ∧ W.cell? ⟨bl, 0, none⟩ = some (.int .i64 l1))
    (hSt : ∀ A c c' W W', J0 A c W → St B.heap.size f W W' → Mem W' f (m.wc c') → J0 A c' W')
    (hY : ∀ A c W va q, A.length < 262144 → J0 A c W → YieldAt .wide 0 Try.prog l0 #[.int .u32 va, Mp.v q] W fun e W'' => e = .returned (.bool true) ∧ J0 (A ++ [(va, q)]) c W'' ∧ Kq B.heap.size W W'')
    (c0 : Int) (h0 : J0 [] c0 B) :
    CallsIn .wide n Try.prog 84 #[.func (.yield l0) #[] #[], .pointer (some ⟨bm, 0, none⟩), .pointer (some ⟨bl, 0, none⟩)] B fun e W' => (∃ v, e = .returned v) ∧ J0 (m.lst l1 256) (m.cn1 l1 c0 256) W' := by
  have hlt := (hJ _ _ _ h0).1.lt
  have hfw : ∀ k, B.heap.size ≤ k → k ∉ f.w := fun k hk hm => by
    have := hlt k (by simp only [Fp.w, Fp.all, List.mem_cons] at hm ⊢; rcases hm with h | h <;> simp [h])
    omega
  have HB1 := hid (below_one B (.cells #[.func (.yield l0) #[] #[]] 154))
  have HJ1 : Hid (J0 [] c0 (B.alloc (.cells #[.func (.yield l0) #[] #[]] 154))) := hid (hSt [] c0 c0 B _ h0 ((St.refl _ _ _).on HB1.out) ((hJ _ _ _ h0).1.on HB1.out))
  have HY0 : Hid (Ob (B.alloc (.cells #[.func (.yield l0) #[] #[]] 154)) B.heap.size (box (.func (.yield l0) #[] #[]) 154)) := hid (heap_alloc_new _ _)
  have HXs : Hid ((B.alloc (.cells #[.func (.yield l0) #[] #[]] 154)).heap.size = B.heap.size + 1) := hid (World.size_alloc _ _)
  obtain ⟨_, k1, k2⟩ := hJ _ _ _ HJ1.out
  refine callsIn_of_wp_marks Try.func84 rfl trivial ?_ rfl
  simp only [Try.ntmps84, List.size_toArray, List.length_cons, List.length_nil, Nat.reduceAdd, Nat.reduceSub, Array.replicate_succ, Array.replicate_zero, List.push_toArray, List.append_toArray, List.nil_append, List.cons_append]
  gi_wp2
  refine ⟨trivial, (fun h => by cases h), CallsIn.mono (callsIn_wide.2 (entries1_any _ _ _)) ?_⟩
  rintro x w1 ⟨bw, bm5, bt, bp, bf, rfl, hfb⟩
  have HFB := hid hfb
  clear hfb k1 k2
  gi_wp2
  generalize hX : B.alloc _ = X at *
  clear hX
  refine range_out rfl rfl (gf := 100) (lb := #[.pointer (some ⟨bw, 0, none⟩), .pointer (some ⟨bm5, 0, none⟩), .pointer (some ⟨bt, 0, none⟩), .pointer (some ⟨bp, 0, none⟩), .pointer (some ⟨bf, 0, none⟩)]) rfl trivial (enters_of Try.func100 (by kernel_rfl) rfl) ?_
  intro fn hfn
  generalize hr1 : recOf fn _ _ _ _ _ = r1
  have hs1 : B.heap.size + 1 ≤ w1.heap.size := by have := HFB.out.below.size; rw [HXs.out] at this; exact this
  have HW1 : Hid (Below w1.heap.size w1 ((w1.alloc (.deferred (some []))).alloc (.loop r1))) := hid (below_on (below_one _ _) (below_one _ _))
  have HD1 : Hid (Ob ((w1.alloc (.deferred (some []))).alloc (.loop r1)) w1.heap.size (.deferred (some []))) := hid (Ob.on (heap_alloc_new w1 _) (below_one _ _))
  have HL1 : Hid (Ob ((w1.alloc (.deferred (some []))).alloc (.loop r1)) (w1.heap.size + 1) (.loop r1)) := by
    have := heap_alloc_new (w1.alloc (.deferred (some []))) (.loop r1)
    rw [World.size_alloc] at this
    exact hid this
  generalize hW1 : (w1.alloc (.deferred (some []))).alloc (.loop r1) = W1 at *
  clear hW1
  obtain ⟨base, hbase⟩ : ∃ l : List (Nat × Obj), l = [(B.heap.size, box (.func (.yield l0) #[] #[]) 154), (bw, box (.int .i64 ((256 : Nat) : Int)) 3), (bm5, box (.pointer (some ⟨f.gm, 0, none⟩)) 65), (bt, box (.int .i64 l1) 3), (bp, box (.func (.func 51) #[] #[]) 119), (bf, box (.func (.func 47) #[] #[]) 109), (w1.heap.size, .deferred (some []))] := ⟨_, rfl⟩
  have hOk : Okl B.heap.size f base := by
    obtain ⟨l1', l2', l3', l4', l5'⟩ := HFB.out.lo
    rw [HXs.out] at l1' l2' l3' l4' l5'
    rw [hbase]
    intro p hp
    simp only [List.mem_cons, List.not_mem_nil, or_false] at hp
    rcases hp with rfl | rfl | rfl | rfl | rfl | rfl | rfl
    · exact ⟨Nat.le_refl _, rfl, hfw _ (Nat.le_refl _)⟩
    · exact ⟨by simp only; omega, rfl, hfw _ (by simp only; omega)⟩
    · exact ⟨by simp only; omega, rfl, hfw _ (by simp only; omega)⟩
    · exact ⟨by simp only; omega, rfl, hfw _ (by simp only; omega)⟩
    · exact ⟨by simp only; omega, rfl, hfw _ (by simp only; omega)⟩
    · exact ⟨by simp only; omega, rfl, hfw _ (by simp only; omega)⟩
    · exact ⟨by simp only; omega, rfl, hfw _ (by simp only; omega)⟩
  have hObs : Obs W1 base := by
    rw [hbase]
    intro p hp
    simp only [List.mem_cons, List.not_mem_nil, or_false] at hp
    rcases hp with rfl | rfl | rfl | rfl | rfl | rfl | rfl
    · exact (HY0.out.on HFB.out.below).on HW1.out
    · exact HFB.out.w.on HW1.out
    · exact HFB.out.m.on HW1.out
    · exact HFB.out.t.on HW1.out
    · exact HFB.out.p.on HW1.out
    · exact HFB.out.f.on HW1.out
    · exact HD1.out
  have hx : ∀ W, Obs W base → Ob W (B.heap.size) (box (.func (.yield l0) #[] #[]) 154) ∧ Ob W (bw) (box (.int .i64 ((256 : Nat) : Int)) 3) ∧ Ob W (bm5) (box (.pointer (some ⟨f.gm, 0, none⟩)) 65) ∧ Ob W (bt) (box (.int .i64 l1) 3) ∧ Ob W (bp) (box (.func (.func 51) #[] #[]) 119) ∧ Ob W (bf) (box (.func (.func 47) #[] #[]) 109) ∧ Ob W (w1.heap.size) (.deferred (some [])) := fun W h => by
    rw [hbase] at h
    exact ⟨h (B.heap.size, box (.func (.yield l0) #[] #[]) 154) (by simp), h (bw, box (.int .i64 ((256 : Nat) : Int)) 3) (by simp), h (bm5, box (.pointer (some ⟨f.gm, 0, none⟩)) 65) (by simp), h (bt, box (.int .i64 l1) 3) (by simp), h (bp, box (.func (.func 51) #[] #[]) 119) (by simp), h (bf, box (.func (.func 47) #[] #[]) 109) (by simp), h (w1.heap.size, .deferred (some [])) (by simp)⟩
  have hneL : ∀ (W : World) (l : Nat) (r : Loop), Obs W base → Ob W l (.loop r) → ∀ p ∈ base, p.1 ≠ l := fun W l r h hl p hp e => by
    have h1 := h p hp
    rw [e] at h1
    unfold Ob at h1 hl
    rw [hl] at h1
    rw [hbase] at hp
    simp only [List.mem_cons, List.not_mem_nil, or_false] at hp
    rcases hp with rfl | rfl | rfl | rfl | rfl | rfl | rfl <;> cases h1
  clear hbase
  have HJW : Hid (J0 [] c0 W1) := hid (hSt [] c0 c0 _ _ HJ1.out (((St.refl _ _ _).on HFB.out.below).on HW1.out) (((hJ _ _ _ HJ1.out).1.on HFB.out.below).on HW1.out))
  refine CallsIn.mono (ent1_in (n - 1) (w1.heap.size + 1) bw bm5 bt bp bf f m hU l1 256 (by decide) (fun k c W => c = m.cn1 l1 c0 k ∧ J0 (m.lst l1 k) c W ∧ Obs W base ∧ Ob W (w1.heap.size + 1) (.loop r1)) ?hJ1 ?hS1 W1 c0 ⟨rfl, HJW.out, hObs, HL1.out⟩) ?post
  case hJ1 =>
    rintro k c W ⟨rfl, hj, ho, hl⟩
    obtain ⟨_, o1, o2, o3, o4, o5, _⟩ := hx W ho
    exact ⟨(hJ _ _ _ hj).1, o1.cell, o2.cell, o3.cell, o4.cell, o5.cell⟩
  case post =>
    rintro e W2 ⟨⟨v, rfl⟩, c, rfl, hj, ho, hl⟩
    refine ⟨⟨v, rfl⟩, hl, ?_⟩
    have hd : Ob W2 w1.heap.size (.deferred (some [])) := (hx W2 ho).2.2.2.2.2.2
    have hd2 : Ob (W2.putObj (w1.heap.size + 1) (.loop { r1 with state := .exhausted })) w1.heap.size (.deferred (some [])) := (World.putObj_heap_other (by omega)).trans hd
    gi_wp2
    refine ⟨by simp, .inl ⟨_, _, rfl, run_takeDeferred hd2, ?_⟩⟩
    refine ⟨_, results_none rfl _ _ _, ⟨_, rfl⟩, ?_⟩
    exact hSt _ _ _ _ _ hj (((St.refl _ _ _).put (by omega) hl rfl _).put (by omega) hd2 rfl _) (((hJ _ _ _ hj).1.putO hl rfl _).putO hd2 rfl _)
  case hS1 =>
    rintro k c W W' hk ⟨rfl, hj, ho, hl⟩ hm' hb'
    have hj' : J0 (m.lst l1 k) ((m.wc (m.cn1 l1 c0 k)).read true l1 (k : Int)).c W' := hSt _ _ _ _ _ hj (St.of hb') (by rw [← MS.wc_read]; exact hm')
    have ho' := ho.mem hb' hOk
    have hl' : Ob W' (w1.heap.size + 1) (.loop r1) := (hb'.block _ hl.lt (hfw _ (by omega))).trans hl
    by_cases he : m.f1E l1 (k : Int) = 0
    · rw [if_pos he]
      generalize hp : m.f1 l1 (k : Int) = p at *
      refine yield_b (r := r1) hl' (by rw [← hr1]; rfl) (by rw [← hr1]; rfl) (by rw [← hr1]; rfl) ?_
      rw [← congrArg Loop.assign hr1, ← congrArg Loop.body hr1, ← congrArg Loop.params hr1, ← congrArg Loop.tmps hr1]
      dsimp only [recOf]
      have hX2 := below_one W' (.cells #[.int .i64 (k : Int)] 3)
      have hbi : Ob (W'.alloc (.cells #[.int .i64 (k : Int)] 3)) W'.heap.size (box (.int .i64 (k : Int)) 3) := heap_alloc_new _ _
      gi_wp2
      refine ⟨hl'.on hX2, ?_⟩
      have hj2 := hSt _ _ _ _ _ hj' ((St.refl _ _ _).on hX2) ((hJ _ _ _ hj').1.on hX2)
      have ho2 := ho'.on hX2
      have hl2 := hl'.on hX2
      have hbn : W'.heap.size ≠ w1.heap.size + 1 := by have := hl'.lt; omega
      have hbB : B.heap.size ≤ W'.heap.size := by have := hl'.lt; omega
      generalize W'.alloc _ = X2 at *
      have hj3 := hSt _ _ _ _ _ hj2 ((St.refl _ _ _).put (by omega) hl2 rfl (.loop (busyOf r1))) ((hJ _ _ _ hj2).1.putO hl2 rfl (.loop (busyOf r1)))
      have ho3 := ho2.put (.loop (busyOf r1)) (hneL X2 _ r1 ho2 hl2)
      have hl3 := hl2.put (.loop (busyOf r1))
      have hbi3 : Ob (X2.putObj (w1.heap.size + 1) (.loop (busyOf r1))) W'.heap.size (box (.int .i64 (k : Int)) 3) := (World.putObj_heap_other hbn).trans hbi
      generalize X2.putObj (w1.heap.size + 1) (.loop (busyOf r1)) = Xb at *
      obtain ⟨_, k1, _⟩ := hJ _ _ _ hj3
      have HJ3 := hid hj3
      have HO3 := hid ho3
      have HL3 := hid hl3
      have HBI3 := hid hbi3
      have HBN := hid hbn
      have HBB := hid hbB
      clear hj hj' hj2 ho ho' ho2 hl hl' hl2 hb' hm' hX2 hbi hj3 ho3 hl3 hbi3 hbn hbB
      gi_wp2
      refine ⟨trivial, (fun h => by cases h), CallsIn.mono (CallsIn.inRound _ (callsIn_wide.2 (entries2_any _ _ _))) ?_⟩
      rintro x w2 ⟨bw2, bm2, bt2, bp2, bf2, rfl, hfb2⟩
      have HFB2 := hid hfb2
      have HL2 := hid (HL3.out.on hfb2.below)
      clear hfb2 k1
      gi_wp2
      refine range_in (l₀ := w1.heap.size + 1) (r₀ := busyOf r1) rfl HL2.out rfl (gf := 101) (lb := #[.pointer (some ⟨bw2, 0, none⟩), .pointer (some ⟨bm2, 0, none⟩), .pointer (some ⟨bt2, 0, none⟩), .pointer (some ⟨bp2, 0, none⟩), .pointer (some ⟨bf2, 0, none⟩)]) rfl trivial (enters_of Try.func101 (by kernel_rfl) rfl) ?_
      intro fn2 hfn2
      generalize hr2 : recOf fn2 _ _ _ _ _ = r2
      have hsz2 : Xb.heap.size ≤ w2.heap.size := HFB2.out.below.size
      have hb3 := below_one w2 (.loop r2)
      have hL2 : Ob (w2.alloc (.loop r2)) w2.heap.size (.loop r2) := heap_alloc_new _ _
      have hXL : W'.heap.size < Xb.heap.size := HBI3.out.lt
      have hXL1 : w1.heap.size + 1 < Xb.heap.size := HL3.out.lt
      generalize w2.alloc (.loop r2) = W3 at *
      obtain ⟨b2l, hb2l⟩ : ∃ l : List (Nat × Obj), l = [(W'.heap.size, box (.int .i64 (k : Int)) 3), (bw2, box (.int .i64 ((1024 : Nat) : Int)) 3), (bm2, box (.pointer (some ⟨f.gm, 0, none⟩)) 65), (bt2, box (.int .i64 p) 3), (bp2, box (.func (.func 53) #[] #[]) 121), (bf2, box (.func (.func 54) #[] #[]) 122), (w1.heap.size + 1, .loop (busyOf r1))] := ⟨_, rfl⟩
      have hOk2 : Okl B.heap.size f b2l := by
        obtain ⟨l1', l2', l3', l4', l5'⟩ := HFB2.out.lo
        have hbb := HBB.out
        rw [hb2l]
        intro q hq
        simp only [List.mem_cons, List.not_mem_nil, or_false] at hq
        rcases hq with rfl | rfl | rfl | rfl | rfl | rfl | rfl
        all_goals exact ⟨by simp only; omega, rfl, hfw _ (by simp only; omega)⟩
      have hObs2 : Obs W3 b2l := by
        rw [hb2l]
        intro q hq
        simp only [List.mem_cons, List.not_mem_nil, or_false] at hq
        rcases hq with rfl | rfl | rfl | rfl | rfl | rfl | rfl
        · exact (HBI3.out.on HFB2.out.below).on hb3
        · exact HFB2.out.w.on hb3
        · exact HFB2.out.m.on hb3
        · exact HFB2.out.t.on hb3
        · exact HFB2.out.p.on hb3
        · exact HFB2.out.f.on hb3
        · exact HL2.out.on hb3
      have hx2 : ∀ W, Obs W b2l → Ob W (W'.heap.size) (box (.int .i64 (k : Int)) 3) ∧ Ob W (bw2) (box (.int .i64 ((1024 : Nat) : Int)) 3) ∧ Ob W (bm2) (box (.pointer (some ⟨f.gm, 0, none⟩)) 65) ∧ Ob W (bt2) (box (.int .i64 p) 3) ∧ Ob W (bp2) (box (.func (.func 53) #[] #[]) 121) ∧ Ob W (bf2) (box (.func (.func 54) #[] #[]) 122) ∧ Ob W (w1.heap.size + 1) (.loop (busyOf r1)) := fun W h => by
        rw [hb2l] at h
        exact ⟨h (W'.heap.size, box (.int .i64 (k : Int)) 3) (by simp), h (bw2, box (.int .i64 ((1024 : Nat) : Int)) 3) (by simp), h (bm2, box (.pointer (some ⟨f.gm, 0, none⟩)) 65) (by simp), h (bt2, box (.int .i64 p) 3) (by simp), h (bp2, box (.func (.func 53) #[] #[]) 121) (by simp), h (bf2, box (.func (.func 54) #[] #[]) 122) (by simp), h (w1.heap.size + 1, .loop (busyOf r1)) (by simp)⟩
      have hneL2 : ∀ (W : World) {r : Loop}, Obs W b2l → Ob W w2.heap.size (.loop r) → ∀ q ∈ b2l, q.1 ≠ w2.heap.size := fun W r h hl q hq e => by
        have h1 := h q hq
        rw [e] at h1
        unfold Ob at h1 hl
        rw [hl] at h1
        rw [hb2l] at hq
        simp only [List.mem_cons, List.not_mem_nil, or_false] at hq
        rcases hq with rfl | rfl | rfl | rfl | rfl | rfl | rfl
        all_goals first | (cases h1; done) | (simp only at e; omega)
      clear hb2l
      have hObs3 : Obs W3 base := (HO3.out.on HFB2.out.below).on hb3
      have HJ4 : Hid (J0 (m.lst l1 k ++ m.inn (k : Int) p 0) ((m.wc (m.cn1 l1 c0 k)).read true l1 (k : Int)).c W3) := hid (by
        rw [MS.inn, List.append_nil]
        exact hSt _ _ _ _ _ HJ3.out (((St.refl _ _ _).on HFB2.out.below).on hb3) (((hJ _ _ _ HJ3.out).1.on HFB2.out.below).on hb3))
      refine CallsIn.mono (CallsIn.inRound _ (ent2_in (n - 1 - 1 - 1) w2.heap.size bw2 bm2 bt2 bp2 bf2 f m hU p 1024 (by decide) (fun j c W => c = m.cn2 p ((m.wc (m.cn1 l1 c0 k)).read true l1 (k : Int)).c j ∧ J0 (m.lst l1 k ++ m.inn (k : Int) p j) c W ∧ Obs W base ∧ Obs W b2l ∧ Ob W w2.heap.size (.loop r2)) ?hJ2 ?hS2 W3 _ ⟨rfl, HJ4.out, hObs3, hObs2, hL2⟩)) ?post2
      case hJ2 =>
        rintro j c W ⟨rfl, hj, _, ho, _⟩
        obtain ⟨_, o1, o2, o3, o4, o5, _⟩ := hx2 W ho
        exact ⟨(hJ _ _ _ hj).1, o1.cell, o2.cell, o3.cell, o4.cell, o5.cell⟩
      case post2 =>
        rintro e W5 ⟨⟨v, rfl⟩, c, rfl, hj, hob, ho, hl⟩
        refine ⟨⟨v, rfl⟩, hl, ?_⟩
        have hl1 : Ob W5 (w1.heap.size + 1) (.loop (busyOf r1)) := (hx2 W5 ho).2.2.2.2.2.2
        have hne : w1.heap.size + 1 ≠ w2.heap.size := by omega
        have hj6 := hSt _ _ _ _ _ hj ((St.refl _ _ _).put (by have := HBB.out; omega) hl rfl (.loop { r2 with state := .exhausted })) ((hJ _ _ _ hj).1.putO hl rfl (.loop { r2 with state := .exhausted }))
        have hob6 := hob.put (.loop { r2 with state := .exhausted }) (hneL W5 _ r2 hob hl)
        have hl6 : Ob (W5.putObj w2.heap.size (.loop { r2 with state := .exhausted })) (w1.heap.size + 1) (.loop (busyOf r1)) := (World.putObj_heap_other hne).trans hl1
        have hj7 := hSt _ _ _ _ _ hj6 ((St.refl _ _ _).put (by omega) hl6 rfl (.loop r1)) ((hJ _ _ _ hj6).1.putO hl6 rfl (.loop r1))
        have hob7 := hob6.put (.loop r1) (hneL _ _ _ hob6 hl6)
        have hl7 := hl6.put (.loop r1)
        gi_wp2
        rw [MS.lst, MS.cn1, if_pos he, if_pos he, hp]
        exact hj7
      case hS2 =>
        rintro j c W Wn hjk ⟨rfl, hj, hob, ho, hl⟩ hm' hb'
        have hj' := hSt _ _ ((m.wc (m.cn2 p ((m.wc (m.cn1 l1 c0 k)).read true l1 (k : Int)).c j)).read true p (j : Int)).c _ _ hj (St.of hb') (by rw [← MS.wc_read]; exact hm')
        have hob' := hob.mem hb' hOk
        have ho' := ho.mem hb' hOk2
        have hl' : Ob Wn w2.heap.size (.loop r2) := (hb'.block _ hl.lt (hfw _ (by have := HBB.out; omega))).trans hl
        by_cases he2 : m.f2E p (j : Int) = 0
        · rw [if_pos he2]
          have hinn : m.inn (k : Int) p (j + 1) = m.inn (k : Int) p j ++ [(jW (k : Int) (j : Int) 0, m.f2 p (j : Int))] := by rw [MS.inn, if_pos he2]
          generalize m.f2 p (j : Int) = q at *
          refine yield_b (r := r2) hl' (by rw [← hr2]; rfl) (by rw [← hr2]; rfl) (by rw [← hr2]; rfl) ?_
          rw [← congrArg Loop.assign hr2, ← congrArg Loop.body hr2, ← congrArg Loop.params hr2, ← congrArg Loop.tmps hr2]
          dsimp only [recOf]
          have hX := below_one Wn (.cells #[.bool q.s, .int .i64 q.p, .bool q.wr, .bool q.ex] 49)
          have hc7 : Ob (Wn.alloc (.cells #[.bool q.s, .int .i64 q.p, .bool q.wr, .bool q.ex] 49)) Wn.heap.size (.cells #[.bool q.s, .int .i64 q.p, .bool q.wr, .bool q.ex] 49 (0, 0)) := heap_alloc_new _ _
          unfold Mp.v
          gi_wp2
          refine ⟨hl'.on hX, ?_⟩
          have hjX := hSt _ _ _ _ _ hj' ((St.refl _ _ _).on hX) ((hJ _ _ _ hj').1.on hX)
          have hobX := hob'.on hX
          have hoX := ho'.on hX
          have hlX := hl'.on hX
          have hcn : Wn.heap.size ≠ w2.heap.size := by have := hl'.lt; omega
          generalize Wn.heap.size = b7 at *
          generalize Wn.alloc _ = Y0 at *
          have hjY := hSt _ _ _ _ _ hjX ((St.refl _ _ _).put (by have := HBB.out; omega) hlX rfl (.loop (busyOf r2))) ((hJ _ _ _ hjX).1.putO hlX rfl (.loop (busyOf r2)))
          have hobY := hobX.put (.loop (busyOf r2)) (hneL _ _ _ hobX hlX)
          have hoY : Obs (Y0.putObj w2.heap.size (.loop (busyOf r2))) b2l := hoX.put (.loop (busyOf r2)) (hneL2 _ hoX hlX)
          have hlY := hlX.put (.loop (busyOf r2))
          have hcY : Cel (Y0.putObj w2.heap.size (.loop (busyOf r2))) b7 49 [.bool q.s, .int .i64 q.p, .bool q.wr, .bool q.ex] := (World.putObj_heap_other hcn).trans hc7
          generalize Y0.putObj w2.heap.size (.loop (busyOf r2)) = Y at *
          obtain ⟨d0, d1, d2, d3⟩ := cel4 hcY
          have y1 := (hx2 Y hoY).1.cell
          have y2 := (hx Y hobY).1.cell
          have HJY := hid hjY
          have HOBY := hid hobY
          have HOY := hid hoY
          have HLY := hid hlY
          clear hj hj' hjX hjY hob hob' hobX hobY ho ho' hoX hoY hl hl' hlX hlY hb' hm' hX hc7 hcY
          gi_wp2
          refine ⟨trivial, (fun h => by cases h), CallsIn.mono (CallsIn.inRound _ (callsIn_wide.2 (join_any _ _ _ _))) ?_⟩
          rintro x wx ⟨rfl, rfl⟩
          obtain ⟨fn0, tmps0, assign0, body0, hy, hR⟩ := hY _ _ _ (jW (k : Int) (j : Int) 0) q (by rw [List.length_append]; have := lst_len m l1 k; have := inn_len m (k : Int) p j; omega) HJY.out
          have HR := hid hR
          clear hR
          unfold Mp.v at hy
          gi_wp2
          refine ⟨(fun h => by cases h), RoundIn.mono (show RoundIn (Fence.wide.inRound w2.heap.size) _ _ _ _ _ _ _ _ _ from ⟨HR.out.1, fun c cs _ => HR.out.2 c cs (room_wide _)⟩) ?_⟩
          rintro x Z ⟨rfl, hjZ, hkq⟩
          have hobZ := HOBY.out.kq hkq hOk
          have hoZ := HOY.out.kq hkq hOk2
          have hlZ := hkq.keep _ _ (by have := HBB.out; omega) HLY.out rfl
          have hjF := hSt _ _ _ _ _ hjZ ((St.refl _ _ _).put (by have := HBB.out; omega) hlZ rfl (.loop r2)) ((hJ _ _ _ hjZ).1.putO hlZ rfl (.loop r2))
          have hobF := hobZ.put (.loop r2) (hneL _ _ _ hobZ hlZ)
          have hoF := hoZ.put (.loop r2) (hneL2 _ hoZ hlZ)
          have hlF := hlZ.put (.loop r2)
          rw [List.append_assoc] at hjF
          clear d0 d1 d2 d3 y1 y2 hy HR
          gi_wp2
          exact hjF
        · rw [if_neg he2]
          refine ⟨by rw [MS.cn2], ?_, hob', ho', hl'⟩
          rw [MS.inn, if_neg he2, List.append_nil]
          exact hj'
    · rw [if_neg he]
      refine ⟨by rw [MS.cn1, if_neg he], ?_, ho', hl'⟩
      rw [MS.lst, if_neg he, List.append_nil]
      exact hj'
end Go.Proofs.Ytgbpbfnpeeciaaa
