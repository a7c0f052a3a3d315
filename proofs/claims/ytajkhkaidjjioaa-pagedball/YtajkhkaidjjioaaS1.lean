/- The document's frame 69, Pages 82, Births 81, is 100, turns 101, Entry 76, Free 80. -/
import Derived.Test.YtajkhkaidjjioaaS0
namespace Go.Proofs.Ytajkhkaidjjioaa
open Go.RowKit
set_option maxHeartbeats 4000000
set_option maxRecDepth 100000
theorem RDB.rng {w : World} {p : Rp} {d : DS} (h : RDB w p d) (k : Nat) (hk : k < d.m.ns) : w.rangeAt p.ge (k * 5) (d.at k).cs := fun j v hv => by
  have hj : j < 5 := by have := (List.getElem?_eq_some_iff.1 hv).1; simpa [En.cs] using this
  rw [h.e0 k j hk hj, hv]
theorem rframe_any (W : World) (p : Int) : Calls Try.prog 69 #[.int .i64 p] W fun x W' => x = .returned (fr true p) ∧ Below W.heap.size W W' := by
  unfold fr
  go_enter Try.func69, Try.ntmps69
  go_wp2_with fail
  go_returns
  exact ⟨rfl, below_one _ _⟩
theorem rpages_any (W : World) (p : Rp) (d : DS) (h : RDB W p d) : Calls Try.prog 82 #[ptr p.g] W fun x W' => x = .returned (.int .i64 (d.m.ns : Int)) ∧ W = W' := by
  have c1 := h.c1
  have b0 : wrap64 (d.m.ns : Int) = (d.m.ns : Int) := by have := h.ok.n64; unfold wrap64; omega
  clear h
  simp only [ptr] at *
  generalize d.m.ns = n at *
  go_enter Try.func82, Try.ntmps82
  go_wp2_with fail
  go_ret
  exact ⟨rfl, rfl⟩
theorem rbirths_any (W : World) (p : Rp) (d : DS) (h : RDB W p d) : Calls Try.prog 81 #[ptr p.g] W fun x W' => x = .returned (.int .i64 d.b) ∧ W = W' := by
  have c1 := h.c2
  clear h
  simp only [ptr] at *
  go_enter Try.func81, Try.ntmps81
  go_wp2_with fail
  go_ret
  exact ⟨rfl, rfl⟩
theorem rturns_any (W : World) (t : Int) : Calls Try.prog 101 #[.int .i64 t] W fun e W' => e = .returned (.bool (trn t)) ∧ W = W' := by
  unfold trn
  by_cases h4 : t = 4
  · subst h4
    go_enter Try.func101, Try.ntmps101
    go_wp2_with fail
    go_ret
    exact ⟨rfl, rfl⟩
  · by_cases h5 : t = 5
    · subst h5
      go_enter Try.func101, Try.ntmps101
      go_wp2_with fail
      go_ret
      exact ⟨rfl, rfl⟩
    · have q4 : (t == 4) = false := by simpa using h4
      have q5 : (t == 5) = false := by simpa using h5
      rw [q4, q5]
      clear h4 h5
      go_enter Try.func101, Try.ntmps101
      go_wp2_with fail
      go_ret
      exact ⟨rfl, rfl⟩
theorem DS.ent_no {d : DS} {q : Int} (h : d.there q = false) : d.ent q = En.zero := by simp [DS.ent, h]
theorem ris_any (W : World) (p : Rp) (d : DS) (h : RDB W p d) (q t : Int) : Calls Try.prog 100 #[ptr p.g, .int .i64 q, .int .i64 t] W fun e W' => e = .returned (.bool (d.there q && ((d.ent q).t == t))) ∧ W = W' := by
  have c1 := h.c1
  by_cases hq : d.there q = true
  · obtain ⟨q0, q1, eq⟩ := there_lt hq
    rw [hq, ent_at hq]
    obtain ⟨r0, _, _, _, _⟩ := h.row q.toNat q1
    generalize q.toNat = k at *
    subst eq
    generalize (d.at k).t = dt at *
    have q2 : (k : Int) < (d.m.ns : Int) := by omega
    generalize d.m.ns = n at *
    clear h hq
    simp only [ptr, Bool.true_and] at *
    go_enter Try.func100, Try.ntmps100
    go_wp2_with fail
    go_ret
    exact ⟨rfl, rfl⟩
  · have hq' : d.there q = false := by simpa using hq
    rw [hq']
    have hc : q < 0 ∨ (0 ≤ q ∧ (d.m.ns : Int) ≤ q) := by
      have := of_decide_eq_false hq'
      omega
    clear h hq hq'
    simp only [ptr, Bool.false_and] at *
    generalize d.m.ns = n at *
    rcases hc with hc | ⟨h0, hc⟩
    · go_enter Try.func100, Try.ntmps100
      go_wp2_with fail
      go_ret
      exact ⟨rfl, rfl⟩
    · go_enter Try.func100, Try.ntmps100
      go_wp2_with fail
      go_ret
      exact ⟨rfl, rfl⟩
theorem built_zR : Try.prog.built 124 [] = some En.zero.cs.toArray := by kernel_rfl
theorem wpList_build_zR {ops : Array Oper} {rest : List Oper} {o : Oper} {a : Act} {w : World} {Q : Exit → Act → World → Prop} (hgd : o.guard = none) (ho : o.op = .build 124 #[])
    (h : wpList Try.prog ops Q rest (a.put o.dst (.agg En.zero.cs.toArray)) w) : wpList Try.prog ops Q (o :: rest) a w :=
  wpList_build_f hgd 124 _ ho #[] (by simp) _ built_zR h
theorem rentry_any (W : World) (p : Rp) (d : DS) (h : RDB W p d) (q : Int) :
    Calls Try.prog 76 #[ptr p.g, .int .i64 q] W fun x W' => x = .returned (.tuple #[(d.ent q).v, .int .i64 (d.entE q)]) ∧ Below W.heap.size W W' := by
  have B0 := hid (bag_one W 124 En.zero.cs)
  have HX := hid (h.on (below_one W (.cells En.zero.cs.toArray 124)))
  by_cases hq : d.there q = true
  · obtain ⟨q0, q1, eq⟩ := there_lt hq
    have e2 : d.entE q = 0 := by simp [DS.entE, hq]
    rw [e2, ent_at hq]
    have HR := hid (fun w (hw : RDB w p d) => hw.rng q.toNat q1)
    have HC1 := hid (fun w (hw : RDB w p d) => hw.c1)
    generalize q.toNat = k at *
    subst eq
    have q2 : (k : Int) < (d.m.ns : Int) := by omega
    generalize d.at k = D at *
    clear h hq e2
    simp only [ptr, En.v, En.zero, En.cs] at HX B0 ⊢
    go_enter Try.func76, Try.ntmps76
    go_upto_region 1 with fail
    generalize W.alloc _ = X at *
    generalize hg : W.heap.size = g4 at B0 ⊢
    have HG := hid hg
    clear hg
    have c1 := HC1.out _ HX.out
    generalize d.m.ns = n at *
    go_wp2_with (first | (refine wpList_load_mid rfl 124 _ rfl p.ge (k * 5) (by go_simp) _ _ (HR.out _ HX.out) underR rfl (by rw [sizeR]; rfl) ?_) | (refine wpList_store_st rfl 124 _ _ rfl g4 D.cs rfl rfl (B0.out.get 0 rfl) sizeR rfl rfl ?_; intro w4 hc hb hs; have HE := hid (And.intro hc (B0.out.below.trans (hb.below (by have := HG.out; simp; omega) B0.out.below.size))); clear hc hb hs))
    exact ret_st2 rfl rfl g4 _ rfl HE.out.1 underR rfl sizeR ⟨rfl, HE.out.2⟩
  · have hq' : d.there q = false := by simpa using hq
    have e2 : d.entE q = 5 := by simp [DS.entE, hq']
    rw [e2, DS.ent_no hq']
    have c1 := HX.out.c1
    have hc : q < 0 ∨ (0 ≤ q ∧ (d.m.ns : Int) ≤ q) := by
      have := of_decide_eq_false hq'
      omega
    clear h hq hq' e2
    simp only [ptr, En.v, En.zero, En.cs] at HX B0 c1 ⊢
    rcases hc with hc | ⟨h0, hc⟩
    · go_enter Try.func76, Try.ntmps76
      go_upto_region 1 with fail
      generalize W.alloc _ = X at *
      generalize hg : W.heap.size = g4 at B0 ⊢
      have HG := hid hg
      clear hg
      generalize d.m.ns = n at *
      go_wp2_with (first | (refine wpList_build_zR rfl rfl ?_) | (refine wpList_store_st rfl 124 _ _ rfl g4 En.zero.cs rfl rfl (B0.out.get 0 rfl) sizeR rfl rfl ?_; intro w4 hc hb hs; have HE := hid (And.intro hc (B0.out.below.trans (hb.below (by have := HG.out; simp; omega) B0.out.below.size))); clear hc hb hs))
      exact ret_st2 rfl rfl g4 _ rfl HE.out.1 underR rfl sizeR ⟨rfl, HE.out.2⟩
    · go_enter Try.func76, Try.ntmps76
      go_upto_region 1 with fail
      generalize W.alloc _ = X at *
      generalize hg : W.heap.size = g4 at B0 ⊢
      have HG := hid hg
      clear hg
      generalize d.m.ns = n at *
      go_wp2_with (first | (refine wpList_build_zR rfl rfl ?_) | (refine wpList_store_st rfl 124 _ _ rfl g4 En.zero.cs rfl rfl (B0.out.get 0 rfl) sizeR rfl rfl ?_; intro w4 hc hb hs; have HE := hid (And.intro hc (B0.out.below.trans (hb.below (by have := HG.out; simp; omega) B0.out.below.size))); clear hc hb hs))
      exact ret_st2 rfl rfl g4 _ rfl HE.out.1 underR rfl sizeR ⟨rfl, HE.out.2⟩
end Go.Proofs.Ytajkhkaidjjioaa
