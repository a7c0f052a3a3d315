/- Runs in pieces: plain facts; three memories apart. -/
import Derived.Test.YteldpapacdbbiaaGreatDoorCa
import Derived.Test.YteldpapacdbbiaaGreatDoorM4M5M6
import Derived.Test.YteldpapacdbbiaaGreatDoorSf
namespace Go.Proofs.YteldpapacdbbiaaGreatDoor
open Go.RowKit
set_option maxRecDepth 100000
theorem doI_k (m : MS) (l : Int) (f : F) (i : Ins) : (doI m l f i).k ≠ 5 := by
  unfold doI
  split
  · simp
  split
  · split <;> simp
  split
  · simp
  split <;> simp
theorem stp_k (m : MS) (l : Int) (f : F) : (stp m l f).k ≠ 5 := by
  unfold stp
  split
  · split
    · exact doI_k _ _ _ _
    · simp
  · simp
theorem rn_succ (l : Int) (n d : Nat) (m : MS) (f : F) : rn l (n + 1) d m f = if (stp m l f).k = 0 then rn l n (d + 1) (stp m l f).m (stp m l f).f else ⟨(stp m l f).f, (stp m l f).k, (stp m l f).a, d + 1, (stp m l f).m⟩ := rfl
theorem rn_u (l : Int) : ∀ (n d : Nat) (m : MS) (f : F), (rn l n d m f).u ≤ n + d
  | 0, d, m, f => by unfold rn; simp
  | n + 1, d, m, f => by
    unfold rn
    split
    · have := rn_u l n (d + 1) (stp m l f).m (stp m l f).f; omega
    · simp only; omega
theorem rn_stop (l : Int) (b : Nat) : ∀ (n d : Nat) (m : MS) (f : F), (rn l n d m f).k ≠ 5 → rn l (n + b) d m f = rn l n d m f
  | 0, d, m, f, h => by unfold rn at h; exact absurd rfl h
  | n + 1, d, m, f, h => by
    rw [Nat.add_right_comm]
    unfold rn at h ⊢
    split
    · rename_i hk
      rw [if_pos hk] at h
      exact rn_stop l b n (d + 1) _ _ h
    · rfl
theorem rn_go (l : Int) (b : Nat) : ∀ (n d : Nat) (m : MS) (f : F), (rn l n d m f).k = 5 → (rn l n d m f).u = n + d ∧ rn l (n + b) d m f = rn l b (n + d) (rn l n d m f).m (rn l n d m f).f
  | 0, d, m, f, h => by
    rw [Nat.zero_add, Nat.zero_add]
    exact ⟨rfl, rfl⟩
  | n + 1, d, m, f, h => by
    rw [Nat.add_right_comm n 1 b]
    rw [rn_succ l n d m f] at h ⊢
    rw [rn_succ l (n + b) d m f]
    by_cases hk : (stp m l f).k = 0
    · simp only [if_pos hk] at h ⊢
      have := rn_go l b n (d + 1) _ _ h
      rw [show n + (d + 1) = n + 1 + d by omega] at this
      exact this
    · rw [if_neg hk] at h
      exact absurd h (stp_k m l f)
def ROut.sh (o : ROut) (d : Nat) : ROut := { o with u := o.u + d }
theorem rn_sh (l : Int) : ∀ (n d e : Nat) (m : MS) (f : F), rn l n (d + e) m f = (rn l n d m f).sh e
  | 0, d, e, m, f => rfl
  | n + 1, d, e, m, f => by
    unfold rn
    split
    · rw [show d + e + 1 = d + 1 + e by omega]
      exact rn_sh l n (d + 1) e _ _
    · show _ = ROut.mk _ _ _ _ _
      rw [show d + e + 1 = d + 1 + e by omega]
theorem rn_both (l : Int) (a b : Nat) (m : MS) (f : F) (h : (rn l a 0 m f).k = 5) : (rn l a 0 m f).u = a ∧ rn l (a + b) 0 m f = (rn l b 0 (rn l a 0 m f).m (rn l a 0 m f).f).sh a := by
  have := rn_go l b a 0 m f h
  refine ⟨this.1, this.2.trans ?_⟩
  rw [show a + 0 = 0 + a by omega]
  exact rn_sh l b 0 a _ _
theorem rn_U {l : Int} : ∀ (n d : Nat) {m : MS} {f : F}, m.U → f.U → (rn l n d m f).m.U ∧ (rn l n d m f).f.U
  | 0, d, m, f, hm, hf => by unfold rn; exact ⟨hm, hf⟩
  | n + 1, d, m, f, hm, hf => by
    have hs := stp_U hm l hf
    unfold rn
    split
    · exact rn_U n (d + 1) hs.m hs.f
    · exact ⟨hs.m, hs.f⟩
theorem Fp.w_all {f : Fp} {k : Nat} (h : k ∈ f.w) : k ∈ f.all := by simp only [Fp.w, Fp.all, List.mem_cons] at h ⊢; rcases h with h | h <;> simp [h]
/-- Three memories apart, the machine in its box; all of it lies below B. -/
structure T3 (W x : World) (B g3 : Nat) (q : Mq) (fa fb fc : Fp) (ma mb mc : MS) : Prop where
  a : Mem x fa ma
  b : Mem x fb mb
  c : Mem x fc mc
  cq : Cel x g3 28 q.cs
  below : Below W.heap.size W x
  la : ∀ k ∈ fa.all, W.heap.size ≤ k
  lb : ∀ k ∈ fb.all, W.heap.size ≤ k
  lc : ∀ k ∈ fc.all, W.heap.size ≤ k
  ha : ∀ k ∈ fa.all, k < B
  hb : ∀ k ∈ fb.all, k < B
  hc : ∀ k ∈ fc.all, k < B
  ab : ∀ k ∈ fa.all, k ∉ fb.all
  ac : ∀ k ∈ fa.all, k ∉ fc.all
  bc : ∀ k ∈ fb.all, k ∉ fc.all
  qa : g3 ∉ fa.all
  qb : g3 ∉ fb.all
  qc : g3 ∉ fc.all
theorem T3.on {W x x' : World} {B g3 : Nat} {q : Mq} {fa fb fc : Fp} {ma mb mc : MS} (h : T3 W x B g3 q fa fb fc ma mb mc) (k : Below x.heap.size x x') : T3 W x' B g3 q fa fb fc ma mb mc :=
  ⟨h.a.on k, h.b.on k, h.c.on k, h.cq.on k, below_on h.below k, h.la, h.lb, h.lc, h.ha, h.hb, h.hc, h.ab, h.ac, h.bc, h.qa, h.qb, h.qc⟩
theorem T3.sa {W x x' : World} {B g3 : Nat} {q : Mq} {fa fb fc : Fp} {ma mb mc ma' : MS} (h : T3 W x B g3 q fa fb fc ma mb mc) (r : Rd x x' fa ma') : T3 W x' B g3 q fa fb fc ma' mb mc :=
  ⟨r.mem, h.b.frame r.but (fun k hk hw => h.ab k (Fp.w_all hw) hk), h.c.frame r.but (fun k hk hw => h.ac k (Fp.w_all hw) hk), h.cq.but r.but (fun hw => h.qa (Fp.w_all hw)), h.below.trans (r.but.below (fun k hk => h.la k (Fp.w_all hk)) h.below.size), h.la, h.lb, h.lc, h.ha, h.hb, h.hc, h.ab, h.ac, h.bc, h.qa, h.qb, h.qc⟩
theorem T3.sb {W x x' : World} {B g3 : Nat} {q : Mq} {fa fb fc : Fp} {ma mb mc mb' : MS} (h : T3 W x B g3 q fa fb fc ma mb mc) (r : Rd x x' fb mb') : T3 W x' B g3 q fa fb fc ma mb' mc :=
  ⟨h.a.frame r.but (fun k hk hw => h.ab k hk (Fp.w_all hw)), r.mem, h.c.frame r.but (fun k hk hw => h.bc k (Fp.w_all hw) hk), h.cq.but r.but (fun hw => h.qb (Fp.w_all hw)), h.below.trans (r.but.below (fun k hk => h.lb k (Fp.w_all hk)) h.below.size), h.la, h.lb, h.lc, h.ha, h.hb, h.hc, h.ab, h.ac, h.bc, h.qa, h.qb, h.qc⟩
theorem T3.sc {W x x' : World} {B g3 : Nat} {q : Mq} {fa fb fc : Fp} {ma mb mc mc' : MS} (h : T3 W x B g3 q fa fb fc ma mb mc) (r : Rd x x' fc mc') : T3 W x' B g3 q fa fb fc ma mb mc' :=
  ⟨h.a.frame r.but (fun k hk hw => h.ac k hk (Fp.w_all hw)), h.b.frame r.but (fun k hk hw => h.bc k hk (Fp.w_all hw)), r.mem, h.cq.but r.but (fun hw => h.qc (Fp.w_all hw)), h.below.trans (r.but.below (fun k hk => h.lc k (Fp.w_all hk)) h.below.size), h.la, h.lb, h.lc, h.ha, h.hb, h.hc, h.ab, h.ac, h.bc, h.qa, h.qb, h.qc⟩
/-- A variable that lies above all of it is written. -/
theorem T3.put {W x x' : World} {B g3 g : Nat} {q : Mq} {fa fb fc : Fp} {ma mb mc : MS} (h : T3 W x B g3 q fa fb fc ma mb mc) (hB : B ≤ g) (hW : W.heap.size ≤ B) (hq : g3 < B) (r : ButL [g] x x') : T3 W x' B g3 q fa fb fc ma mb mc :=
  ⟨h.a.frame r (fun k hk hw => by have := h.ha k hk; simp at hw; omega), h.b.frame r (fun k hk hw => by have := h.hb k hk; simp at hw; omega), h.c.frame r (fun k hk hw => by have := h.hc k hk; simp at hw; omega), h.cq.but r (by simp; omega), h.below.trans (r.below (by simp; omega) h.below.size), h.la, h.lb, h.lc, h.ha, h.hb, h.hc, h.ab, h.ac, h.bc, h.qa, h.qb, h.qc⟩
theorem Mq.rng {w : World} {g : Nat} {q : Mq} (h : Cel w g 28 q.cs) : w.rangeAt g 4 q.f.cs := fun j v hv => by
  rw [h.cell (4 + j), Mq.cs, List.getElem?_append_right (by simp)]
  simpa using hv
theorem wpList_load_qf {ops : Array Oper} {rest : List Oper} {o : Oper} {a : Act} {w : World} {Q : Exit → Act → World → Prop} (hgd : o.guard = none) (x : Operand) (ho : o.op = .load 26 x)
    (g : Nat) (q : Mq) (hx : a.eval x = .pointer (some ⟨g, 4, none⟩)) (hg : Cel w g 28 q.cs)
    (h : wpList Tryz.prog ops Q rest (a.put o.dst q.f.v) w) : wpList Tryz.prog ops Q (o :: rest) a w :=
  wpList_load_mid hgd 26 x ho g 4 hx _ _ (Mq.rng hg) under27 rfl (by rw [size27, F.len]) h
theorem wpList_load_fg {ops : Array Oper} {rest : List Oper} {o : Oper} {a : Act} {w : World} {Q : Exit → Act → World → Prop} (hw : Region.wanted o (yielded ops a.tmps) = true) (x : Operand) (ho : o.op = .load 26 x)
    (g : Nat) {t : TypeId} (f : F) (hx : a.eval x = .pointer (some ⟨g, 0, none⟩)) (hg : Cel w g t f.cs)
    (h : wpList Tryz.prog ops Q rest (a.put o.dst f.v) w) : wpList Tryz.prog ops Q (o :: rest) a w := by
  rw [wpList, if_pos hw]
  exact .inl (wp_load_mid 26 x ho g 0 hx _ _ hg.range under27 rfl (by rw [size27, F.len]) h)
theorem exec_eql_f {a : Act} {w : World} {o : Oper} (x y : Operand) (ho : o.op = .binOp .eql 26 x y 26) (f g : F) (hx : a.eval x = f.v) (hy : a.eval y = g.v) (b : Bool) (hb : f.same g = b) :
    (execOp a.eval o).run Tryz.prog w = .ok (.value (.bool b)) w := by
  have hg : (eqGuard .eql 26 x y f.v g.v).run Tryz.prog w = .ok () w := run_eqGuard_agg w .eql 26 x y _ _ guard27
  have hr : (binOp .eql 26 f.v g.v).run Tryz.prog w = .ok (.bool (f.same g)) w := by
    have := run_equalIn_f w 9996 f g
    rw [F.v, F.v] at this ⊢
    rw [run_eql_struct, this]; rfl
  unfold execOp
  simp only [ho, hx, hy, Sem.run_bind, Sem.run_pure, hg, hr, Result.andThen_ok, hb]
theorem wpList_eql_fg {ops : Array Oper} {rest : List Oper} {o : Oper} {a : Act} {w : World} {Q : Exit → Act → World → Prop} (hw : Region.wanted o (yielded ops a.tmps) = true) (x y : Operand) (ho : o.op = .binOp .eql 26 x y 26)
    (f g : F) (hx : a.eval x = f.v) (hy : a.eval y = g.v) (b : Bool) (hb : f.same g = b)
    (h : wpList Tryz.prog ops Q rest (a.put o.dst (.bool b)) w) : wpList Tryz.prog ops Q (o :: rest) a w := by
  rw [wpList, if_pos hw]
  refine .inl ?_
  unfold Oper.wp
  rw [exec_eql_f x y ho f g hx hy b hb]
  exact h
theorem wpList_fa4 {ops : Array Oper} {rest : List Oper} {o : Oper} {a : Act} {w : World} {Q : Exit → Act → World → Prop} (hgd : o.guard = none) (x : Operand) (ho : o.op = .fieldAddr 28 x 4)
    (g : Nat) (hx : a.eval x = .pointer (some ⟨g, 0, none⟩))
    (h : wpList Tryz.prog ops Q rest (a.put o.dst (.pointer (some ⟨g, 4, none⟩))) w) : wpList Tryz.prog ops Q (o :: rest) a w := by
  refine wpList_plain hgd fun K hK => ?_
  unfold Oper.wp execOp
  simp only [ho, hx]
  go_simp
  exact hK _ _ h
end Go.Proofs.YteldpapacdbbiaaGreatDoor
