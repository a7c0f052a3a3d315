/- Files of the document's compared; both memories beside more boxes; a run with any fuel. -/
import Derived.Test.YteldpapacdbbiaaGreatDoorF3
import Derived.Test.YteldpapacdbbiaaGreatDoorE9r
namespace Go.Proofs.YteldpapacdbbiaaGreatDoor
open Go.RowKit
set_option maxHeartbeats 8000000
set_option maxRecDepth 100000
theorem fields34 : (Tryz.prog.fieldsOf 34).toList.map (fun f => (f.name, f.type, f.offset)) = [("R", 24, 0), ("PC", 23, 15), ("Z", 4, 16), ("N", 4, 17), ("L", 4, 18)] := by kernel_rfl
theorem run_equalIn_g (w : World) (d : Nat) (f g : F) : (Op.equalIn (d + 4) 34 f.v g.v).run Tryz.prog w = .ok (f.same g) w := by
  rw [F.v, F.v, run_equalIn_struct w (d + 3) 34 _ _ under25 (by kernel_rfl)]
  have h := fields34
  generalize (Tryz.prog.fieldsOf 34).toList = L at h ⊢
  have hl : L.length = 5 := by have := congrArg List.length h; simpa using this
  match L, hl with
  | [f1, f2, f3, f4, f5], _ =>
    simp only [List.map_cons, List.map_nil, List.cons.injEq, Prod.mk.injEq, and_true] at h
    obtain ⟨⟨a1, a2, a3⟩, ⟨b1, b2, b3⟩, ⟨c1, c2, c3⟩, ⟨d1, d2, d3⟩, e1, e2, e3⟩ := h
    have e22 := fun (x y : Int) => run_equalIn_int (P := Tryz.prog) w (d + 2) 23 .u32 .u32 x y under22
    have e4 := fun (x y : Bool) => run_equalIn_bool' (P := Tryz.prog) w (d + 2) 4 x y under4
    have e23 := run_equalIn_rs w (d + 1) f.r g.r
    simp only [Op.eqFields, a1, a2, a3, b1, b2, b3, c1, c2, c3, d1, d2, d3, e1, e2, e3, Sem.run_bind, part_r, part_i w f 15 _ f.at15, part_i w g 15 _ g.at15, part_b w f 16 _ f.at16, part_b w g 16 _ g.at16, part_b w f 17 _ f.at17, part_b w g 17 _ g.at17, part_b w f 18 _ f.at18, part_b w g 18 _ g.at18, Result.andThen_ok, e22, e4, e23, Sem.run_ite, Sem.run_pure]
    unfold F.same
    cases sameR f.r g.r <;> cases (f.pc == g.pc) <;> cases (f.z == g.z) <;> cases (f.n == g.n) <;> cases (f.l == g.l) <;> rfl
theorem guard34 : Tryz.prog.eqGuardType Tryz.prog.depth 34 = false := by kernel_rfl
theorem exec_neq_g {a : Act} {w : World} {o : Oper} (x y : Operand) (ho : o.op = .binOp .neq 34 x y 34) (f g : F) (hx : a.eval x = f.v) (hy : a.eval y = g.v) (b : Bool) (hb : (!f.same g) = b) :
    (execOp a.eval o).run Tryz.prog w = .ok (.value (.bool b)) w := by
  have hg : (eqGuard .neq 34 x y f.v g.v).run Tryz.prog w = .ok () w := run_eqGuard_agg w .neq 34 x y _ _ guard34
  have hr : (binOp .neq 34 f.v g.v).run Tryz.prog w = .ok (.bool (!f.same g)) w := by
    have := run_equalIn_g w 9996 f g
    rw [F.v, F.v] at this ⊢
    rw [run_neq_struct, this]; rfl
  unfold execOp
  simp only [ho, hx, hy, Sem.run_bind, Sem.run_pure, hg, hr, Result.andThen_ok, hb]
theorem exec_eql_g {a : Act} {w : World} {o : Oper} (x y : Operand) (ho : o.op = .binOp .eql 34 x y 34) (f g : F) (hx : a.eval x = f.v) (hy : a.eval y = g.v) (b : Bool) (hb : f.same g = b) :
    (execOp a.eval o).run Tryz.prog w = .ok (.value (.bool b)) w := by
  have hg : (eqGuard .eql 34 x y f.v g.v).run Tryz.prog w = .ok () w := run_eqGuard_agg w .eql 34 x y _ _ guard34
  have hr : (binOp .eql 34 f.v g.v).run Tryz.prog w = .ok (.bool (f.same g)) w := by
    have := run_equalIn_g w 9996 f g
    rw [F.v, F.v] at this ⊢
    rw [run_eql_struct, this]; rfl
  unfold execOp
  simp only [ho, hx, hy, Sem.run_bind, Sem.run_pure, hg, hr, Result.andThen_ok, hb]
theorem zf_eq : zf = .cells F.zero.cs.toArray 26 := by unfold zf; rw [zc]
theorem TB.boxf {W x : World} {fa : Fp} {r : Rf} {ma mr : MS} {L : List (Nat × TypeId × List Value)} (h : TB W x fa r ma mr L) : TB W (x.alloc zf) fa r ma mr ((x.heap.size, 26, F.zero.cs) :: L) := by
  rw [zf_eq]; exact h.box 26 F.zero.cs
theorem TB.boxg {W x : World} {fa : Fp} {r : Rf} {ma mr : MS} {L : List (Nat × TypeId × List Value)} (h : TB W x fa r ma mr L) : TB W (x.alloc zg) fa r ma mr ((x.heap.size, 34, F.zero.cs) :: L) := by
  rw [zg_eq]; exact h.box 34 F.zero.cs
theorem TB.twoA {W x : World} {fa : Fp} {r : Rf} {ma mr : MS} {L : List (Nat × TypeId × List Value)} (h : TB W x fa r ma mr L) : TB W ((x.alloc zf).alloc (.cells (evc 0 0).toArray 38)) fa r ma mr ((x.heap.size + 1, 38, evc 0 0) :: (x.heap.size, 26, F.zero.cs) :: L) := by
  have h5 := h.boxf.box 38 (evc 0 0)
  simp only [World.size_alloc] at h5
  exact h5
theorem TB.twoR {W x : World} {fa : Fp} {r : Rf} {ma mr : MS} {L : List (Nat × TypeId × List Value)} (h : TB W x fa r ma mr L) : TB W ((x.alloc zg).alloc (.cells (evc 0 0).toArray 42)) fa r ma mr ((x.heap.size + 1, 42, evc 0 0) :: (x.heap.size, 34, F.zero.cs) :: L) := by
  have h5 := h.boxg.box 42 (evc 0 0)
  simp only [World.size_alloc] at h5
  exact h5
/-- What a run leaves, with any fuel. -/
structure Ran where
  f : F
  k : Int
  a : Int
  u : Int
  e : Int
  m : MS
def Ran.v (o : Ran) : Value := .tuple #[.agg o.f.cs.toArray, .agg (evc o.k o.a).toArray, .int .i64 o.u, .int .i64 o.e]
theorem run_two (m : MS) (l : Int) (f : F) (n : Int) : ∃ o : Ran, m.U → f.U → ((∀ (W : World) (fp : Fp), Tb W → Mem W fp m → (∀ k ∈ fp.w, 3 < k) → Calls Tryz.prog 13 #[ptr fp.gm, .int .i64 l, f.v, .int .i64 n] W fun x w' => x = .returned o.v ∧ Rd W w' fp o.m) ∧
    (∀ (W : World) (r : Rf), Tb W → RMem W r m → (∀ k ∈ r.all, 3 < k) → Calls Tryz.prog 14 #[ptr r.g, .int .i64 l, f.v, .int .i64 n] W fun x w' => x = .returned o.v ∧ ∃ r', RSt W w' r r' o.m)) := by
  by_cases h : n < 0 ∨ 100000 < n
  · exact ⟨⟨F.zero, 0, 0, 0, 100, m⟩, fun _ _ => ⟨fun W fp _ hm _ => run_no W fp m hm l f n h, fun W r _ hm _ => rrun_no W r m hm l f n h⟩⟩
  · obtain ⟨k, rfl⟩ : ∃ k : Nat, n = (k : Int) := ⟨n.toNat, by omega⟩
    have hk : (k : Int) ≤ 100000 := by omega
    exact ⟨⟨(rn l k 0 m f).f, (rn l k 0 m f).k, (rn l k 0 m f).a, ((rn l k 0 m f).u : Int), 0, (rn l k 0 m f).m⟩, fun hU hF => ⟨fun W fp hT hm hlo => run_any W hT fp m hm hU l f hF hlo k hk, fun W r hT hm hlo => rrun_any W hT r m hm hU l f hF hlo k hk⟩⟩
end Go.Proofs.YteldpapacdbbiaaGreatDoor
