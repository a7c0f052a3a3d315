/- append(nil, words...). -/
import Derived.Test.YtncnogndopgknaaDoorRp5
namespace Go.Proofs.YtncnogndopgknaaDoor
open Go.RowKit
def u32s (l : List Nat) : List Value := l.map fun (u : Nat) => .int .u32 (u : Int)
theorem Tryd.info23 : (Tryd.prog.info? 23).map (fun i => (i.zero, i.size, i.bytes)) = some (some (.int .u32 0), 1, 4) := by kernel_rfl
theorem own_at {w : World} {B n : Nat} {v : Value} {l : List Nat} (h : w.ownsRow B 23 1 v n (u32s l)) (hl : l.length = n) : ∃ ao c, v = .slice ao n c ∧ AtW w ao l := by
  rcases h.2 with ⟨hv, h0⟩ | ⟨g, cap, cur, hv, _, hg, _⟩
  · exact ⟨none, 0, by rw [hv, h0], .inl (List.eq_nil_of_length_eq_zero (by omega))⟩
  · refine ⟨some ⟨g, 0, none⟩, cap, hv, .inr ⟨g, 0, rfl, (Array.getElem?_eq_some_iff.1 hg).1, fun i hi => ?_⟩⟩
    have := h.cells (g := g) (by rw [hv]; rfl) i (.int .u32 (l[i] : Nat)) (by simp [u32s, hi])
    rw [Addr.add_mid] at this
    exact this
theorem wpList_append_words {P : Program} {W w : World} {ops : Array Oper} {rest : List Oper} {o : Oper} {a : Act} {Q : Exit → Act → World → Prop} (hgd : o.guard = none) (s x : Operand) (t : TypeId)
    (ho : o.op = .call { callee := .builtin .append, args := #[s, x], argTypes := #[t, t] }) (i : TypeInfo) (ht : P.underlying t = some (.slice 23)) (hi : P.info? 23 = some i) (hz : i.zero = some (.int .u32 0)) (hsize : i.size = 1) (hby : i.bytes = 4)
    (hs : a.eval s = .slice none 0 0) (hW : Below W.heap.size W w) (ad : Addr) (n c : Nat) (m : List Nat) (hx : a.eval x = .slice (some ad) n c) (hl : m.length = n) (hc : ∀ j u, (u32s m)[j]? = some u → w.cell? (ad.add j) = some u) (h63 : n * 4 ≤ 140737488355328)
    (h : ∀ v' w', w'.ownsRow W.heap.size 23 1 v' n (u32s m) → Below W.heap.size W w' → wpList P ops Q rest (a.put o.dst v') w') : wpList P ops Q (o :: rest) a w := by
  subst hl
  have h0 : w.ownsRow W.heap.size 23 1 (.slice none 0 0) 0 [] := World.ownsRow_nil w _ 23 1
  obtain ⟨v', w', hr, h1, h2, _⟩ := run_append_own (P := P) w W.heap.size t o.type 23 i (.int .u32 0) 1 4 ht hi hz hsize hby rfl (by decide) (.slice none 0 0) 0 [] h0 ad m.length c (u32s m) (by simp [u32s]) hc (by
    intro v hv
    obtain ⟨u, _, rfl⟩ := List.mem_map.1 hv
    rfl) (by unfold maxLen; omega) (by omega) hW.size
  refine wpList_plain hgd fun K hK => ?_
  unfold Oper.wp execOp
  simp only [ho, resolve, invoke, builtin, Sem.run_bind, Sem.run_pure, Result.andThen_ok, List.map_toArray, List.map_cons, List.map_nil, hs, hx, hr]
  refine hK _ _ (h _ _ (by simpa using h1) (hW.grown h2 hW.size fun g hg => by cases hg))
theorem lin_b : A.lin 1409351679 [] = [98, 32, 97, 108, 32, 45, 49] := by decide +kernel
end Go.Proofs.YtncnogndopgknaaDoor
