/- Quote (8). -/
import Derived.Test.YtncnogndopgknaaGreatDoorUnquote
namespace Go.Proofs.YtncnogndopgknaaGreatDoor
open Go.RowKit
/-- A slice's bytes: none, or they lie in a row that was there. -/
def AtB (W : World) (ao : Option Addr) (l : List UInt8) : Prop := l = [] ∨ ∃ b off, ao = some ⟨b, off, none⟩ ∧ b < W.heap.size ∧ ∀ i (h : i < l.length), W.cell? ⟨b, off + i, none⟩ = some (.int .u8 (l[i].toNat : Int))
theorem quoteB_take (l : List UInt8) (k : Nat) (h : k < l.length) : T.quoteB (l.take (k + 1)) = T.quoteB (l.take k) ++ T.one l[k] := by
  unfold T.quoteB
  rw [List.take_succ_eq_append_getElem h, List.map_append, List.flatten_append]
  simp
theorem hexD_at (n : Nat) (h : n < 16) (hp : n < (⟨#[48, 49, 50, 51, 52, 53, 54, 55, 56, 57, 97, 98, 99, 100, 101, 102]⟩ : ByteArray).size) : ((⟨#[48, 49, 50, 51, 52, 53, 54, 55, 56, 57, 97, 98, 99, 100, 101, 102]⟩ : ByteArray)[n]'hp) = T.hexD n := by
  revert n
  decide +kernel

theorem HB.drew {W wr : World} {v : Value} {l : List UInt8} (h : HB W wr v l) : HB W wr.drew v l := ⟨h.own, h.below.drew⟩
/-- At a step of a region that draws its order. -/
theorem step_append_bytes {P : Program} {W w : World} {ops : Array Oper} {o : Oper} {a : Act} {K : Act → World → Prop} {Q : Exit → Act → World → Prop} {E : Prop} (hgd : o.guard = none) (s x : Operand) (t : TypeId)
    (ho : o.op = .call { callee := .builtin .append, args := #[s, x], argTypes := #[t, t] }) (i : TypeInfo) (ht : P.underlying t = some (.slice 5)) (hi : P.info? 5 = some i) (hz : i.zero = some (.int .u8 0)) (hsize : i.size = 1) (hby : i.bytes = 1)
    (v : Value) (l : List UInt8) (hs : a.eval s = v) (H : HB W w v l) (ad : Addr) (n c : Nat) (m : List UInt8) (hx : a.eval x = .slice (some ad) n c) (hl : m.length = n) (hc : ∀ j u, (Lib.byteCells m)[j]? = some u → w.cell? (ad.add j) = some u) (h63 : l.length + n ≤ 140737488355328)
    (h : ∀ v' w', HB W w' v' (l ++ m) → K (a.put o.dst v') w') : if Region.wanted o (yielded ops a.tmps) = true then Oper.wp P o a w K Q else E := by
  subst hl
  obtain ⟨v', w', hr, h1, h2, _⟩ := run_append_own (P := P) w W.heap.size t o.type 5 i (.int .u8 0) 1 1 ht hi hz hsize hby rfl (by decide) v l.length _ H.own ad m.length c (Lib.byteCells m) (by simp [Lib.byteCells]) hc (byteCells_one m) (by unfold maxLen; omega) (by omega) H.below.size
  have hw : Region.wanted o (yielded ops a.tmps) = true := by simp [Region.wanted, hgd]
  rw [if_pos hw]
  unfold Oper.wp execOp
  simp only [ho, resolve, invoke, builtin, Sem.run_bind, Sem.run_pure, Result.andThen_ok, List.map_toArray, List.map_cons, List.map_nil, hs, hx, hr]
  exact h _ _ (H.grow h1 h2)
/-- string(own). -/
theorem HB.conv {W w : World} {v : Value} {l : List UInt8} (h : HB W w v l) : ∃ ao cap, v = .slice ao l.length cap ∧ (convert 91 9 (.slice ao l.length cap)).run Tryz.prog w = .ok (.string ⟨l.toArray⟩) w := by
  rcases h.own.2 with ⟨hv, h0⟩ | ⟨g, cap, cur, hv, _⟩
  · have hl : l = [] := List.eq_nil_of_length_eq_zero h0
    refine ⟨none, 0, by rw [hv, h0], ?_⟩
    rw [hl, List.length_nil, run_convert_bytes_string (P := Tryz.prog) w 91 9 5 none 0 0 Tryz.underlying91 Tryz.underlying5 Tryz.underlying9]
    rfl
  · exact ⟨some ⟨g, 0, none⟩, cap, hv, run_convert_bytes_back (P := Tryz.prog) w 91 9 5 ⟨g, 0, none⟩ cap l Tryz.underlying91 Tryz.underlying5 Tryz.underlying9 (fun j hj => h.own.cells (g := g) (by rw [hv]; rfl) j _ (by simp [Lib.byteCells, hj]))⟩
theorem and15 : ∀ n : Nat, n < 256 → bits .and .u8 (n : Int) 15 = (n : Int) % 16 := by
  have h : ∀ a : Fin 256, bits .and .u8 (a.val : Int) 15 = (a.val : Int) % 16 := by decide +kernel
  exact fun n hn => h ⟨n, hn⟩
end Go.Proofs.YtncnogndopgknaaGreatDoor
