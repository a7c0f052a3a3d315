import Derived.Test.YtlfnpllojinjdaaDoorKeeps4
namespace Go.Proofs.YtlfnpllojinjdaaDoor
open Go.RowKit

/-- A row of the book, all written over with its mark. -/
structure Over (W wr : World) (e : Ent) (i : Nat) : Prop where
  mark : e.mark = 1000 + (i : Int)
  lw : e.lw = List.replicate e.n (1000 + (i : Int))
  lb : e.lb = List.replicate (4 * e.n) ((1000 + (i : Int)) % 256)
  mo : wr.ownsRow W.heap.size 22 1 e.mo (e.n + 1) (List.replicate (e.n + 1) (.int .u32 (1000 + (i : Int))))
  ex : wr.ownsRow W.heap.size 5 1 e.ex (4 * e.n + 1) (List.replicate (4 * e.n + 1) (.int .u8 ((1000 + (i : Int)) % 256)))
theorem Over.carry {W wr w' : World} {e : Ent} {i : Nat} (h : Over W wr e i) (hb : Below wr.heap.size wr w') : Over W w' e i :=
  ⟨h.mark, h.lw, h.lb, ownsRow_below h.mo hb, ownsRow_below h.ex hb⟩

set_option maxRecDepth 100000 in
set_option maxHeartbeats 4000000 in
theorem marked_any (W wr : World) (ao : Option Addr) (m cap : Nat) (E : Nat → Ent) (hB : Bk W wr (.slice ao m cap) m E) (hao : 0 < m → ∃ gk, ao = some ⟨gk, 0, none⟩) (hm : m ≤ 6291456)
    (hF : ∀ i, i < m → Over W wr (E i) i) (hn : ∀ i, i < m → (E i).n ≤ 262144) :
    Calls Tryd.prog 31 #[.slice ao m cap] wr fun e w' => e = .returned (.bool true) ∧ Below wr.heap.size wr w' := by
  go_enter Tryd.func31, Tryd.ntmps31
  go_wp2
  go_loopw [3] (fun i w => ∃ t : Nat, t ≤ m ∧ i = .int .i64 t ∧ Below wr.heap.size wr w) (fun i _ => m - (intOf i).toNat)
  case atStart => exact ⟨0, Nat.zero_le _, rfl, Below.refl _ _⟩
  case round wr' =>
    obtain ⟨t, ht, rfl, hb⟩ := hrel
    by_cases hlt : t < m
    · obtain ⟨gk, rfl⟩ := hao (by omega)
      have B := hB.carry hb
      have F := (hF t hlt).carry hb
      have hnt := hn t hlt
      have c0 := B.cell t 0 hlt (by decide)
      have c1 := B.cell t 1 hlt (by decide)
      have c2 := B.cell t 2 hlt (by decide)
      have c3 := B.cell t 3 hlt (by decide)
      have c4 := B.cell t 4 hlt (by decide)
      have bw := B.lw t hlt
      have bb := B.lb t hlt
      obtain ⟨gm, cm, hmo, _, lm⟩ := F.mo.form (by omega)
      obtain ⟨gx, cx, hex, _, lx⟩ := F.ex.form (by omega)
      have om := F.mo
      have ox := F.ex
      rw [F.lw] at bw
      rw [F.lb] at bb
      simp only [Ent.cells, F.mark, hmo, hex, Nat.add_zero] at c0 c1 c2 c3 c4 om ox
      generalize (E t).n = n at *
      generalize (E t).gl = gl at *
      generalize (E t).gb = gb at *
      simp at c0 c1 c2 c3 c4
      have sz := hb.size
      clear F hmo hex B hB hao hF hn
      go_wp2
      have hg : wr.heap[wr.heap.size]? = none := Array.getElem?_eq_none (Nat.le_refl _)
      generalize hw : wr.alloc (.cells #[.slice (some ⟨gl, 0, none⟩) n n, .slice (some ⟨gm, 0, none⟩) (n + 1) cm, .slice (some ⟨gb, 0, none⟩) (4 * n) (4 * n), .slice (some ⟨gx, 0, none⟩) (4 * n + 1) cx, .int .i64 (1000 + (t : Int))] 61) = w1
      have hb1 : Below wr.heap.size wr w1 := hw ▸ below_one wr _
      have k := hw ▸ heap_alloc_new wr _
      have k0 := cell_of_row w1 wr.heap.size 0 _ 61 (0, 0) k
      have k1 := cell_of_row w1 wr.heap.size 1 _ 61 (0, 0) k
      have k2 := cell_of_row w1 wr.heap.size 2 _ 61 (0, 0) k
      have k3 := cell_of_row w1 wr.heap.size 3 _ 61 (0, 0) k
      have k4 := cell_of_row w1 wr.heap.size 4 _ 61 (0, 0) k
      have hs1 : wr.heap.size < w1.heap.size := by rw [← hw]; simp
      simp at k0 k1 k2 k3 k4
      have om1 := ownsRow_below om hb1
      have ox1 := ownsRow_below ox hb1
      have bw1 := bw.below hb1 bw.lt
      have bb1 := bb.below hb1 bb.lt
      have lw := bw.lt
      have lb := bb.lt
      clear om ox bw bb c0 c1 c2 c3 c4 hw k hg
      generalize wr.heap.size = gh at *
      go_loopw [5] (fun j w => ∃ s : Nat, s ≤ n + 1 ∧ j = .int .i64 s ∧ ∃ d, w = w1.drewN d) (fun j _ => n + 1 - (intOf j).toNat)
      case atStart => exact ⟨0, Nat.zero_le _, rfl, 0, rfl⟩
      case round =>
        obtain ⟨s, hs, rfl, d, rfl⟩ := hrel
        by_cases hsl : s < n + 1
        · have e1 : w1.cell? ⟨gm, s, none⟩ = some (.int .u32 (1000 + (t : Int))) := by
            rw [om1.cellAt s (by omega), List.getElem?_replicate, if_pos hsl]
          by_cases hsn : s < n
          · have e2 : w1.cell? ⟨gl, s, none⟩ = some (.int .u32 (1000 + (t : Int))) := by
              rw [bw1.cell s (by simpa using hsn)]
              simp [List.getD_eq_getElem?_getD, hsn]
            go_wp2
            go_quiet (fail)
            go_wp2
            exact ⟨⟨s + 1, by omega, by go_num, _, rfl⟩, by simp [intOf] <;> omega⟩
          · obtain rfl : s = n := by omega
            have hd : decide ((s : Int) < (s : Int)) = false := by simp
            go_wp2
            go_quiet (fail)
            go_wp2
            exact ⟨⟨s + 1, by omega, by go_num, _, rfl⟩, by simp [intOf] <;> omega⟩
        · obtain rfl : s = n + 1 := by omega
          go_wp2
          have hq : IntKind.u8.wrap (1000 + (t : Int)) = (1000 + (t : Int)) % 256 := by simp [IntKind.wrap, IntKind.signed, IntKind.bits]
          generalize (1000 + (t : Int)) % 256 = q at *
          go_loopw [6] (fun j w => ∃ s : Nat, s ≤ 4 * n + 1 ∧ j = .int .i64 s ∧ ∃ d, w = w1.drewN d) (fun j _ => 4 * n + 1 - (intOf j).toNat)
          case atStart => exact ⟨0, Nat.zero_le _, rfl, d, rfl⟩
          case round =>
            obtain ⟨s, hs, rfl, d, rfl⟩ := hrel
            by_cases hsl : s < 4 * n + 1
            · have e1 : w1.cell? ⟨gx, s, none⟩ = some (.int .u8 q) := by
                rw [ox1.cellAt s (by omega), List.getElem?_replicate, if_pos hsl]
              by_cases hsn : s < 4 * n
              · have e2 : w1.cell? ⟨gb, s, none⟩ = some (.int .u8 q) := by
                  rw [bb1.cell s (by simpa using hsn)]
                  simp [List.getD_eq_getElem?_getD, hsn]
                have hi4 : (s : Int) < 4 * (n : Int) := by omega
                go_wp2
                go_quiet (fail)
                go_wp2
                exact ⟨⟨s + 1, by omega, by go_num, _, rfl⟩, by simp [intOf] <;> omega⟩
              · obtain rfl : s = 4 * n := by omega
                have hd : decide ((4 * (n : Int)) < 4 * (n : Int)) = false := by simp
                go_wp2
                go_quiet (fail)
                go_wp2
                exact ⟨⟨4 * n + 1, by omega, by go_num, _, rfl⟩, by simp [intOf] <;> omega⟩
            · obtain rfl : s = 4 * n + 1 := by omega
              go_wp2
              refine ⟨⟨t + 1, by omega, by go_num, hb.trans ((below_drewN hb1 _).mono ?_)⟩, by simp [intOf]; omega⟩
              exact sz
    · go_wp2
      go_ret
      exact ⟨rfl, hb⟩
end Go.Proofs.YtlfnpllojinjdaaDoor
