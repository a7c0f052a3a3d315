import Derived.Test.YtncnogndopgknaaGreatDoorP42
namespace Go.Proofs.YtncnogndopgknaaGreatDoor
open Go.RowKit
set_option maxRecDepth 40000
set_option maxHeartbeats 4000000
theorem labels_any (W : World) (h : AW W) (s : ByteArray) (y : List Nat × List (List UInt8 × Nat)) (hy : S.asm s.data.toList 0 = .inr y) :
    Calls Tryz.prog 13 #[.string s] W fun x w' => ∃ v, x = .returned (.tuple #[v, .agg #[.int .i64 0, .int .i64 0, .int .i64 0]]) ∧ w'.ownsRow W.heap.size 43 2 v y.2.length (labsC y.2) ∧ Below W.heap.size W w' := by
  obtain ⟨m, hm⟩ := h.m
  have h7 := h.z
  have HX : Hid (Below W.heap.size W (W.alloc (.cells #[.int .i64 0, .int .i64 0, .int .i64 0] 27)) ∧ Cel (W.alloc (.cells #[.int .i64 0, .int .i64 0, .int .i64 0] 27)) W.heap.size 27 [.int .i64 0, .int .i64 0, .int .i64 0]) := hid ⟨below_one _ _, Cel.new _ _ _⟩
  have H23 : Hid (Calls Tryz.prog 23 #[.string s, .int .u32 0] (W.alloc (.cells #[.int .i64 0, .int .i64 0, .int .i64 0] 27)) fun x w' => PgPost (W.alloc (.cells #[.int .i64 0, .int .i64 0, .int .i64 0] 27)) 0 (S.asm s.data.toList 0) x w') := hid (read_all (W.alloc (.cells #[.int .i64 0, .int .i64 0, .int .i64 0] 27)) (h.t.on HX.out.1) m (by rw [HX.out.1.cell (p := ⟨7, 0, none⟩) h7]; exact hm) s 0 (by decide))
  rw [hy] at H23
  clear hy h hm h7
  go_enter Tryz.func13, Tryz.ntmps13
  go_wp2_with fail
  generalize W.alloc (.cells #[.int .i64 0, .int .i64 0, .int .i64 0] 27) = X at *
  refine H23.out.mono ?_
  intro e w1 hpost
  obtain ⟨V, g, gm, line, lat, fs, i, vw, vl, vf, rfl, hbV, hPF⟩ := hpost
  have HPF := hid hPF
  have HXV : Hid (Below X.heap.size X V) := hbV
  have HB1 : Hid (Below X.heap.size X w1) := hid (hbV.trans (hPF.below.mono hbV.size))
  have HC1 : Hid (Cel w1 W.heap.size 27 [.int .i64 0, .int .i64 0, .int .i64 0] ∧ Below W.heap.size W w1) := hid ⟨HX.out.2.on HB1.out, HX.out.1.trans (HB1.out.mono HX.out.1.size)⟩
  have g2 : w1.cell? ⟨g, 3, none⟩ = some vl := hPF.cel.cell 3
  have y0 : w1.cell? ⟨W.heap.size, 0, none⟩ = some (.int .i64 0) := HC1.out.1.cell 0
  have y1 : w1.cell? ⟨W.heap.size, 1, none⟩ = some (.int .i64 0) := HC1.out.1.cell 1
  have y2 : w1.cell? ⟨W.heap.size, 2, none⟩ = some (.int .i64 0) := HC1.out.1.cell 2
  have f0 := HC1.out.1.free 0
  have f1 := HC1.out.1.free 1
  have f2 := HC1.out.1.free 2
  clear hPF hbV H23
  go_wp2_with fail
  have c0 := HC1.out.1.setCell 0 (.int .i64 0)
  have c1 := c0.setCell 1 (.int .i64 0)
  have hk : KT 43 w1 (((w1.setCell ⟨W.heap.size, 0, none⟩ (.int .i64 0)).setCell ⟨W.heap.size, 1, none⟩ (.int .i64 0)).setCell ⟨W.heap.size, 2, none⟩ (.int .i64 0)) := KT.trans (KT.trans (KT.setCell HC1.out.1 (by decide) 0 _) (KT.setCell c0 (by decide) 1 _)) (KT.setCell c1 (by decide) 2 _)
  exact ret_ts rfl rfl W.heap.size [.int .i64 0, .int .i64 0, .int .i64 0] rfl (c1.setCell 2 (.int .i64 0)) Tryz.underlying27 rfl sizeFault ⟨_, rfl, own_less (own_kt HPF.out.lb hk) (Nat.le_trans HX.out.1.size HXV.out.size), ((HC1.out.2.setCell (p := ⟨W.heap.size, 0, none⟩) (Nat.le_refl _) _).setCell (p := ⟨W.heap.size, 1, none⟩) (Nat.le_refl _) _).setCell (p := ⟨W.heap.size, 2, none⟩) (Nat.le_refl _) _⟩
end Go.Proofs.YtncnogndopgknaaGreatDoor
namespace Go.Proofs.YtncnogndopgknaaGreatDoor
open Go.RowKit
set_option maxRecDepth 100000
set_option maxHeartbeats 4000000
namespace S
variable {ps : List Pie} {base i : Nat}
theorem room (hi : i < ps.length) : plc ps i + szp (ps.getD i p0) ≤ plc ps ps.length := by
  have := plc_mono ps (i + 1) (ps.length - (i + 1))
  rw [show i + 1 + (ps.length - (i + 1)) = ps.length by omega] at this
  exact this
end S
theorem UAt.get {w : World} {ao : Option Addr} {xs : List Nat} (h : UAt w ao xs) {j : Nat} (hj : j < xs.length) : ∃ b o, ao = some ⟨b, o, none⟩ ∧ w.cell? ⟨b, o + j, none⟩ = some (.int .u32 (xs.getD j 0 : Nat)) := by
  rcases h with rfl | ⟨b, o, rfl, hb, hc⟩
  · simp at hj
  · refine ⟨b, o, rfl, ?_⟩
    rw [hc j hj, List.getD_eq_getElem?_getD, List.getElem?_eq_getElem hj]; rfl
end Go.Proofs.YtncnogndopgknaaGreatDoor
