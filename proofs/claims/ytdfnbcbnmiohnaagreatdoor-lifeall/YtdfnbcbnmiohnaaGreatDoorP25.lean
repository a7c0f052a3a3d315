import Derived.Test.YtdfnbcbnmiohnaaGreatDoorP24
import Derived.Test.YtdfnbcbnmiohnaaGreatDoorP01
namespace Go.Proofs.YtdfnbcbnmiohnaaGreatDoor
open Go.RowKit
set_option maxHeartbeats 8000000
set_option maxRecDepth 100000
theorem exec_neV {a : Act} {w : World} {o : Oper} (T : TypeId) (x y : Operand) (ho : o.op = .binOp .neq T x y T) (u v : Array Value) (hx : a.eval x = .agg u) (hy : a.eval y = .agg v) (hg : Tryz.prog.eqGuardType Tryz.prog.depth T = false) (c b : Bool) (hb : (Op.equalIn 10000 T (.agg u) (.agg v)).run Tryz.prog w = .ok c w) (hc : (!c) = b) :
    (execOp a.eval o).run Tryz.prog w = .ok (.value (.bool b)) w := by rw [exec_ne T x y ho u v hx hy hg c hb, hc]
theorem check_any (W : World) (x : En) : Calls Tryz.prog 137 #[x.v] W fun e W' => e = .returned (.int .i64 (chk x)) ∧ Below W.heap.size W W' := by
  have HC := hid (Cel.new W 30 x.cs)
  have HB := hid (below_one W (.cells x.cs.toArray 30))
  unfold En.v
  go_enter Tryz.func137, Tryz.ntmps137
  go_upto_region 1 with fail
  generalize hX : World.alloc _ _ = X at *
  clear hX
  have HC0 := hid (HC.out.on (Below.refl _ _).drew)
  have HB0 := hid (below_on HB.out (Below.refl _ _).drew)
  generalize W.heap.size = g1 at HC HC0 ⊢
  clear HC HB
  rcases e1 : x.same x.used with _ | _
  · have hk : chk x = 110 := by simp [chk, En.ok, e1]
    refine wp_region_held_drew (S := fun w => Cel w g1 30 x.cs) (by kernel_rfl) HC0.out (fun hHeld => ?_)
    refine tk 0 (some 3) x.v ?_ (hy := yieldsIf_load_mid (by rfl) _ _ rfl _ _ rfl _ _ (fun w hSw => hSw.range) underE rfl (by rw [sizeE]; rfl))
    simp only [Act.put, tqA, tqZ, tqS]
    refine tk 1 (some 4) x.v ?_ (hy := yieldsIf_load_mid (by rfl) _ _ rfl _ _ rfl _ _ (fun w hSw => hSw.range) underE rfl (by rw [sizeE]; rfl))
    simp only [Act.put, tqA, tqZ, tqS]
    refine wpAnyH_ready (rs := [2]) (by kernel_rfl) (by simp) (AllReadyH.cons rfl (fun KQ hK => ?_) AllReadyH.nil)
    go_simp
    refine (used_any _ x).mono ?_
    rintro e w1 ⟨rfl, hb1⟩
    have HC1 := hid (HC0.out.on hb1)
    have HB1 := hid (below_on HB0.out hb1)
    clear hb1
    go_wp2_with fail
    refine hK.out _ _ HC1.out (fun hHeld => ?_)
    clear hK KQ
    try simp only [Act.put, tqA, tqZ, tqS]
    refine tk 3 (some 6) (.bool true) ?_ (hy := Or.inl ⟨by rfl, fun w hSw => exec_neV 30 _ _ rfl _ _ rfl rfl guardE _ _ (eqE w 9996 x x.used) (by rw [e1]; rfl)⟩)
    simp only [Act.put, tqA, tqZ, tqS]
    refine tk 4 (some 7) (.bool true) ?_
    simp only [Act.put, tqA, tqZ, tqS]
    refine tk 5 (some 8) undef ?_ (hy := Or.inr ⟨by rfl, rfl⟩)
    simp only [Act.put, tqA, tqZ, tqS]
    refine tk 6 (some 9) undef ?_ (hy := Or.inr ⟨by rfl, rfl⟩)
    simp only [Act.put, tqA, tqZ, tqS]
    refine tk 7 (some 10) undef ?_ (hy := Or.inr ⟨by rfl, rfl⟩)
    simp only [Act.put, tqA, tqZ, tqS]
    refine tk 8 (some 11) undef ?_ (hy := Or.inr ⟨by rfl, rfl⟩)
    simp only [Act.put, tqA, tqZ, tqS]
    refine tk 9 (some 12) (.bool true) ?_
    simp only [Act.put, tqA, tqZ, tqS]
    refine tk 10 (some 13) (.bool true) ?_
    simp only [Act.put, tqA, tqZ, tqS]
    refine tk 11 (some 14) undef ?_ (hy := Or.inr ⟨by rfl, rfl⟩)
    simp only [Act.put, tqA, tqZ, tqS]
    refine tk 12 (some 15) undef ?_ (hy := Or.inr ⟨by rfl, rfl⟩)
    simp only [Act.put, tqA, tqZ, tqS]
    refine tk 13 (some 16) undef ?_ (hy := Or.inr ⟨by rfl, rfl⟩)
    simp only [Act.put, tqA, tqZ, tqS]
    refine tk 14 (some 17) undef ?_ (hy := Or.inr ⟨by rfl, rfl⟩)
    simp only [Act.put, tqA, tqZ, tqS]
    refine tk 15 (some 18) (.bool true) ?_
    simp only [Act.put, tqA, tqZ, tqS]
    refine tk 16 (some 19) (.bool true) ?_
    simp only [Act.put, tqA, tqZ, tqS]
    refine tk 17 (some 20) undef ?_ (hy := Or.inr ⟨by rfl, rfl⟩)
    simp only [Act.put, tqA, tqZ, tqS]
    refine tk 18 (some 21) undef ?_ (hy := Or.inr ⟨by rfl, rfl⟩)
    simp only [Act.put, tqA, tqZ, tqS]
    refine tk 19 (some 22) undef ?_ (hy := Or.inr ⟨by rfl, rfl⟩)
    simp only [Act.put, tqA, tqZ, tqS]
    refine tk 20 (some 23) undef ?_ (hy := Or.inr ⟨by rfl, rfl⟩)
    simp only [Act.put, tqA, tqZ, tqS]
    refine tk 21 (some 24) undef ?_ (hy := Or.inr ⟨by rfl, rfl⟩)
    simp only [Act.put, tqA, tqZ, tqS]
    refine tk 22 (some 25) undef ?_ (hy := Or.inr ⟨by rfl, rfl⟩)
    simp only [Act.put, tqA, tqZ, tqS]
    refine tk 23 (some 26) (.bool true) ?_
    simp only [Act.put, tqA, tqZ, tqS]
    refine wpAnyH_done (by kernel_rfl) ?_ _

    go_wp2_with fail
    go_ret
    exact ⟨by rw [hk]; rfl, HB1.out⟩
  rcases e2 : blw x.o with _ | _
  · have hk : chk x = 110 := by simp [chk, En.ok, e1, e2]
    refine wp_region_held_drew (S := fun w => Cel w g1 30 x.cs) (by kernel_rfl) HC0.out (fun hHeld => ?_)
    refine tk 0 (some 3) x.v ?_ (hy := yieldsIf_load_mid (by rfl) _ _ rfl _ _ rfl _ _ (fun w hSw => hSw.range) underE rfl (by rw [sizeE]; rfl))
    simp only [Act.put, tqA, tqZ, tqS]
    refine tk 1 (some 4) x.v ?_ (hy := yieldsIf_load_mid (by rfl) _ _ rfl _ _ rfl _ _ (fun w hSw => hSw.range) underE rfl (by rw [sizeE]; rfl))
    simp only [Act.put, tqA, tqZ, tqS]
    refine wpAnyH_ready (rs := [2]) (by kernel_rfl) (by simp) (AllReadyH.cons rfl (fun KQ hK => ?_) AllReadyH.nil)
    go_simp
    refine (used_any _ x).mono ?_
    rintro e w1 ⟨rfl, hb1⟩
    have HC1 := hid (HC0.out.on hb1)
    have HB1 := hid (below_on HB0.out hb1)
    clear hb1
    go_wp2_with fail
    refine hK.out _ _ HC1.out (fun hHeld => ?_)
    clear hK KQ
    try simp only [Act.put, tqA, tqZ, tqS]
    refine tk 3 (some 6) (.bool false) ?_ (hy := Or.inl ⟨by rfl, fun w hSw => exec_neV 30 _ _ rfl _ _ rfl rfl guardE _ _ (eqE w 9996 x x.used) (by rw [e1]; rfl)⟩)
    simp only [Act.put, tqA, tqZ, tqS]
    refine tk 4 (some 7) (.bool false) ?_
    simp only [Act.put, tqA, tqZ, tqS]
    refine tk 5 (some 8) (.pointer (some ⟨g1, 1, none⟩)) ?_
    simp only [Act.put, tqA, tqZ, tqS]
    refine tk 6 (some 9) (.int .i64 x.o) ?_ (hy := Or.inl ⟨by rfl, by intro w hSw; have hq : w.cell? ⟨g1, 1, none⟩ = some (.int .i64 x.o) := Cel.cell hSw 1; go_simp⟩)
    simp only [Act.put, tqA, tqZ, tqS]
    refine wpAnyH_ready (rs := [7]) (by kernel_rfl) (by simp) (AllReadyH.cons rfl (fun KQ hK => ?_) AllReadyH.nil)
    go_simp
    refine (below_any _ x.o).mono ?_
    rintro e w2 ⟨rfl, rfl⟩
    rw [e2]
    go_wp2_with fail
    refine hK.out _ _ HC1.out (fun hHeld => ?_)
    clear hK KQ
    try simp only [Act.put, tqA, tqZ, tqS]
    refine tk 8 (some 11) (.bool true) ?_
    simp only [Act.put, tqA, tqZ, tqS]
    refine tk 9 (some 12) (.bool true) ?_
    simp only [Act.put, tqA, tqZ, tqS]
    refine tk 10 (some 13) (.bool true) ?_
    simp only [Act.put, tqA, tqZ, tqS]
    refine tk 11 (some 14) undef ?_ (hy := Or.inr ⟨by rfl, rfl⟩)
    simp only [Act.put, tqA, tqZ, tqS]
    refine tk 12 (some 15) undef ?_ (hy := Or.inr ⟨by rfl, rfl⟩)
    simp only [Act.put, tqA, tqZ, tqS]
    refine tk 13 (some 16) undef ?_ (hy := Or.inr ⟨by rfl, rfl⟩)
    simp only [Act.put, tqA, tqZ, tqS]
    refine tk 14 (some 17) undef ?_ (hy := Or.inr ⟨by rfl, rfl⟩)
    simp only [Act.put, tqA, tqZ, tqS]
    refine tk 15 (some 18) (.bool true) ?_
    simp only [Act.put, tqA, tqZ, tqS]
    refine tk 16 (some 19) (.bool true) ?_
    simp only [Act.put, tqA, tqZ, tqS]
    refine tk 17 (some 20) undef ?_ (hy := Or.inr ⟨by rfl, rfl⟩)
    simp only [Act.put, tqA, tqZ, tqS]
    refine tk 18 (some 21) undef ?_ (hy := Or.inr ⟨by rfl, rfl⟩)
    simp only [Act.put, tqA, tqZ, tqS]
    refine tk 19 (some 22) undef ?_ (hy := Or.inr ⟨by rfl, rfl⟩)
    simp only [Act.put, tqA, tqZ, tqS]
    refine tk 20 (some 23) undef ?_ (hy := Or.inr ⟨by rfl, rfl⟩)
    simp only [Act.put, tqA, tqZ, tqS]
    refine tk 21 (some 24) undef ?_ (hy := Or.inr ⟨by rfl, rfl⟩)
    simp only [Act.put, tqA, tqZ, tqS]
    refine tk 22 (some 25) undef ?_ (hy := Or.inr ⟨by rfl, rfl⟩)
    simp only [Act.put, tqA, tqZ, tqS]
    refine tk 23 (some 26) (.bool true) ?_
    simp only [Act.put, tqA, tqZ, tqS]
    refine wpAnyH_done (by kernel_rfl) ?_ _

    go_wp2_with fail
    go_ret
    exact ⟨by rw [hk]; rfl, HB1.out⟩
  rcases e3 : blw x.r with _ | _
  · have hk : chk x = 110 := by simp [chk, En.ok, e1, e2, e3]
    refine wp_region_held_drew (S := fun w => Cel w g1 30 x.cs) (by kernel_rfl) HC0.out (fun hHeld => ?_)
    refine tk 0 (some 3) x.v ?_ (hy := yieldsIf_load_mid (by rfl) _ _ rfl _ _ rfl _ _ (fun w hSw => hSw.range) underE rfl (by rw [sizeE]; rfl))
    simp only [Act.put, tqA, tqZ, tqS]
    refine tk 1 (some 4) x.v ?_ (hy := yieldsIf_load_mid (by rfl) _ _ rfl _ _ rfl _ _ (fun w hSw => hSw.range) underE rfl (by rw [sizeE]; rfl))
    simp only [Act.put, tqA, tqZ, tqS]
    refine wpAnyH_ready (rs := [2]) (by kernel_rfl) (by simp) (AllReadyH.cons rfl (fun KQ hK => ?_) AllReadyH.nil)
    go_simp
    refine (used_any _ x).mono ?_
    rintro e w1 ⟨rfl, hb1⟩
    have HC1 := hid (HC0.out.on hb1)
    have HB1 := hid (below_on HB0.out hb1)
    clear hb1
    go_wp2_with fail
    refine hK.out _ _ HC1.out (fun hHeld => ?_)
    clear hK KQ
    try simp only [Act.put, tqA, tqZ, tqS]
    refine tk 3 (some 6) (.bool false) ?_ (hy := Or.inl ⟨by rfl, fun w hSw => exec_neV 30 _ _ rfl _ _ rfl rfl guardE _ _ (eqE w 9996 x x.used) (by rw [e1]; rfl)⟩)
    simp only [Act.put, tqA, tqZ, tqS]
    refine tk 4 (some 7) (.bool false) ?_
    simp only [Act.put, tqA, tqZ, tqS]
    refine tk 5 (some 8) (.pointer (some ⟨g1, 1, none⟩)) ?_
    simp only [Act.put, tqA, tqZ, tqS]
    refine tk 6 (some 9) (.int .i64 x.o) ?_ (hy := Or.inl ⟨by rfl, by intro w hSw; have hq : w.cell? ⟨g1, 1, none⟩ = some (.int .i64 x.o) := Cel.cell hSw 1; go_simp⟩)
    simp only [Act.put, tqA, tqZ, tqS]
    refine wpAnyH_ready (rs := [7]) (by kernel_rfl) (by simp) (AllReadyH.cons rfl (fun KQ hK => ?_) AllReadyH.nil)
    go_simp
    refine (below_any _ x.o).mono ?_
    rintro e w2 ⟨rfl, rfl⟩
    rw [e2]
    go_wp2_with fail
    refine hK.out _ _ HC1.out (fun hHeld => ?_)
    clear hK KQ
    try simp only [Act.put, tqA, tqZ, tqS]
    refine tk 8 (some 11) (.bool false) ?_
    simp only [Act.put, tqA, tqZ, tqS]
    refine tk 9 (some 12) (.bool false) ?_
    simp only [Act.put, tqA, tqZ, tqS]
    refine tk 10 (some 13) (.bool false) ?_
    simp only [Act.put, tqA, tqZ, tqS]
    refine tk 11 (some 14) (.pointer (some ⟨g1, 2, none⟩)) ?_
    simp only [Act.put, tqA, tqZ, tqS]
    refine tk 12 (some 15) (.int .i64 x.r) ?_ (hy := Or.inl ⟨by rfl, by intro w hSw; have hq : w.cell? ⟨g1, 2, none⟩ = some (.int .i64 x.r) := Cel.cell hSw 2; go_simp⟩)
    simp only [Act.put, tqA, tqZ, tqS]
    refine wpAnyH_ready (rs := [13]) (by kernel_rfl) (by simp) (AllReadyH.cons rfl (fun KQ hK => ?_) AllReadyH.nil)
    go_simp
    refine (below_any _ x.r).mono ?_
    rintro e w3 ⟨rfl, rfl⟩
    rw [e3]
    go_wp2_with fail
    refine hK.out _ _ HC1.out (fun hHeld => ?_)
    clear hK KQ
    try simp only [Act.put, tqA, tqZ, tqS]
    refine tk 14 (some 17) (.bool true) ?_
    simp only [Act.put, tqA, tqZ, tqS]
    refine tk 15 (some 18) (.bool true) ?_
    simp only [Act.put, tqA, tqZ, tqS]
    refine tk 16 (some 19) (.bool true) ?_
    simp only [Act.put, tqA, tqZ, tqS]
    refine tk 17 (some 20) undef ?_ (hy := Or.inr ⟨by rfl, rfl⟩)
    simp only [Act.put, tqA, tqZ, tqS]
    refine tk 18 (some 21) undef ?_ (hy := Or.inr ⟨by rfl, rfl⟩)
    simp only [Act.put, tqA, tqZ, tqS]
    refine tk 19 (some 22) undef ?_ (hy := Or.inr ⟨by rfl, rfl⟩)
    simp only [Act.put, tqA, tqZ, tqS]
    refine tk 20 (some 23) undef ?_ (hy := Or.inr ⟨by rfl, rfl⟩)
    simp only [Act.put, tqA, tqZ, tqS]
    refine tk 21 (some 24) undef ?_ (hy := Or.inr ⟨by rfl, rfl⟩)
    simp only [Act.put, tqA, tqZ, tqS]
    refine tk 22 (some 25) undef ?_ (hy := Or.inr ⟨by rfl, rfl⟩)
    simp only [Act.put, tqA, tqZ, tqS]
    refine tk 23 (some 26) (.bool true) ?_
    simp only [Act.put, tqA, tqZ, tqS]
    refine wpAnyH_done (by kernel_rfl) ?_ _

    go_wp2_with fail
    go_ret
    exact ⟨by rw [hk]; rfl, HB1.out⟩
  rcases e4 : fit x.s x.t with _ | _
  · have hk : chk x = 110 := by simp [chk, En.ok, e1, e2, e3, e4]
    refine wp_region_held_drew (S := fun w => Cel w g1 30 x.cs) (by kernel_rfl) HC0.out (fun hHeld => ?_)
    refine tk 0 (some 3) x.v ?_ (hy := yieldsIf_load_mid (by rfl) _ _ rfl _ _ rfl _ _ (fun w hSw => hSw.range) underE rfl (by rw [sizeE]; rfl))
    simp only [Act.put, tqA, tqZ, tqS]
    refine tk 1 (some 4) x.v ?_ (hy := yieldsIf_load_mid (by rfl) _ _ rfl _ _ rfl _ _ (fun w hSw => hSw.range) underE rfl (by rw [sizeE]; rfl))
    simp only [Act.put, tqA, tqZ, tqS]
    refine wpAnyH_ready (rs := [2]) (by kernel_rfl) (by simp) (AllReadyH.cons rfl (fun KQ hK => ?_) AllReadyH.nil)
    go_simp
    refine (used_any _ x).mono ?_
    rintro e w1 ⟨rfl, hb1⟩
    have HC1 := hid (HC0.out.on hb1)
    have HB1 := hid (below_on HB0.out hb1)
    clear hb1
    go_wp2_with fail
    refine hK.out _ _ HC1.out (fun hHeld => ?_)
    clear hK KQ
    try simp only [Act.put, tqA, tqZ, tqS]
    refine tk 3 (some 6) (.bool false) ?_ (hy := Or.inl ⟨by rfl, fun w hSw => exec_neV 30 _ _ rfl _ _ rfl rfl guardE _ _ (eqE w 9996 x x.used) (by rw [e1]; rfl)⟩)
    simp only [Act.put, tqA, tqZ, tqS]
    refine tk 4 (some 7) (.bool false) ?_
    simp only [Act.put, tqA, tqZ, tqS]
    refine tk 5 (some 8) (.pointer (some ⟨g1, 1, none⟩)) ?_
    simp only [Act.put, tqA, tqZ, tqS]
    refine tk 6 (some 9) (.int .i64 x.o) ?_ (hy := Or.inl ⟨by rfl, by intro w hSw; have hq : w.cell? ⟨g1, 1, none⟩ = some (.int .i64 x.o) := Cel.cell hSw 1; go_simp⟩)
    simp only [Act.put, tqA, tqZ, tqS]
    refine wpAnyH_ready (rs := [7]) (by kernel_rfl) (by simp) (AllReadyH.cons rfl (fun KQ hK => ?_) AllReadyH.nil)
    go_simp
    refine (below_any _ x.o).mono ?_
    rintro e w2 ⟨rfl, rfl⟩
    rw [e2]
    go_wp2_with fail
    refine hK.out _ _ HC1.out (fun hHeld => ?_)
    clear hK KQ
    try simp only [Act.put, tqA, tqZ, tqS]
    refine tk 8 (some 11) (.bool false) ?_
    simp only [Act.put, tqA, tqZ, tqS]
    refine tk 9 (some 12) (.bool false) ?_
    simp only [Act.put, tqA, tqZ, tqS]
    refine tk 10 (some 13) (.bool false) ?_
    simp only [Act.put, tqA, tqZ, tqS]
    refine tk 11 (some 14) (.pointer (some ⟨g1, 2, none⟩)) ?_
    simp only [Act.put, tqA, tqZ, tqS]
    refine tk 12 (some 15) (.int .i64 x.r) ?_ (hy := Or.inl ⟨by rfl, by intro w hSw; have hq : w.cell? ⟨g1, 2, none⟩ = some (.int .i64 x.r) := Cel.cell hSw 2; go_simp⟩)
    simp only [Act.put, tqA, tqZ, tqS]
    refine wpAnyH_ready (rs := [13]) (by kernel_rfl) (by simp) (AllReadyH.cons rfl (fun KQ hK => ?_) AllReadyH.nil)
    go_simp
    refine (below_any _ x.r).mono ?_
    rintro e w3 ⟨rfl, rfl⟩
    rw [e3]
    go_wp2_with fail
    refine hK.out _ _ HC1.out (fun hHeld => ?_)
    clear hK KQ
    try simp only [Act.put, tqA, tqZ, tqS]
    refine tk 14 (some 17) (.bool false) ?_
    simp only [Act.put, tqA, tqZ, tqS]
    refine tk 15 (some 18) (.bool false) ?_
    simp only [Act.put, tqA, tqZ, tqS]
    refine tk 16 (some 19) (.bool false) ?_
    simp only [Act.put, tqA, tqZ, tqS]
    refine tk 17 (some 20) (.pointer (some ⟨g1, 3, none⟩)) ?_
    simp only [Act.put, tqA, tqZ, tqS]
    refine tk 18 (some 21) (.int .i64 x.s) ?_ (hy := Or.inl ⟨by rfl, by intro w hSw; have hq : w.cell? ⟨g1, 3, none⟩ = some (.int .i64 x.s) := Cel.cell hSw 3; go_simp⟩)
    simp only [Act.put, tqA, tqZ, tqS]
    refine tk 19 (some 22) (.pointer (some ⟨g1, 0, none⟩)) ?_
    simp only [Act.put, tqA, tqZ, tqS]
    refine tk 20 (some 23) (.int .i64 x.t) ?_ (hy := Or.inl ⟨by rfl, by intro w hSw; have hq : w.cell? ⟨g1, 0, none⟩ = some (.int .i64 x.t) := Cel.cell hSw 0; go_simp⟩)
    simp only [Act.put, tqA, tqZ, tqS]
    refine wpAnyH_ready (rs := [21]) (by kernel_rfl) (by simp) (AllReadyH.cons rfl (fun KQ hK => ?_) AllReadyH.nil)
    go_simp
    refine (fits_any _ x.s x.t).mono ?_
    rintro e w4 ⟨rfl, rfl⟩
    rw [e4]
    go_wp2_with fail
    refine hK.out _ _ HC1.out (fun hHeld => ?_)
    clear hK KQ
    try simp only [Act.put, tqA, tqZ, tqS]
    refine tk 22 (some 25) (.bool true) ?_
    simp only [Act.put, tqA, tqZ, tqS]
    refine tk 23 (some 26) (.bool true) ?_
    simp only [Act.put, tqA, tqZ, tqS]
    refine wpAnyH_done (by kernel_rfl) ?_ _

    go_wp2_with fail
    go_ret
    exact ⟨by rw [hk]; rfl, HB1.out⟩
  · have hk : chk x = 0 := by simp [chk, En.ok, e1, e2, e3, e4]
    refine wp_region_held_drew (S := fun w => Cel w g1 30 x.cs) (by kernel_rfl) HC0.out (fun hHeld => ?_)
    refine tk 0 (some 3) x.v ?_ (hy := yieldsIf_load_mid (by rfl) _ _ rfl _ _ rfl _ _ (fun w hSw => hSw.range) underE rfl (by rw [sizeE]; rfl))
    simp only [Act.put, tqA, tqZ, tqS]
    refine tk 1 (some 4) x.v ?_ (hy := yieldsIf_load_mid (by rfl) _ _ rfl _ _ rfl _ _ (fun w hSw => hSw.range) underE rfl (by rw [sizeE]; rfl))
    simp only [Act.put, tqA, tqZ, tqS]
    refine wpAnyH_ready (rs := [2]) (by kernel_rfl) (by simp) (AllReadyH.cons rfl (fun KQ hK => ?_) AllReadyH.nil)
    go_simp
    refine (used_any _ x).mono ?_
    rintro e w1 ⟨rfl, hb1⟩
    have HC1 := hid (HC0.out.on hb1)
    have HB1 := hid (below_on HB0.out hb1)
    clear hb1
    go_wp2_with fail
    refine hK.out _ _ HC1.out (fun hHeld => ?_)
    clear hK KQ
    try simp only [Act.put, tqA, tqZ, tqS]
    refine tk 3 (some 6) (.bool false) ?_ (hy := Or.inl ⟨by rfl, fun w hSw => exec_neV 30 _ _ rfl _ _ rfl rfl guardE _ _ (eqE w 9996 x x.used) (by rw [e1]; rfl)⟩)
    simp only [Act.put, tqA, tqZ, tqS]
    refine tk 4 (some 7) (.bool false) ?_
    simp only [Act.put, tqA, tqZ, tqS]
    refine tk 5 (some 8) (.pointer (some ⟨g1, 1, none⟩)) ?_
    simp only [Act.put, tqA, tqZ, tqS]
    refine tk 6 (some 9) (.int .i64 x.o) ?_ (hy := Or.inl ⟨by rfl, by intro w hSw; have hq : w.cell? ⟨g1, 1, none⟩ = some (.int .i64 x.o) := Cel.cell hSw 1; go_simp⟩)
    simp only [Act.put, tqA, tqZ, tqS]
    refine wpAnyH_ready (rs := [7]) (by kernel_rfl) (by simp) (AllReadyH.cons rfl (fun KQ hK => ?_) AllReadyH.nil)
    go_simp
    refine (below_any _ x.o).mono ?_
    rintro e w2 ⟨rfl, rfl⟩
    rw [e2]
    go_wp2_with fail
    refine hK.out _ _ HC1.out (fun hHeld => ?_)
    clear hK KQ
    try simp only [Act.put, tqA, tqZ, tqS]
    refine tk 8 (some 11) (.bool false) ?_
    simp only [Act.put, tqA, tqZ, tqS]
    refine tk 9 (some 12) (.bool false) ?_
    simp only [Act.put, tqA, tqZ, tqS]
    refine tk 10 (some 13) (.bool false) ?_
    simp only [Act.put, tqA, tqZ, tqS]
    refine tk 11 (some 14) (.pointer (some ⟨g1, 2, none⟩)) ?_
    simp only [Act.put, tqA, tqZ, tqS]
    refine tk 12 (some 15) (.int .i64 x.r) ?_ (hy := Or.inl ⟨by rfl, by intro w hSw; have hq : w.cell? ⟨g1, 2, none⟩ = some (.int .i64 x.r) := Cel.cell hSw 2; go_simp⟩)
    simp only [Act.put, tqA, tqZ, tqS]
    refine wpAnyH_ready (rs := [13]) (by kernel_rfl) (by simp) (AllReadyH.cons rfl (fun KQ hK => ?_) AllReadyH.nil)
    go_simp
    refine (below_any _ x.r).mono ?_
    rintro e w3 ⟨rfl, rfl⟩
    rw [e3]
    go_wp2_with fail
    refine hK.out _ _ HC1.out (fun hHeld => ?_)
    clear hK KQ
    try simp only [Act.put, tqA, tqZ, tqS]
    refine tk 14 (some 17) (.bool false) ?_
    simp only [Act.put, tqA, tqZ, tqS]
    refine tk 15 (some 18) (.bool false) ?_
    simp only [Act.put, tqA, tqZ, tqS]
    refine tk 16 (some 19) (.bool false) ?_
    simp only [Act.put, tqA, tqZ, tqS]
    refine tk 17 (some 20) (.pointer (some ⟨g1, 3, none⟩)) ?_
    simp only [Act.put, tqA, tqZ, tqS]
    refine tk 18 (some 21) (.int .i64 x.s) ?_ (hy := Or.inl ⟨by rfl, by intro w hSw; have hq : w.cell? ⟨g1, 3, none⟩ = some (.int .i64 x.s) := Cel.cell hSw 3; go_simp⟩)
    simp only [Act.put, tqA, tqZ, tqS]
    refine tk 19 (some 22) (.pointer (some ⟨g1, 0, none⟩)) ?_
    simp only [Act.put, tqA, tqZ, tqS]
    refine tk 20 (some 23) (.int .i64 x.t) ?_ (hy := Or.inl ⟨by rfl, by intro w hSw; have hq : w.cell? ⟨g1, 0, none⟩ = some (.int .i64 x.t) := Cel.cell hSw 0; go_simp⟩)
    simp only [Act.put, tqA, tqZ, tqS]
    refine wpAnyH_ready (rs := [21]) (by kernel_rfl) (by simp) (AllReadyH.cons rfl (fun KQ hK => ?_) AllReadyH.nil)
    go_simp
    refine (fits_any _ x.s x.t).mono ?_
    rintro e w4 ⟨rfl, rfl⟩
    rw [e4]
    go_wp2_with fail
    refine hK.out _ _ HC1.out (fun hHeld => ?_)
    clear hK KQ
    try simp only [Act.put, tqA, tqZ, tqS]
    refine tk 22 (some 25) (.bool false) ?_
    simp only [Act.put, tqA, tqZ, tqS]
    refine tk 23 (some 26) (.bool false) ?_
    simp only [Act.put, tqA, tqZ, tqS]
    refine wpAnyH_done (by kernel_rfl) ?_ _

    go_wp2_with fail
    go_ret
    exact ⟨by rw [hk]; rfl, HB1.out⟩
set_option maxHeartbeats 8000000
set_option maxRecDepth 100000
theorem w64 (x : Int) (h0 : 0 ≤ x) (h1 : x < 4294967296) : wrap64 x = x := by unfold wrap64; omega
theorem fields_any (W : World) (a b : Int) (a0 : 0 ≤ a) (a1 : a < 4294967296) (b0 : 0 ≤ b) (b1 : b < 4294967296) : Calls Tryz.prog 150 #[twoV a b] W fun e W' => e = .returned (fld a b).v ∧ Below W.heap.size W W' := by
  have HX := hid (Bx.new W 162 30 (two a b) En.zero.cs)
  have h1 : bits .and .u32 a 7 = a % 8 := by have := and_mask 3 7 a (by simp) a0 a1 (by decide); simpa using this
  have h2 : bits .and .u32 (a / 65536) 63 = a / 65536 % 64 := by have := and_mask 6 63 (a / 65536) (by simp) (by omega) (by omega) (by decide); simpa using this
  have h3 : bits .and .u32 b 63 = b % 64 := by have := and_mask 6 63 b (by simp) b0 b1 (by decide); simpa using this
  have h4 : bits .and .u32 (a / 16) 3 = a / 16 % 4 := by have := and_mask 2 3 (a / 16) (by simp) (by omega) (by omega) (by decide); simpa using this
  have h5 : bits .and .u32 (a / 256) 1 = a / 256 % 2 := by have := and_mask 1 1 (a / 256) (by simp) (by omega) (by omega) (by decide); simpa using this
  have k1 : wrap64 (a % 8) = a % 8 := w64 _ (by omega) (by omega)
  have k2 : wrap64 (a / 65536 % 64) = a / 65536 % 64 := w64 _ (by omega) (by omega)
  have k3 : wrap64 (b % 64) = b % 64 := w64 _ (by omega) (by omega)
  have k4 : wrap64 (a / 16 % 4) = a / 16 % 4 := w64 _ (by omega) (by omega)
  simp only [En.v, twoV, two, En.zero, En.cs, fld] at HX ⊢
  generalize q1 : a % 8 = x1 at *
  generalize q2 : a / 65536 % 64 = x2 at *
  generalize q3 : b % 64 = x3 at *
  generalize q4 : a / 16 % 4 = x4 at *
  generalize q5 : a / 256 % 2 = x5 at *
  clear q1 q2 q3 q4 q5
  go_enter Tryz.func150, Tryz.ntmps150
  go_upto_region 1 with fail
  generalize hX : (W.alloc _).alloc _ = X at *
  clear hX
  generalize W.heap.size + 1 = g2 at *
  generalize W.heap.size = g1 at *
  have c0 := HX.out.a.cell 0
  have c1 := HX.out.a.cell 1
  simp only [tqG, tqH] at c0 c1
  go_wp2_with (refine wpList_store_st rfl 30 _ _ rfl g2 [Value.int .i64 x1, .int .i64 x2, .int .i64 x3, .int .i64 x4, .bool (x5 == 1)] rfl rfl HX.out.b sizeE rfl rfl ?_; intro w2 hc2 hb2 hs2; have HF := hid (HX.out.put hc2 hb2); clear hc2 hb2 hs2)
  exact ret_st rfl rfl g2 _ rfl HF.out.1 underE rfl (by rw [sizeE]; rfl) ⟨rfl, HF.out.2⟩
theorem or_enc {x : En} (h : x.Ok) : bits .or .u32 (bits .or .u32 (x.t % 4294967296) (x.s % 4294967296 * 16 % 4294967296)) (x.o % 4294967296 * 65536 % 4294967296) = x.t + 16 * x.s + 65536 * x.o := by
  obtain ⟨t0, t1, o0, o1, r0, r1, s0, s1, z, sp, ns, en⟩ := h
  rw [show x.t % 4294967296 = x.t by omega, show x.s % 4294967296 * 16 % 4294967296 = x.s * 16 by omega, show x.o % 4294967296 * 65536 % 4294967296 = x.o * 65536 by omega]
  rw [or_add 4 x.t (x.s * 16) x.s (by simp) t0 (by simp; omega) s0 (by omega) (by omega), or_add 16 _ (x.o * 65536) x.o (by simp) (by omega) (by simp; omega) o0 (by omega) (by omega)]
  omega
theorem encode_any (W : World) (x : En) : Calls Tryz.prog 100 #[x.v] W fun e W' => e = .returned (.tuple #[twoV (e0 x) (e1 x), .int .i64 (chk x)]) ∧ Below W.heap.size W W' := by
  have HX := hid (Bx.new W 30 162 x.cs (two 0 0))
  have HK := hid (fun W => check_any W x)
  cases hok : x.ok
  · have hc : chk x = 110 := by simp [chk, hok]
    have h0 : e0 x = 0 := by simp [e0, hok]
    have h1 : e1 x = 0 := by simp [e1, hok]
    rw [hc] at HK
    rw [hc, h0, h1]
    clear hc h0 h1 hok
    simp only [twoV, two, En.v] at *
    go_enter Tryz.func100, Tryz.ntmps100
    go_upto_region 1 with fail
    generalize hX : (W.alloc _).alloc _ = X at *
    clear hX
    generalize W.heap.size + 1 = g2 at *
    generalize W.heap.size = g1 at *
    go_wp2_with (first | (refine wpList_load_mid rfl 30 _ rfl g1 0 rfl _ _ HX.out.a.range underE rfl (by rw [sizeE]; rfl) ?_) | (go_at_call 137; refine (HK.out _).mono ?_; rintro e w1 ⟨rfl, hb1⟩; have HX1 := hid (HX.out.on hb1); clear hb1) | (refine wpList_store_st rfl 162 _ _ rfl g2 (two 0 0) rfl rfl HX1.out.b sizeA rfl rfl ?_; intro w2 hc2 hb2 hs2; have HF := hid (HX1.out.put hc2 hb2); clear hc2 hb2 hs2))
    exact ret_st2 rfl rfl g2 _ rfl HF.out.1 underA rfl sizeA ⟨rfl, HF.out.2⟩
  · have hO := x.ok_iff.1 hok
    have hc : chk x = 0 := by simp [chk, hok]
    have h0 : e0 x = x.w := by simp [e0, hok]
    have h1 : e1 x = x.r := by simp [e1, hok]
    have q1 : bits .or .u32 (bits .or .u32 (x.t % 4294967296) (x.s % 4294967296 * 16 % 4294967296)) (x.o % 4294967296 * 65536 % 4294967296) = x.t + 16 * x.s + 65536 * x.o := or_enc hO
    have q2 : x.r % 4294967296 = x.r := by have := hO.r0; have := hO.r1; omega
    have q3 : x.e = false → x.t + 16 * x.s + 65536 * x.o = x.w := fun he => by rw [En.w, he]; simp
    have q4 : x.e = true → bits .or .u32 (x.t + 16 * x.s + 65536 * x.o) 256 = x.w := fun he => by
      have ht := hO.en he
      have hs := (hO.ns (by omega)).2
      have := or_256 x.o hO.o0 hO.o1
      rw [En.w, he, ht, hs]
      simpa using this
    rw [hc] at HK
    rw [hc, h0, h1]
    clear hc h0 h1 hok hO
    simp only [twoV, two, En.v] at HX HK ⊢
    generalize x.t + 16 * x.s + 65536 * x.o = y at *
    generalize x.w = xw at *
    obtain ⟨t, o, r, s, e⟩ := x
    simp only [En.cs] at *
    go_enter Tryz.func100, Tryz.ntmps100
    go_upto_region 1 with fail
    generalize hX : (W.alloc _).alloc _ = X at *
    clear hX
    generalize W.heap.size + 1 = g2 at *
    generalize W.heap.size = g1 at *
    have HQ := hid (And.intro q1 (And.intro q2 (And.intro q3 q4)))
    clear q1 q2 q3 q4
    go_upto_region 2 with (first | (refine wpList_load_mid rfl 30 _ rfl g1 0 rfl _ _ HX.out.a.range underE rfl (by rw [sizeE]; rfl) ?_) | (go_at_call 137; refine (HK.out _).mono ?_; rintro e1 w1 ⟨rfl, hb1⟩; have HX1 := hid (HX.out.on hb1); clear hb1))
    have c0 := HX1.out.a.cell 0
    have c1 := HX1.out.a.cell 1
    have c2 := HX1.out.a.cell 2
    have c3 := HX1.out.a.cell 3
    have c4 := HX1.out.a.cell 4
    simp only [tqG, tqH] at c0 c1 c2 c3 c4
    obtain ⟨q1, q2, q3, q4⟩ := HQ.out
    clear HQ
    cases e
    · have q5 := q3 rfl
      subst q5
      clear q3 q4
      go_wp2_with (refine wpList_store_st rfl 162 _ _ rfl g2 [Value.int .u32 y, .int .u32 r] rfl rfl HX1.out.b sizeA rfl rfl ?_; intro w2 hc2 hb2 hs2; have HF := hid (HX1.out.put hc2 hb2); clear hc2 hb2 hs2)
      exact ret_st2 rfl rfl g2 _ rfl HF.out.1 underA rfl sizeA ⟨rfl, HF.out.2⟩
    · have q5 := q4 rfl
      clear q3 q4
      go_wp2_with (refine wpList_store_st rfl 162 _ _ rfl g2 [Value.int .u32 xw, .int .u32 r] rfl rfl HX1.out.b sizeA rfl rfl ?_; intro w2 hc2 hb2 hs2; have HF := hid (HX1.out.put hc2 hb2); clear hc2 hb2 hs2)
      exact ret_st2 rfl rfl g2 _ rfl HF.out.1 underA rfl sizeA ⟨rfl, HF.out.2⟩
set_option maxHeartbeats 8000000
set_option maxRecDepth 100000
theorem e0_range (x : En) : 0 ≤ e0 x ∧ e0 x < 4294967296 := by
  unfold e0
  split
  · rename_i h; exact En.w_range (x.ok_iff.1 h)
  · decide
theorem new_store {w w2 : World} {t u : TypeId} {g : Nat} {cs ds : List Value} (hc : Cel w g t cs) (hb : ButL [w.heap.size] (w.alloc (.cells ds.toArray u)) w2) : Cel w2 g t cs :=
  (hc.on (below_one w _)).but hb (by have := hc.lt; simp; omega)
theorem new_below {W w w2 : World} {u : TypeId} {ds : List Value} (h : Below W.heap.size W w) (hb : ButL [w.heap.size] (w.alloc (.cells ds.toArray u)) w2) : Below W.heap.size W w2 :=
  (below_on h (below_one w (.cells ds.toArray u))).trans (hb.below (B := W.heap.size) (by simpa using h.size) (by have := h.size; rw [World.size_alloc]; omega))
structure B4 (W x : World) (g1 g2 g4 g5 : Nat) (a b : List Value) (y : En) (c : List Value) : Prop where
  c1 : Cel x g1 162 a
  c2 : Cel x g2 30 b
  c4 : Cel x g4 30 y.cs
  c5 : Cel x g5 162 c
  below : Below W.heap.size W x
  l2 : W.heap.size ≤ g2
theorem B4.put {W x x' : World} {g1 g2 g4 g5 : Nat} {a b c es : List Value} {y : En} (k : B4 W x g1 g2 g4 g5 a b y c) (hc : Cel x' g2 30 es) (hb : ButL [g2] x x') : Cel x' g2 30 es ∧ Below W.heap.size W x' :=
  ⟨hc, k.below.trans (hb.below (B := W.heap.size) (by simpa using k.l2) k.below.size)⟩
theorem wpList_load_g {ops : Array Oper} {rest : List Oper} {o : Oper} {a : Act} {w : World} {Q : Exit → Act → World → Prop} (hw : Region.wanted o (yielded ops a.tmps) = true) (T : TypeId) (x : Operand) (ho : o.op = .load T x)
    (g : Nat) {t : TypeId} {cs : List Value} {d : TypeDesc} (hx : a.eval x = .pointer (some ⟨g, 0, none⟩)) (hg : Cel w g t cs) (hd : (match d with | .struct _ | .array _ _ => true | _ => false) = true) (hu : Tryz.prog.underlying T = some d) (hs : (Tryz.prog.info? T).map (·.size) = some cs.length)
    (h : wpList Tryz.prog ops Q rest (a.put o.dst (.agg cs.toArray)) w) : wpList Tryz.prog ops Q (o :: rest) a w := by
  rw [wpList, if_pos hw]
  exact .inl (wp_load_mid T x ho g 0 hx _ _ hg.range hu hd hs h)
theorem decode_any (W : World) (a b : Int) (a0 : 0 ≤ a) (a1 : a < 4294967296) (b0 : 0 ≤ b) (b1 : b < 4294967296) : Calls Tryz.prog 134 #[twoV a b] W fun e W' => e = .returned (.tuple #[(dec a b).v, .int .i64 (decE a b)]) ∧ Below W.heap.size W W' := by
  have HX := hid (Bx.new W 162 30 (two a b) En.zero.cs)
  have HF := hid (fun W => fields_any W a b a0 a1 b0 b1)
  have HE := hid (fun W => encode_any W (fld a b))
  have hd1 : (fld a b).ok = false → dok a b = false := fun h => by simp [dok, h]
  have hd2 : (fld a b).ok = true → dok a b = same2 (e0 (fld a b)) (e1 (fld a b)) a b := fun h => by simp [dok, h]
  have hk1 : (fld a b).ok = false → chk (fld a b) = 110 := fun h => by simp [chk, h]
  have hk2 : (fld a b).ok = true → chk (fld a b) = 0 := fun h => by simp [chk, h]
  have hv1 : dok a b = false → dec a b = En.zero ∧ decE a b = 110 := fun h => by simp [dec, decE, h]
  have hv2 : dok a b = true → dec a b = fld a b ∧ decE a b = 0 := fun h => by simp [dec, decE, h]
  generalize hx : fld a b = x at *
  clear hx a0 a1 b0 b1
  generalize dec a b = D at *
  generalize decE a b = DE at *
  generalize dok a b = dk at *
  generalize chk x = ck at *
  generalize e0 x = v0 at *
  generalize e1 x = v1 at *
  have HH := hid (And.intro hd1 (And.intro hd2 (And.intro hk1 (And.intro hk2 (And.intro hv1 hv2)))))
  clear hd1 hd2 hk1 hk2 hv1 hv2
  simp only [twoV, En.v] at *
  simp only [En.zero, En.cs] at HX
  go_enter Tryz.func134, Tryz.ntmps134
  go_upto_region 1 with fail
  generalize hX : (W.alloc _).alloc _ = X at *
  clear hX
  generalize W.heap.size + 1 = g2 at *
  generalize W.heap.size = g1 at *
  go_upto_region 2 with (first | (refine wpList_load_mid rfl 162 _ rfl g1 0 rfl _ _ HX.out.a.range underA rfl (by rw [sizeA]; rfl) ?_) | (go_at_call 150; refine (HF.out _).mono ?_; rintro e w1 ⟨rfl, hb1⟩; have HX1 := hid (HX.out.on hb1); clear hb1) | (refine wpList_store_st rfl 30 _ _ rfl w1.heap.size x.cs rfl rfl (Cel.new w1 30 En.zero.cs) sizeE rfl rfl ?_; intro w2 hc2 hb2 hs2; have H4 := hid hc2; have HX2 : Hid (Bx W w2 g1 g2 162 30 (two a b) En.zero.cs) := hid ⟨new_store HX1.out.a hb2, new_store HX1.out.b hb2, new_below HX1.out.below hb2, HX1.out.lh⟩; clear hc2 hb2 hs2))
  clear HX HX1 HF
  generalize w1.heap.size = g4 at *
  go_upto_region 3 with (first | (refine wpList_load_mid rfl 30 _ rfl g4 0 rfl _ _ H4.out.range underE rfl (by rw [sizeE]; rfl) ?_) | (go_at_call 100; refine (HE.out _).mono ?_; rintro e w3 ⟨rfl, hb3⟩; have HX3 := hid (HX2.out.on hb3); have H43 := hid (H4.out.on hb3); clear hb3) | (refine wpList_store_st rfl 162 _ _ rfl w3.heap.size (two v0 v1) rfl rfl (Cel.new w3 162 (two 0 0)) sizeA rfl rfl ?_; intro w4 hc4 hb4 hs4; have HK : Hid (B4 W w4 g1 g2 g4 w3.heap.size (two a b) En.zero.cs x (two v0 v1)) := hid ⟨new_store HX3.out.a hb4, new_store HX3.out.b hb4, new_store H43.out hb4, hc4, new_below HX3.out.below hb4, HX3.out.lh⟩; clear hc4 hb4 hs4))
  clear HX2 HX3 H4 H43 HE
  generalize w3.heap.size = g5 at *
  obtain ⟨hd1, hd2, hk1, hk2, hv1, hv2⟩ := HH.out
  clear HH
  cases hok : x.ok
  · have k1 := hk1 hok
    obtain ⟨k2, k3⟩ := hv1 (hd1 hok)
    subst k1 k2 k3
    clear hd1 hd2 hk1 hk2 hv1 hv2 hok
    go_wp2_with (refine wpList_store_st rfl 30 _ _ rfl g2 En.zero.cs rfl rfl HK.out.c2 sizeE rfl rfl ?_; intro w5 hc5 hb5 hs5; have HF := hid (HK.out.put hc5 hb5); clear hc5 hb5 hs5)
    exact ret_st2 rfl rfl g2 _ rfl HF.out.1 underE rfl sizeE ⟨rfl, HF.out.2⟩
  · have k1 := hk2 hok
    have k2 := hd2 hok
    subst k1 k2
    clear hd1 hd2 hk1 hk2 hok
    cases hs : same2 v0 v1 a b
    · obtain ⟨k2, k3⟩ := hv1 hs
      subst k2 k3
      clear hv1 hv2
      have HS := hid hs
      clear hs
      go_wp2_with (first | (refine wpList_load_g rfl 162 _ rfl g5 rfl HK.out.c5 rfl underA sizeA ?_) | (refine wpList_load_g rfl 162 _ rfl g1 rfl HK.out.c1 rfl underA sizeA ?_) | (refine wpList_ne rfl 162 _ _ rfl _ _ rfl rfl guardA false (by rw [← HS.out]; exact run_equalIn_two _ 9998 v0 v1 a b) ?_) | (refine wpList_store_st rfl 30 _ _ rfl g2 En.zero.cs rfl rfl HK.out.c2 sizeE rfl rfl ?_; intro w5 hc5 hb5 hs5; have HF := hid (HK.out.put hc5 hb5); clear hc5 hb5 hs5))
      exact ret_st2 rfl rfl g2 _ rfl HF.out.1 underE rfl sizeE ⟨rfl, HF.out.2⟩
    · obtain ⟨k2, k3⟩ := hv2 hs
      subst k2 k3
      clear hv1 hv2
      have HS := hid hs
      clear hs
      go_wp2_with (first | (refine wpList_load_g rfl 162 _ rfl g5 rfl HK.out.c5 rfl underA sizeA ?_) | (refine wpList_load_g rfl 162 _ rfl g1 rfl HK.out.c1 rfl underA sizeA ?_) | (refine wpList_load_g rfl 30 _ rfl g4 rfl HK.out.c4 rfl underE sizeE ?_) | (refine wpList_ne rfl 162 _ _ rfl _ _ rfl rfl guardA true (by rw [← HS.out]; exact run_equalIn_two _ 9998 v0 v1 a b) ?_) | (refine wpList_store_st rfl 30 _ _ rfl g2 D.cs rfl rfl HK.out.c2 sizeE rfl rfl ?_; intro w5 hc5 hb5 hs5; have HF := hid (HK.out.put hc5 hb5); clear hc5 hb5 hs5))
      exact ret_st2 rfl rfl g2 _ rfl HF.out.1 underE rfl sizeE ⟨rfl, HF.out.2⟩
structure Bag (W x : World) (L : List (Nat × TypeId × List Value)) : Prop where
  all : ∀ p ∈ L, Cel x p.1 p.2.1 p.2.2
  below : Below W.heap.size W x
theorem Bag.get {W x : World} {L : List (Nat × TypeId × List Value)} (h : Bag W x L) (k : Nat) {g : Nat} {t : TypeId} {cs : List Value} (hk : L[k]? = some (g, t, cs)) : Cel x g t cs := h.all _ (List.mem_of_getElem? hk)
theorem Bag.on {W x x' : World} {L : List (Nat × TypeId × List Value)} (h : Bag W x L) (hb : Below x.heap.size x x') : Bag W x' L := ⟨fun p hp => (h.all p hp).on hb, below_on h.below hb⟩
theorem Bag.add {W w w2 : World} {L : List (Nat × TypeId × List Value)} {u : TypeId} {ds es : List Value} (h : Bag W w L) (hc : Cel w2 w.heap.size u es) (hb : ButL [w.heap.size] (w.alloc (.cells ds.toArray u)) w2) : Bag W w2 ((w.heap.size, u, es) :: L) :=
  ⟨fun p hp => by
    rcases List.mem_cons.1 hp with rfl | hp
    · exact hc
    · exact new_store (h.all p hp) hb, new_below h.below hb⟩
theorem Bag.two (W : World) (t u : TypeId) (cs ds : List Value) : Bag W ((W.alloc (.cells cs.toArray t)).alloc (.cells ds.toArray u)) [(W.heap.size + 1, u, ds), (W.heap.size, t, cs)] := by
  have h := Bx.new W t u cs ds
  refine ⟨fun p hp => ?_, h.below⟩
  simp only [List.mem_cons, List.not_mem_nil, or_false] at hp
  rcases hp with rfl | rfl
  · exact h.b
  · exact h.a
theorem e1_range (x : En) : 0 ≤ e1 x ∧ e1 x < 4294967296 := by
  unfold e1
  split
  · rename_i h; have := (x.ok_iff.1 h).r0; have := (x.ok_iff.1 h).r1; omega
  · decide
theorem dec_w {x : En} (h : x.ok = true) : dec (e0 x) (e1 x) = x ∧ decE (e0 x) (e1 x) = 0 := by
  have := dok_w h
  unfold dec decE
  rw [if_pos this.1, if_pos this.1]
  exact ⟨this.2, rfl⟩
theorem chk_yes {x : En} (h : x.ok = true) : chk x = 0 := by unfold chk; rw [if_pos h]
end Go.Proofs.YtdfnbcbnmiohnaaGreatDoor
