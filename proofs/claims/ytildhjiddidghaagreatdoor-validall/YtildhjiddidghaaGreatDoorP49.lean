import Derived.Test.YtildhjiddidghaaGreatDoorP48
import Derived.Test.YtildhjiddidghaaGreatDoorP01
import Derived.Test.YtildhjiddidghaaGreatDoorP43
namespace Go.Proofs.YtildhjiddidghaaGreatDoor
open Go.RowKit
set_option maxHeartbeats 8000000
set_option maxRecDepth 100000
theorem at_d (w : World) (p : Rp) (d : DS) (h : RDB w p d) (hu : d.m.U) (k : Nat) (hk : k < d.m.ns) (c : Nat) (h1 : 1 ≤ c) (h2 : c ≤ 12) :
    Calls Tryz.prog 91 #[ptr p.g, .int .i64 (c : Int), .int .i64 (k : Int)] w fun e w' => e = .returned (.bool (d.at12 c k)) ∧ Below w.heap.size w w' := by
  have HX := hid h
  have HZ := hid (fun w (h : RDB w p d) => zero_d w p d h (k : Int) 0 1024 (by decide) (by decide))
  have HS := hid (fun w (h : RDB w p d) => isOwn_d w p d h k hk)
  have HO := hid (fun w (h : RDB w p d) => rowned_any w p d h (k : Int))
  have HB := hid (fun w (h : RDB w p d) => births_d w p d h hu k hk)
  have HWd := hid (fun w (h : RDB w p d) => words_d w p d h hu k hk)
  have HF := hid (fun w (h : RDB w p d) => first_d w p d h hu k hk)
  have HA := hid (fun w (h : RDB w p d) => aliveN_d w p d h k hk)
  have HN := hid (fun w (h : RDB w p d) => names_d w p d h hu k hk)
  have HM := hid (fun w (h : RDB w p d) => maps_d w p d h hu k hk)
  have HOn := hid (fun (ht : (d.at k).t = 5) w (h : RDB w p d) => once_d w p d h hu k hk ht)
  have HT := hid (fun w (h : RDB w p d) => thread_d w p d h k hk)
  have hmc : (d.mcL d.m.ns).getD k 0 = d.mc d.m.ns k := by
    unfold DS.mcL
    rw [List.getD_eq_getElem?_getD, List.getElem?_map, List.getElem?_range hk]
    rfl
  have x1 := h.c1
  have HRg := hid (h.rng k hk)
  have q1 : (k : Int) < (d.m.ns : Int) := by omega
  have q2 := h.ok.n64
  obtain ⟨R, hR⟩ : ∃ R, d.at12 c k = R := ⟨_, rfl⟩
  rw [hR]
  unfold DS.at12 at hR
  have F1 : Hid (c = 1 → ((d.at k).t != 1 || ((d.at k).o == (k : Int))) = R) := hid (fun e => by rw [← hR, e]; rfl)
  have F2 : Hid (c = 2 → ((d.at k).t != 0 || d.zr (k : Int) 0 1024) = R) := hid (fun e => by rw [← hR, e]; rfl)
  have F3 : Hid (c = 3 → ((d.at k).t == 0 || ((d.at k).t == 1 || d.hasSp k)) = R) := hid (fun e => by rw [← hR, e]; rfl)
  have F4 : Hid (c = 4 → ((d.at k).t != 1 || ((d.at k).r == ((d.owned (k : Int)).length : Int))) = R) := hid (fun e => by rw [← hR, e]; rfl)
  have F5 : Hid (c = 5 → ((d.at k).t != 1 || d.born1 k) = R) := hid (fun e => by rw [← hR, e]; rfl)
  have F6 : Hid (c = 6 → ((d.at k).t != 1 || d.fits k) = R) := hid (fun e => by rw [← hR, e]; rfl)
  have F7 : Hid (c = 7 → ((d.at k).t != 1 || d.one1 k) = R) := hid (fun e => by rw [← hR, e]; rfl)
  have F8 : Hid (c = 8 → ((d.at k).t != 3 || (!(d.alive k) || d.names k)) = R) := hid (fun e => by rw [← hR, e]; rfl)
  have F9 : Hid (c = 9 → ((d.at k).t != 4 || (!(d.alive k) || d.mays k)) = R) := hid (fun e => by rw [← hR, e]; rfl)
  have F10 : Hid (c = 10 → ((d.at k).t != 5 || (!(d.alive k) || (((d.mc d.m.ns k : Nat) : Int) == 1))) = R) := hid (fun e => by rw [← hR, e, ← hmc]; rfl)
  have F11 : Hid (c = 11 → ((d.at k).t != 2 || d.thr k) = R) := hid (fun e => by rw [← hR, e]; rfl)
  have F12 : Hid (c = 12 → ((d.at k).t != 6 || d.zr (k : Int) 0 1024) = R) := hid (fun e => by rw [← hR, e]; rfl)
  have hc : c = 1 ∨ c = 2 ∨ c = 3 ∨ c = 4 ∨ c = 5 ∨ c = 6 ∨ c = 7 ∨ c = 8 ∨ c = 9 ∨ c = 10 ∨ c = 11 ∨ c = 12 := by omega
  clear hR hmc h hu hk h1 h2
  simp only [ptr, En.cs] at *
  generalize d.at k = E at *
  obtain ⟨et, eo, er, es, ee⟩ := E
  generalize d.zr (k : Int) 0 1024 = vz at *
  generalize d.hasSp k = vs at *
  generalize d.owned (k : Int) = ow at *
  generalize d.born1 k = vb at *
  generalize d.fits k = vf at *
  generalize d.one1 k = v1 at *
  generalize d.alive k = va at *
  generalize d.names k = vn at *
  generalize d.mays k = vm at *
  generalize (((d.mc d.m.ns k : Nat) : Int) == 1) = vc at *
  generalize d.thr k = vt at *
  generalize d.m.ns = n at *
  simp only at *
  rcases hc with rfl | rfl | rfl | rfl | rfl | rfl | rfl | rfl | rfl | rfl | rfl | rfl
  · have HR := hid (F1.out rfl)
    clear F1 F2 F3 F4 F5 F6 F7 F8 F9 F10 F11 F12
    have cI : (((1 : Nat) : Int)) = 1 := rfl
    rw [cI]
    clear cI
    go_enter Tryz.func91, Tryz.ntmps91
    go_upto_region 2 with (refine wpList_load_mid rfl 121 _ rfl p.ge (k * 5) rfl _ _ HRg.out underR rfl (by rw [sizeR]; rfl) ?_)
    have HP := hid ((PB.mk (L := []) (Below.refl w.heap.size w) (by simp) (by simp)).box 121 [.int .i64 et, .int .i64 eo, .int .i64 er, .int .i64 es, .bool ee])
    clear x1 HRg
    simp only [List.toArray] at HP
    generalize World.alloc _ _ = w2 at *
    generalize w.heap.size = g7 at HP ⊢
    have HXp := hid (HX.out.on HP.out.bl)
    have y0 : w2.cell? ⟨g7, 0, none⟩ = some (.int .i64 et) := (HP.out.get 0 rfl).cell 0
    have y1 : w2.cell? ⟨g7, 1, none⟩ = some (.int .i64 eo) := (HP.out.get 0 rfl).cell 1
    have y2 : w2.cell? ⟨g7, 2, none⟩ = some (.int .i64 er) := (HP.out.get 0 rfl).cell 2
    by_cases t1 : et = 1
    · subst t1
      have HV : Hid ((eo == (k : Int)) = R) := hid (by have := HR.out; simpa using this)
      go_wp2_with fail
      go_ret
      exact ⟨by rw [← HV.out]; rfl, HP.out.bl⟩
    · have b0 : (et != 1) = true := by simpa using t1
      have b1 : (et == 1) = false := by simpa using t1
      have HV : Hid (R = true) := hid (by have := HR.out; rw [b0] at this; simpa using this.symm)
      go_wp2_with fail
      go_ret
      exact ⟨by rw [HV.out]; rfl, HP.out.bl⟩
  · have HR := hid (F2.out rfl)
    clear F1 F2 F3 F4 F5 F6 F7 F8 F9 F10 F11 F12
    have cI : (((2 : Nat) : Int)) = 2 := rfl
    rw [cI]
    clear cI
    go_enter Tryz.func91, Tryz.ntmps91
    go_upto_region 2 with (refine wpList_load_mid rfl 121 _ rfl p.ge (k * 5) rfl _ _ HRg.out underR rfl (by rw [sizeR]; rfl) ?_)
    have HP := hid ((PB.mk (L := []) (Below.refl w.heap.size w) (by simp) (by simp)).box 121 [.int .i64 et, .int .i64 eo, .int .i64 er, .int .i64 es, .bool ee])
    clear x1 HRg
    simp only [List.toArray] at HP
    generalize World.alloc _ _ = w2 at *
    generalize w.heap.size = g7 at HP ⊢
    have HXp := hid (HX.out.on HP.out.bl)
    have y0 : w2.cell? ⟨g7, 0, none⟩ = some (.int .i64 et) := (HP.out.get 0 rfl).cell 0
    have y1 : w2.cell? ⟨g7, 1, none⟩ = some (.int .i64 eo) := (HP.out.get 0 rfl).cell 1
    have y2 : w2.cell? ⟨g7, 2, none⟩ = some (.int .i64 er) := (HP.out.get 0 rfl).cell 2
    by_cases t1 : et = 0
    · subst t1
      have HV : Hid (vz = R) := hid (by have := HR.out; simpa using this)
      go_wp2_with (go_at_call 126; refine (HZ.out _ HXp.out).mono ?_; rintro e w6 ⟨rfl, hb6⟩; have P6 := hid (HP.out.on hb6); clear hb6)
      go_ret
      exact ⟨by rw [← HV.out]; rfl, P6.out.bl⟩
    · have b0 : (et != 0) = true := by simpa using t1
      have b1 : (et == 0) = false := by simpa using t1
      have HV : Hid (R = true) := hid (by have := HR.out; rw [b0] at this; simpa using this.symm)
      go_wp2_with fail
      go_ret
      exact ⟨by rw [HV.out]; rfl, HP.out.bl⟩
  · have HR := hid (F3.out rfl)
    clear F1 F2 F3 F4 F5 F6 F7 F8 F9 F10 F11 F12
    have cI : (((3 : Nat) : Int)) = 3 := rfl
    rw [cI]
    clear cI
    go_enter Tryz.func91, Tryz.ntmps91
    go_upto_region 2 with (refine wpList_load_mid rfl 121 _ rfl p.ge (k * 5) rfl _ _ HRg.out underR rfl (by rw [sizeR]; rfl) ?_)
    have HP := hid ((PB.mk (L := []) (Below.refl w.heap.size w) (by simp) (by simp)).box 121 [.int .i64 et, .int .i64 eo, .int .i64 er, .int .i64 es, .bool ee])
    clear x1 HRg
    simp only [List.toArray] at HP
    generalize World.alloc _ _ = w2 at *
    generalize w.heap.size = g7 at HP ⊢
    have HXp := hid (HX.out.on HP.out.bl)
    have y0 : w2.cell? ⟨g7, 0, none⟩ = some (.int .i64 et) := (HP.out.get 0 rfl).cell 0
    have y1 : w2.cell? ⟨g7, 1, none⟩ = some (.int .i64 eo) := (HP.out.get 0 rfl).cell 1
    have y2 : w2.cell? ⟨g7, 2, none⟩ = some (.int .i64 er) := (HP.out.get 0 rfl).cell 2
    by_cases t1 : et = 1
    · subst t1
      have HV : Hid (R = true) := hid (by have := HR.out; simpa using this.symm)
      go_wp2_with fail
      go_ret
      exact ⟨by rw [HV.out]; rfl, HP.out.bl⟩
    · have b1 : (et == 1) = false := by simpa using t1
      by_cases t0 : et = 0
      · subst t0
        have HV : Hid (R = true) := hid (by have := HR.out; simpa using this.symm)
        go_wp2_with fail
        go_ret
        exact ⟨by rw [HV.out]; rfl, HP.out.bl⟩
      · have b0 : (et == 0) = false := by simpa using t0
        have HV : Hid (vs = R) := hid (by have := HR.out; rw [b0, b1] at this; simpa using this)
        go_wp2_with (go_at_call 127; refine (HS.out _ HXp.out).mono ?_; rintro e w6 ⟨rfl, hw⟩; subst hw)
        go_ret
        exact ⟨by rw [← HV.out]; rfl, HP.out.bl⟩
  · have HR := hid (F4.out rfl)
    clear F1 F2 F3 F4 F5 F6 F7 F8 F9 F10 F11 F12
    have cI : (((4 : Nat) : Int)) = 4 := rfl
    rw [cI]
    clear cI
    go_enter Tryz.func91, Tryz.ntmps91
    go_upto_region 2 with (refine wpList_load_mid rfl 121 _ rfl p.ge (k * 5) rfl _ _ HRg.out underR rfl (by rw [sizeR]; rfl) ?_)
    have HP := hid ((PB.mk (L := []) (Below.refl w.heap.size w) (by simp) (by simp)).box 121 [.int .i64 et, .int .i64 eo, .int .i64 er, .int .i64 es, .bool ee])
    clear x1 HRg
    simp only [List.toArray] at HP
    generalize World.alloc _ _ = w2 at *
    generalize w.heap.size = g7 at HP ⊢
    have HXp := hid (HX.out.on HP.out.bl)
    have y0 : w2.cell? ⟨g7, 0, none⟩ = some (.int .i64 et) := (HP.out.get 0 rfl).cell 0
    have y1 : w2.cell? ⟨g7, 1, none⟩ = some (.int .i64 eo) := (HP.out.get 0 rfl).cell 1
    have y2 : w2.cell? ⟨g7, 2, none⟩ = some (.int .i64 er) := (HP.out.get 0 rfl).cell 2
    by_cases t1 : et = 1
    · subst t1
      have HV : Hid ((er == (ow.length : Int)) = R) := hid (by have := HR.out; simpa using this)
      go_upto_region 11 with fail
      have P2 := hid (HP.out.on (Below.refl _ _).drew)
      have HXq := hid (HXp.out.on (Below.refl _ _).drew)
      clear HP HXp y0 y1 y2
      refine wp_region_held_drew (S := fun w => w.cell? ⟨g7, 2, none⟩ = some (.int .i64 er)) (by kernel_rfl) ((P2.out.get 0 rfl).cell 2) (fun hHeld => ?_)
      refine tk 0 (some 56) (.bool true) ?_
      simp only [Act.put, tqA, tqZ, tqS]
      refine tk 1 (some 57) (.bool false) ?_
      simp only [Act.put, tqA, tqZ, tqS]
      refine tk 2 (some 58) (.bool false) ?_
      simp only [Act.put, tqA, tqZ, tqS]
      refine tk 3 (some 59) (.pointer (some ⟨g7, 2, none⟩)) ?_
      simp only [Act.put, tqA, tqZ, tqS]
      refine tk 4 (some 60) (.int .i64 er) ?_ (hy := Or.inl ⟨by rfl, by intro w hSw; have hc := hSw; go_simp⟩)
      simp only [Act.put, tqA, tqZ, tqS]
      refine tk 5 (some 61) (.pointer (some ⟨p.g, 0, none⟩)) ?_
      simp only [Act.put, tqA, tqZ, tqS]
      refine tk 6 (some 62) (.int .i64 (k : Int)) ?_
      simp only [Act.put, tqA, tqZ, tqS]
      refine wpAnyH_ready (rs := [7]) (by kernel_rfl) (by simp) (AllReadyH.cons (o := ⟨some 63, .call { callee := .value (.func 128), args := #[.tmp 61, .tmp 62], argTypes := #[32, 3] }, 96, "ref.go:200", #[⟨5, .data⟩, ⟨6, .data⟩, ⟨2, .chain⟩, ⟨2, .guard⟩], some (2, false)⟩) rfl (fun KQ hK => ?_) AllReadyH.nil)
      go_simp
      refine (HO.out _ HXq.out).mono ?_
      rintro e w6 ⟨v6, rfl, hn6⟩
      obtain ⟨xo, xc, rfl⟩ := hn6.form
      have P6 := hid (P2.out.on hn6.below)
      have HX6 := hid (HXq.out.on hn6.below)
      clear hn6 P2 HXq
      go_wp2_with fail
      refine hK.out _ _ ((P6.out.get 0 rfl).cell 2) (fun hHeld => ?_)
      clear hK KQ
      try simp only [Act.put, tqA, tqZ, tqS]
      refine tk 8 (some 64) (.int .i64 (ow.length : Int)) ?_
      simp only [Act.put, tqA, tqZ, tqS]
      refine tk 9 (some 65) (.bool (er == (ow.length : Int))) ?_
      simp only [Act.put, tqA, tqZ, tqS]
      refine tk 10 (some 66) (.bool (er == (ow.length : Int))) ?_
      simp only [Act.put, tqA, tqZ, tqS]
      refine wpAnyH_ready (rs := [11]) (by kernel_rfl) (by simp) (AllReadyH.cons (o := ⟨some 6, .assign (.tmp 66), 4, "ref.go:200", #[⟨10, .data⟩, ⟨7, .chain⟩, ⟨0, .phase⟩, ⟨1, .phase⟩, ⟨2, .phase⟩, ⟨3, .phase⟩, ⟨4, .phase⟩, ⟨5, .phase⟩, ⟨6, .phase⟩, ⟨7, .phase⟩, ⟨8, .phase⟩, ⟨9, .phase⟩, ⟨10, .phase⟩], none⟩) rfl (fun KQ hK => ?_) AllReadyH.nil)
      go_simp
      refine hK.out _ _ ((P6.out.get 0 rfl).cell 2) (fun hHeld => ?_)
      clear hK KQ
      try simp only [Act.put, tqA, tqZ, tqS]
      refine wpAnyH_done (by kernel_rfl) ?_ _
      go_wp2_with fail
      go_ret
      exact ⟨by rw [← HV.out]; rfl, P6.out.bl⟩
    · have b0 : (et != 1) = true := by simpa using t1
      have b1 : (et == 1) = false := by simpa using t1
      have HV : Hid (R = true) := hid (by have := HR.out; rw [b0] at this; simpa using this.symm)
      go_upto_region 11 with fail
      have P2 := hid (HP.out.on (Below.refl _ _).drew)
      clear HP HXp y0 y1 y2
      refine wp_region_held_drew (S := fun w => w.cell? ⟨g7, 2, none⟩ = some (.int .i64 er)) (by kernel_rfl) ((P2.out.get 0 rfl).cell 2) (fun hHeld => ?_)
      refine tk 0 (some 56) (.bool false) ?_
      simp only [Act.put, tqA, tqZ, tqS]
      refine tk 1 (some 57) (.bool true) ?_
      simp only [Act.put, tqA, tqZ, tqS]
      refine tk 2 (some 58) (.bool true) ?_
      simp only [Act.put, tqA, tqZ, tqS]
      refine tk 3 (some 59) undef ?_ (hy := Or.inr ⟨by rfl, rfl⟩)
      simp only [Act.put, tqA, tqZ, tqS]
      refine tk 4 (some 60) undef ?_ (hy := Or.inr ⟨by rfl, rfl⟩)
      simp only [Act.put, tqA, tqZ, tqS]
      refine tk 5 (some 61) undef ?_ (hy := Or.inr ⟨by rfl, rfl⟩)
      simp only [Act.put, tqA, tqZ, tqS]
      refine tk 6 (some 62) undef ?_ (hy := Or.inr ⟨by rfl, rfl⟩)
      simp only [Act.put, tqA, tqZ, tqS]
      refine tk 7 (some 63) undef ?_ (hy := Or.inr ⟨by rfl, rfl⟩)
      simp only [Act.put, tqA, tqZ, tqS]
      refine tk 8 (some 64) undef ?_ (hy := Or.inr ⟨by rfl, rfl⟩)
      simp only [Act.put, tqA, tqZ, tqS]
      refine tk 9 (some 65) undef ?_ (hy := Or.inr ⟨by rfl, rfl⟩)
      simp only [Act.put, tqA, tqZ, tqS]
      refine tk 10 (some 66) (.bool true) ?_
      simp only [Act.put, tqA, tqZ, tqS]
      refine wpAnyH_ready (rs := [11]) (by kernel_rfl) (by simp) (AllReadyH.cons (o := ⟨some 6, .assign (.tmp 66), 4, "ref.go:200", #[⟨10, .data⟩, ⟨7, .chain⟩, ⟨0, .phase⟩, ⟨1, .phase⟩, ⟨2, .phase⟩, ⟨3, .phase⟩, ⟨4, .phase⟩, ⟨5, .phase⟩, ⟨6, .phase⟩, ⟨7, .phase⟩, ⟨8, .phase⟩, ⟨9, .phase⟩, ⟨10, .phase⟩], none⟩) rfl (fun KQ hK => ?_) AllReadyH.nil)
      go_simp
      refine hK.out _ _ ((P2.out.get 0 rfl).cell 2) (fun hHeld => ?_)
      clear hK KQ
      try simp only [Act.put, tqA, tqZ, tqS]
      refine wpAnyH_done (by kernel_rfl) ?_ _
      go_wp2_with fail
      go_ret
      exact ⟨by rw [HV.out]; rfl, P2.out.bl⟩
  · have HR := hid (F5.out rfl)
    clear F1 F2 F3 F4 F5 F6 F7 F8 F9 F10 F11 F12
    have cI : (((5 : Nat) : Int)) = 5 := rfl
    rw [cI]
    clear cI
    go_enter Tryz.func91, Tryz.ntmps91
    go_upto_region 2 with (refine wpList_load_mid rfl 121 _ rfl p.ge (k * 5) rfl _ _ HRg.out underR rfl (by rw [sizeR]; rfl) ?_)
    have HP := hid ((PB.mk (L := []) (Below.refl w.heap.size w) (by simp) (by simp)).box 121 [.int .i64 et, .int .i64 eo, .int .i64 er, .int .i64 es, .bool ee])
    clear x1 HRg
    simp only [List.toArray] at HP
    generalize World.alloc _ _ = w2 at *
    generalize w.heap.size = g7 at HP ⊢
    have HXp := hid (HX.out.on HP.out.bl)
    have y0 : w2.cell? ⟨g7, 0, none⟩ = some (.int .i64 et) := (HP.out.get 0 rfl).cell 0
    have y1 : w2.cell? ⟨g7, 1, none⟩ = some (.int .i64 eo) := (HP.out.get 0 rfl).cell 1
    have y2 : w2.cell? ⟨g7, 2, none⟩ = some (.int .i64 er) := (HP.out.get 0 rfl).cell 2
    by_cases t1 : et = 1
    · subst t1
      have HV : Hid (vb = R) := hid (by have := HR.out; simpa using this)
      go_wp2_with (go_at_call 129; refine (HB.out _ HXp.out).mono ?_; rintro e w6 ⟨rfl, hb6⟩; have P6 := hid (HP.out.on hb6); clear hb6)
      go_ret
      exact ⟨by rw [← HV.out]; rfl, P6.out.bl⟩
    · have b0 : (et != 1) = true := by simpa using t1
      have b1 : (et == 1) = false := by simpa using t1
      have HV : Hid (R = true) := hid (by have := HR.out; rw [b0] at this; simpa using this.symm)
      go_wp2_with fail
      go_ret
      exact ⟨by rw [HV.out]; rfl, HP.out.bl⟩
  · have HR := hid (F6.out rfl)
    clear F1 F2 F3 F4 F5 F6 F7 F8 F9 F10 F11 F12
    have cI : (((6 : Nat) : Int)) = 6 := rfl
    rw [cI]
    clear cI
    go_enter Tryz.func91, Tryz.ntmps91
    go_upto_region 2 with (refine wpList_load_mid rfl 121 _ rfl p.ge (k * 5) rfl _ _ HRg.out underR rfl (by rw [sizeR]; rfl) ?_)
    have HP := hid ((PB.mk (L := []) (Below.refl w.heap.size w) (by simp) (by simp)).box 121 [.int .i64 et, .int .i64 eo, .int .i64 er, .int .i64 es, .bool ee])
    clear x1 HRg
    simp only [List.toArray] at HP
    generalize World.alloc _ _ = w2 at *
    generalize w.heap.size = g7 at HP ⊢
    have HXp := hid (HX.out.on HP.out.bl)
    have y0 : w2.cell? ⟨g7, 0, none⟩ = some (.int .i64 et) := (HP.out.get 0 rfl).cell 0
    have y1 : w2.cell? ⟨g7, 1, none⟩ = some (.int .i64 eo) := (HP.out.get 0 rfl).cell 1
    have y2 : w2.cell? ⟨g7, 2, none⟩ = some (.int .i64 er) := (HP.out.get 0 rfl).cell 2
    by_cases t1 : et = 1
    · subst t1
      have HV : Hid (vf = R) := hid (by have := HR.out; simpa using this)
      go_wp2_with (go_at_call 130; refine (HWd.out _ HXp.out).mono ?_; rintro e w6 ⟨rfl, hb6⟩; have P6 := hid (HP.out.on hb6); clear hb6)
      go_ret
      exact ⟨by rw [← HV.out]; rfl, P6.out.bl⟩
    · have b0 : (et != 1) = true := by simpa using t1
      have b1 : (et == 1) = false := by simpa using t1
      have HV : Hid (R = true) := hid (by have := HR.out; rw [b0] at this; simpa using this.symm)
      go_wp2_with fail
      go_ret
      exact ⟨by rw [HV.out]; rfl, HP.out.bl⟩
  · have HR := hid (F7.out rfl)
    clear F1 F2 F3 F4 F5 F6 F7 F8 F9 F10 F11 F12
    have cI : (((7 : Nat) : Int)) = 7 := rfl
    rw [cI]
    clear cI
    go_enter Tryz.func91, Tryz.ntmps91
    go_upto_region 2 with (refine wpList_load_mid rfl 121 _ rfl p.ge (k * 5) rfl _ _ HRg.out underR rfl (by rw [sizeR]; rfl) ?_)
    have HP := hid ((PB.mk (L := []) (Below.refl w.heap.size w) (by simp) (by simp)).box 121 [.int .i64 et, .int .i64 eo, .int .i64 er, .int .i64 es, .bool ee])
    clear x1 HRg
    simp only [List.toArray] at HP
    generalize World.alloc _ _ = w2 at *
    generalize w.heap.size = g7 at HP ⊢
    have HXp := hid (HX.out.on HP.out.bl)
    have y0 : w2.cell? ⟨g7, 0, none⟩ = some (.int .i64 et) := (HP.out.get 0 rfl).cell 0
    have y1 : w2.cell? ⟨g7, 1, none⟩ = some (.int .i64 eo) := (HP.out.get 0 rfl).cell 1
    have y2 : w2.cell? ⟨g7, 2, none⟩ = some (.int .i64 er) := (HP.out.get 0 rfl).cell 2
    by_cases t1 : et = 1
    · subst t1
      have HV : Hid (v1 = R) := hid (by have := HR.out; simpa using this)
      go_wp2_with (go_at_call 131; refine (HF.out _ HXp.out).mono ?_; rintro e w6 ⟨rfl, hb6⟩; have P6 := hid (HP.out.on hb6); clear hb6)
      go_ret
      exact ⟨by rw [← HV.out]; rfl, P6.out.bl⟩
    · have b0 : (et != 1) = true := by simpa using t1
      have b1 : (et == 1) = false := by simpa using t1
      have HV : Hid (R = true) := hid (by have := HR.out; rw [b0] at this; simpa using this.symm)
      go_wp2_with fail
      go_ret
      exact ⟨by rw [HV.out]; rfl, HP.out.bl⟩
  · have HR := hid (F8.out rfl)
    clear F1 F2 F3 F4 F5 F6 F7 F8 F9 F10 F11 F12
    have cI : (((8 : Nat) : Int)) = 8 := rfl
    rw [cI]
    clear cI
    go_enter Tryz.func91, Tryz.ntmps91
    go_upto_region 2 with (refine wpList_load_mid rfl 121 _ rfl p.ge (k * 5) rfl _ _ HRg.out underR rfl (by rw [sizeR]; rfl) ?_)
    have HP := hid ((PB.mk (L := []) (Below.refl w.heap.size w) (by simp) (by simp)).box 121 [.int .i64 et, .int .i64 eo, .int .i64 er, .int .i64 es, .bool ee])
    clear x1 HRg
    simp only [List.toArray] at HP
    generalize World.alloc _ _ = w2 at *
    generalize w.heap.size = g7 at HP ⊢
    have HXp := hid (HX.out.on HP.out.bl)
    have y0 : w2.cell? ⟨g7, 0, none⟩ = some (.int .i64 et) := (HP.out.get 0 rfl).cell 0
    have y1 : w2.cell? ⟨g7, 1, none⟩ = some (.int .i64 eo) := (HP.out.get 0 rfl).cell 1
    have y2 : w2.cell? ⟨g7, 2, none⟩ = some (.int .i64 er) := (HP.out.get 0 rfl).cell 2
    by_cases t1 : et = 3
    · subst t1
      cases va
      · have HV : Hid (R = true) := hid (by have := HR.out; simpa using this.symm)
        go_wp2_with (go_at_call 132; refine (HA.out _ HXp.out).mono ?_; rintro e w6 ⟨rfl, hw⟩; subst hw)
        go_ret
        exact ⟨by rw [HV.out]; rfl, HP.out.bl⟩
      · have HV : Hid (vn = R) := hid (by have := HR.out; simpa using this)
        go_wp2_with (first | (go_at_call 132; refine (HA.out _ HXp.out).mono ?_; rintro e w6 ⟨rfl, hw⟩; subst hw) | (go_at_call 133; refine (HN.out _ HXp.out).mono ?_; rintro e w6 ⟨rfl, hb6⟩; have P6 := hid (HP.out.on hb6); clear hb6))
        go_ret
        exact ⟨by rw [← HV.out]; rfl, P6.out.bl⟩
    · have b0 : (et != 3) = true := by simpa using t1
      have b1 : (et == 3) = false := by simpa using t1
      have HV : Hid (R = true) := hid (by have := HR.out; rw [b0] at this; simpa using this.symm)
      go_wp2_with fail
      go_ret
      exact ⟨by rw [HV.out]; rfl, HP.out.bl⟩
  · have HR := hid (F9.out rfl)
    clear F1 F2 F3 F4 F5 F6 F7 F8 F9 F10 F11 F12
    have cI : (((9 : Nat) : Int)) = 9 := rfl
    rw [cI]
    clear cI
    go_enter Tryz.func91, Tryz.ntmps91
    go_upto_region 2 with (refine wpList_load_mid rfl 121 _ rfl p.ge (k * 5) rfl _ _ HRg.out underR rfl (by rw [sizeR]; rfl) ?_)
    have HP := hid ((PB.mk (L := []) (Below.refl w.heap.size w) (by simp) (by simp)).box 121 [.int .i64 et, .int .i64 eo, .int .i64 er, .int .i64 es, .bool ee])
    clear x1 HRg
    simp only [List.toArray] at HP
    generalize World.alloc _ _ = w2 at *
    generalize w.heap.size = g7 at HP ⊢
    have HXp := hid (HX.out.on HP.out.bl)
    have y0 : w2.cell? ⟨g7, 0, none⟩ = some (.int .i64 et) := (HP.out.get 0 rfl).cell 0
    have y1 : w2.cell? ⟨g7, 1, none⟩ = some (.int .i64 eo) := (HP.out.get 0 rfl).cell 1
    have y2 : w2.cell? ⟨g7, 2, none⟩ = some (.int .i64 er) := (HP.out.get 0 rfl).cell 2
    by_cases t1 : et = 4
    · subst t1
      cases va
      · have HV : Hid (R = true) := hid (by have := HR.out; simpa using this.symm)
        go_wp2_with (go_at_call 132; refine (HA.out _ HXp.out).mono ?_; rintro e w6 ⟨rfl, hw⟩; subst hw)
        go_ret
        exact ⟨by rw [HV.out]; rfl, HP.out.bl⟩
      · have HV : Hid (vm = R) := hid (by have := HR.out; simpa using this)
        go_wp2_with (first | (go_at_call 132; refine (HA.out _ HXp.out).mono ?_; rintro e w6 ⟨rfl, hw⟩; subst hw) | (go_at_call 134; refine (HM.out _ HXp.out).mono ?_; rintro e w6 ⟨rfl, hb6⟩; have P6 := hid (HP.out.on hb6); clear hb6))
        go_ret
        exact ⟨by rw [← HV.out]; rfl, P6.out.bl⟩
    · have b0 : (et != 4) = true := by simpa using t1
      have b1 : (et == 4) = false := by simpa using t1
      have HV : Hid (R = true) := hid (by have := HR.out; rw [b0] at this; simpa using this.symm)
      go_wp2_with fail
      go_ret
      exact ⟨by rw [HV.out]; rfl, HP.out.bl⟩
  · have HR := hid (F10.out rfl)
    clear F1 F2 F3 F4 F5 F6 F7 F8 F9 F10 F11 F12
    have cI : (((10 : Nat) : Int)) = 10 := rfl
    rw [cI]
    clear cI
    go_enter Tryz.func91, Tryz.ntmps91
    go_upto_region 2 with (refine wpList_load_mid rfl 121 _ rfl p.ge (k * 5) rfl _ _ HRg.out underR rfl (by rw [sizeR]; rfl) ?_)
    have HP := hid ((PB.mk (L := []) (Below.refl w.heap.size w) (by simp) (by simp)).box 121 [.int .i64 et, .int .i64 eo, .int .i64 er, .int .i64 es, .bool ee])
    clear x1 HRg
    simp only [List.toArray] at HP
    generalize World.alloc _ _ = w2 at *
    generalize w.heap.size = g7 at HP ⊢
    have HXp := hid (HX.out.on HP.out.bl)
    have y0 : w2.cell? ⟨g7, 0, none⟩ = some (.int .i64 et) := (HP.out.get 0 rfl).cell 0
    have y1 : w2.cell? ⟨g7, 1, none⟩ = some (.int .i64 eo) := (HP.out.get 0 rfl).cell 1
    have y2 : w2.cell? ⟨g7, 2, none⟩ = some (.int .i64 er) := (HP.out.get 0 rfl).cell 2
    by_cases t1 : et = 5
    · subst t1
      cases va
      · have HV : Hid (R = true) := hid (by have := HR.out; simpa using this.symm)
        go_wp2_with (go_at_call 132; refine (HA.out _ HXp.out).mono ?_; rintro e w6 ⟨rfl, hw⟩; subst hw)
        go_ret
        exact ⟨by rw [HV.out]; rfl, HP.out.bl⟩
      · have HV : Hid (vc = R) := hid (by have := HR.out; simpa using this)
        go_wp2_with (first | (go_at_call 132; refine (HA.out _ HXp.out).mono ?_; rintro e w6 ⟨rfl, hw⟩; subst hw) | (go_at_call 135; refine (HOn.out (by trivial) _ HXp.out).mono ?_; rintro e w6 ⟨rfl, hb6⟩; have P6 := hid (HP.out.on hb6); clear hb6))
        go_ret
        exact ⟨by rw [← HV.out]; rfl, P6.out.bl⟩
    · have b0 : (et != 5) = true := by simpa using t1
      have b1 : (et == 5) = false := by simpa using t1
      have HV : Hid (R = true) := hid (by have := HR.out; rw [b0] at this; simpa using this.symm)
      go_wp2_with fail
      go_ret
      exact ⟨by rw [HV.out]; rfl, HP.out.bl⟩
  · have HR := hid (F11.out rfl)
    clear F1 F2 F3 F4 F5 F6 F7 F8 F9 F10 F11 F12
    have cI : (((11 : Nat) : Int)) = 11 := rfl
    rw [cI]
    clear cI
    go_enter Tryz.func91, Tryz.ntmps91
    go_upto_region 2 with (refine wpList_load_mid rfl 121 _ rfl p.ge (k * 5) rfl _ _ HRg.out underR rfl (by rw [sizeR]; rfl) ?_)
    have HP := hid ((PB.mk (L := []) (Below.refl w.heap.size w) (by simp) (by simp)).box 121 [.int .i64 et, .int .i64 eo, .int .i64 er, .int .i64 es, .bool ee])
    clear x1 HRg
    simp only [List.toArray] at HP
    generalize World.alloc _ _ = w2 at *
    generalize w.heap.size = g7 at HP ⊢
    have HXp := hid (HX.out.on HP.out.bl)
    have y0 : w2.cell? ⟨g7, 0, none⟩ = some (.int .i64 et) := (HP.out.get 0 rfl).cell 0
    have y1 : w2.cell? ⟨g7, 1, none⟩ = some (.int .i64 eo) := (HP.out.get 0 rfl).cell 1
    have y2 : w2.cell? ⟨g7, 2, none⟩ = some (.int .i64 er) := (HP.out.get 0 rfl).cell 2
    by_cases t1 : et = 2
    · subst t1
      have HV : Hid (vt = R) := hid (by have := HR.out; simpa using this)
      go_wp2_with (go_at_call 136; refine (HT.out _ HXp.out).mono ?_; rintro e w6 ⟨rfl, hb6⟩; have P6 := hid (HP.out.on hb6); clear hb6)
      go_ret
      exact ⟨by rw [← HV.out]; rfl, P6.out.bl⟩
    · have b0 : (et != 2) = true := by simpa using t1
      have b1 : (et == 2) = false := by simpa using t1
      have HV : Hid (R = true) := hid (by have := HR.out; rw [b0] at this; simpa using this.symm)
      go_wp2_with fail
      go_ret
      exact ⟨by rw [HV.out]; rfl, HP.out.bl⟩
  · have HR := hid (F12.out rfl)
    clear F1 F2 F3 F4 F5 F6 F7 F8 F9 F10 F11 F12
    have cI : (((12 : Nat) : Int)) = 12 := rfl
    rw [cI]
    clear cI
    go_enter Tryz.func91, Tryz.ntmps91
    go_upto_region 2 with (refine wpList_load_mid rfl 121 _ rfl p.ge (k * 5) rfl _ _ HRg.out underR rfl (by rw [sizeR]; rfl) ?_)
    have HP := hid ((PB.mk (L := []) (Below.refl w.heap.size w) (by simp) (by simp)).box 121 [.int .i64 et, .int .i64 eo, .int .i64 er, .int .i64 es, .bool ee])
    clear x1 HRg
    simp only [List.toArray] at HP
    generalize World.alloc _ _ = w2 at *
    generalize w.heap.size = g7 at HP ⊢
    have HXp := hid (HX.out.on HP.out.bl)
    have y0 : w2.cell? ⟨g7, 0, none⟩ = some (.int .i64 et) := (HP.out.get 0 rfl).cell 0
    have y1 : w2.cell? ⟨g7, 1, none⟩ = some (.int .i64 eo) := (HP.out.get 0 rfl).cell 1
    have y2 : w2.cell? ⟨g7, 2, none⟩ = some (.int .i64 er) := (HP.out.get 0 rfl).cell 2
    by_cases t1 : et = 6
    · subst t1
      have HV : Hid (vz = R) := hid (by have := HR.out; simpa using this)
      go_wp2_with (go_at_call 126; refine (HZ.out _ HXp.out).mono ?_; rintro e w6 ⟨rfl, hb6⟩; have P6 := hid (HP.out.on hb6); clear hb6)
      go_ret
      exact ⟨by rw [← HV.out]; rfl, P6.out.bl⟩
    · have b0 : (et != 6) = true := by simpa using t1
      have b1 : (et == 6) = false := by simpa using t1
      have HV : Hid (R = true) := hid (by have := HR.out; rw [b0] at this; simpa using this.symm)
      go_wp2_with fail
      go_ret
      exact ⟨by rw [HV.out]; rfl, HP.out.bl⟩
end Go.Proofs.YtildhjiddidghaaGreatDoor
