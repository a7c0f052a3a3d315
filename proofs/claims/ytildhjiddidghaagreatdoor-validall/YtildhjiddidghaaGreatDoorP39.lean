import Derived.Test.YtildhjiddidghaaGreatDoorP38
namespace Go.Proofs.YtildhjiddidghaaGreatDoor
open Go.RowKit
set_option maxHeartbeats 4000000
set_option maxRecDepth 100000
theorem at_sec (m : MS) (k : Nat) (hk : k < m.ns) : m.at true (k : Int) = some k := by
  unfold MS.at
  rw [if_pos (by omega), if_pos rfl, if_pos (by omega)]
  simp
theorem in_nat (j : Nat) (hj : j < 1024) : In (j : Int) := ⟨by omega, by omega⟩
theorem MS.word_nat (m : MS) (k j : Nat) (hk : k < m.ns) (hj : j < 1024) : m.word true (k : Int) (j : Int) = wd (m.p k) j := by
  unfold MS.word
  rw [at_sec m k hk]
  simp only [if_pos (in_nat j hj)]
  simp
theorem MS.word_write (m : MS) (h0 : m.ns ≤ m.P.length) (hf : ∀ k, k < m.P.length → (m.p k).length = 1024) (k off q j : Nat) (v : Int) (hk : k < m.ns) (ho : off < 1024) (hq : q < m.ns) (hj : j < 1024) :
    (m.write true (k : Int) (off : Int) v).word true (q : Int) (j : Int) = if k = q ∧ off = j then v else m.word true (q : Int) (j : Int) := by
  rw [MS.word_nat _ q j (by rw [MS.write_ns]; exact hq) hj, MS.word_nat m q j hq hj]
  unfold MS.write
  rw [at_sec m k hk]
  simp only [if_pos (in_nat off ho)]
  show wd ((MS.mk m.ns (m.P.set k ((m.p k).set (off : Int).toNat v)) (m.tick 1).c).p q) j = _
  rw [MS.p_set]
  by_cases e : k = q
  · subst e
    rw [if_pos ⟨rfl, by omega⟩, wd_set2, hf k (by omega)]
    simp [hj]
  · rw [if_neg (fun h => e h.1), if_neg (fun h => e h.1)]
theorem sz2 : sz 2 = 3 := by decide
def dFr : DS := { DS.begun 2 0 with m := (DS.begun 2 0).m.write true 1 5 9 }
theorem dFr_fb (hf : ∀ k, k < (DS.begun 2 0).m.P.length → ((DS.begun 2 0).m.p k).length = 1024) (h0 : (DS.begun 2 0).m.ns ≤ (DS.begun 2 0).m.P.length) : dFr.fb 1 12 = (2, 1) := by
  have hns : (DS.begun 2 0).m.ns = 3 := by rw [begun_ns, sz2]
  have hns2 : dFr.m.ns = 3 := by show ((DS.begun 2 0).m.write true 1 5 9).ns = 3; rw [MS.write_ns, hns]
  have he : ∀ q, dFr.at q = En.zero := fun q => begun_at 2 0 q
  have hw : ∀ q j : Nat, q < 3 → j < 1024 → dFr.m.word true (q : Int) (j : Int) = if 1 = q ∧ 5 = j then 9 else 0 := fun q j hq hj => by
    have := MS.word_write (DS.begun 2 0).m h0 hf 1 5 q j 9 (by omega) (by decide) (by omega) hj
    rw [(begun_Z 2 0).word] at this
    exact this
  have h1 : dFr.bad 1 = none := bad_none (fun j hj => by unfold DS.at12; simp [DS.cl, he, En.zero])
  have h2 : dFr.bad 2 = some 1 := by
    refine bad_some (by omega) ?_ (fun j hj => ?_)
    · have hz : dFr.zr ((1 : Nat) : Int) 0 1024 = false := DS.zr_no (k := 5) (by decide) (by decide) (by rw [hw 1 5 (by decide) (by decide)]; decide)
      unfold DS.at12
      show ((dFr.at 1).t != 0 || dFr.zr ((1 : Nat) : Int) 0 1024) = false
      rw [hz, he]
      rfl
    · have hj0 : j = 0 := by omega
      subst hj0
      have hz : dFr.zr ((0 : Nat) : Int) 0 1024 = true := DS.zr_yes (fun k _ hk => by rw [hw 0 k (by decide) hk]; simp)
      unfold DS.at12
      show ((dFr.at 0).t != 0 || dFr.zr ((0 : Nat) : Int) 0 1024) = true
      rw [hz]
      simp
  show (match dFr.bad 1 with | some q => (((1 : Nat) : Int), (q : Int)) | none => dFr.fb 2 11) = _
  rw [h1]
  show (match dFr.bad 2 with | some q => (((2 : Nat) : Int), (q : Int)) | none => dFr.fb 3 10) = _
  rw [h2]
  rfl
theorem fresh_l (W : World) : Calls Tryz.prog 10 #[] W fun e w' => e = .returned (.bool true) ∧ Below W.heap.size W w' := by
  have HB := hid (begun_l W 2 0)
  have HBr := hid (fun w p d h hu h0 => broken_v w p d h hu h0)
  have HWr := hid (fun w g p r (h : SS W w g p r (DS.begun 2 0) (DS.begun 2 0)) => write_l W w g p r _ h 1 5 9)
  have HF1 := hid (begun_fb 2 0)
  have HU1 := hid (begun_Z 2 0).u
  have HU2 : Hid dFr.m.U := hid ((begun_Z 2 0).u.write true 1 5 9 (by decide) (by decide))
  have HN1 : Hid (0 < (DS.begun 2 0).m.ns) := hid (by rw [begun_ns, sz2]; decide)
  have HN2 : Hid (0 < dFr.m.ns) := hid (by show 0 < ((DS.begun 2 0).m.write true 1 5 9).ns; rw [MS.write_ns, begun_ns, sz2]; decide)
  have HF2 := hid (fun a b => dFr_fb a b)
  have HD : Hid ({ DS.begun 2 0 with m := (DS.begun 2 0).m.write true 1 5 9 } = dFr) := hid rfl
  rw [HD.out] at HWr
  clear HD
  generalize dFr = d2 at *
  generalize DS.begun 2 0 = d1 at *
  go_enter Tryz.func10, Tryz.ntmps10
  go_upto_region 4 with (go_at_call 9; refine HB.out.mono ?_; rintro e w1 ⟨g, p, r, rfl, hs⟩; have S1 := hid hs; clear hs)
  obtain ⟨x0, x1, x2⟩ := S1.out.c
  have HF3 := hid (HF2.out S1.out.own.mem.full S1.out.own.mem.ns0)
  have HB1 := hid (HBr.out _ p _ S1.out.own HU1.out HN1.out)
  rw [HF1.out] at HB1
  go_upto_region 5 with (go_at_call 7; refine HB1.out.mono ?_; rintro e w2 ⟨rfl, hb⟩; have S2 := hid (S1.out.on hb); clear hb)
  clear x0 x1 x2
  go_upto_region 6 with (go_at_call 8; refine (HWr.out _ _ _ _ S2.out).mono ?_; rintro e w3 ⟨rfl, r3, hs⟩; have S3 := hid hs; clear hs)
  obtain ⟨x0, x1, x2⟩ := S3.out.c
  have HB2 := hid (HBr.out _ p _ S3.out.own HU2.out HN2.out)
  rw [HF3.out] at HB2
  go_wp2_with (go_at_call 7; refine HB2.out.mono ?_; rintro e w4 ⟨rfl, hb⟩; have S4 := hid (S3.out.on hb); clear hb)
  go_ret
  exact ⟨rfl, S4.out.bl⟩
end Go.Proofs.YtildhjiddidghaaGreatDoor
