/- IsaNames (6): the walk. -/
import Derived.Test.YtgdekmkhbickkaaDoorNm
namespace Go.Proofs.YtgdekmkhbickkaaDoor
open Go.RowKit
theorem hid {p : Prop} (h : p) : Hid p := h
structure TabsN (W : World) : Prop where
  t : Tabs W
  s : RShapes W
  n : RNames W
  c : CNames W
  r : RConds W
theorem TabsN.on {W w : World} (h : TabsN W) (hb : Below W.heap.size W w) : TabsN w :=
  ⟨h.t.on hb, h.s.below hb (by have := h.t.z; omega), fun n hn => (hb.cell (p := ⟨1, n, none⟩) (by have := h.t.z; simp only; omega)).trans (h.n n hn), fun n hn => (hb.cell (p := ⟨2, n, none⟩) (by have := h.t.z; simp only; omega)).trans (h.c n hn), fun n hn => (hb.cell (p := ⟨3, n, none⟩) (by have := h.t.z; simp only; omega)).trans (h.r n hn)⟩
theorem TabsN.f {W : World} (h : TabsN W) : FNames W := fun n hn => (h.t.f n hn).1

set_option maxRecDepth 40000 in
set_option maxHeartbeats 4000000 in
theorem names_walk (W : World) (hT : TabsN W) (op : Int) (name : ByteArray) :
    Calls Tryd.prog 6 #[.int .i64 op, .string name] W fun e W' => e = .returned (.bool true) ∧ Below W.heap.size W W' := by
  have HO : Hid (Calls Tryd.prog 12 #[] W fun e W' => e = .returned (.bool true) ∧ Below W.heap.size W W') := one_any W hT.t
  have HT : Hid (∀ w, Below W.heap.size W w → TabsN w) := fun w hb => hT.on hb
  clear hT
  go_enter Tryd.func6, Tryd.ntmps6
  go_wp2_with (go_at_call 12; refine HO.out.mono ?_; rintro e w1 ⟨rfl, hb1⟩)
  have B1 : Hid (Below W.heap.size W w1) := hb1
  have HN : Hid (TabsN w1) := HT.out w1 hb1
  clear hb1 HO HT
  go_loopw [5] (fun i wr => ∃ k : Int, -1 ≤ k ∧ k ≤ 26 ∧ i = .int .i64 k ∧ w1 = wr) (fun i _ => (26 - intOf i).toNat)
  case atStart => exact ⟨-1, by decide, by decide, rfl, rfl⟩
  case round =>
    obtain ⟨k, ka, kb, rfl, rfl⟩ := hrel
    by_cases hk : k ≤ 25
    · obtain ⟨r1, e1, hf1⟩ := fnd_ex nam 1 25 (namI k)
      obtain ⟨r2, e2, hf2⟩ := fnd_ex cnd 0 7 (cndI k)
      have H16 := hid (rname_any w1 HN.out.n k)
      have H22 := hid (name_any w1 HN.out.f k)
      have H19 := hid (rcname_any w1 HN.out.r k)
      have H23 := hid (cname_any w1 HN.out.c k)
      have H13 := hid (shape_any w1 HN.out.t.f k)
      have H21 := hid (rshape_any w1 HN.out.s k)
      have H15 := hid (named_any w1 HN.out.f (namI k) r1 e1 hf1)
      have H17 := hid (rnamed_any w1 HN.out.n (namI k) r1 e1 hf1)
      have H18 := hid (cnamed_any w1 HN.out.c (cndI k) r2 e2 hf2)
      have H20 := hid (rcnamed_any w1 HN.out.r (cndI k) r2 e2 hf2)
      clear hf1 hf2
      generalize namI k = s1 at *
      generalize cndI k = s2 at *
      generalize shpI k = s3 at *
      go_wp2_with (first | (go_at_call 9; refine (num_any _ _).mono ?_; rintro e w9 ⟨rfl, rfl⟩) | (go_at_call 16; refine H16.out.mono ?_; rintro e w9 ⟨rfl, rfl⟩) | (go_at_call 22; refine H22.out.mono ?_; rintro e w9 ⟨rfl, rfl⟩) | (go_at_call 19; refine H19.out.mono ?_; rintro e w9 ⟨rfl, rfl⟩) | (go_at_call 23; refine H23.out.mono ?_; rintro e w9 ⟨rfl, rfl⟩) | (go_at_call 13; refine H13.out.mono ?_; rintro e w9 ⟨rfl, rfl⟩) | (go_at_call 21; refine H21.out.mono ?_; rintro e w9 ⟨rfl, rfl⟩) | (go_at_call 15; refine H15.out.mono ?_; rintro e w9 ⟨rfl, rfl⟩) | (go_at_call 17; refine H17.out.mono ?_; rintro e w9 ⟨rfl, rfl⟩) | (go_at_call 18; refine H18.out.mono ?_; rintro e w9 ⟨rfl, rfl⟩) | (go_at_call 20; refine H20.out.mono ?_; rintro e w9 ⟨rfl, rfl⟩))
      go_roundw
      case measure => simp [intOf]; omega
      case rel => exact ⟨k + 1, by omega, by omega, by go_num, trivial⟩
    · obtain rfl : k = 26 := by omega
      clear ka kb hk
      obtain ⟨r1, e1, hf1⟩ := fnd_ex nam 1 25 name
      obtain ⟨r2, e2, hf2⟩ := fnd_ex cnd 0 7 name
      have H16 := hid (rname_any w1 HN.out.n op)
      have H22 := hid (name_any w1 HN.out.f op)
      have H19 := hid (rcname_any w1 HN.out.r op)
      have H23 := hid (cname_any w1 HN.out.c op)
      have H13 := hid (shape_any w1 HN.out.t.f op)
      have H21 := hid (rshape_any w1 HN.out.s op)
      have H15 := hid (named_any w1 HN.out.f name r1 e1 hf1)
      have H17 := hid (rnamed_any w1 HN.out.n name r1 e1 hf1)
      have H18 := hid (cnamed_any w1 HN.out.c name r2 e2 hf2)
      have H20 := hid (rcnamed_any w1 HN.out.r name r2 e2 hf2)
      clear hf1 hf2
      generalize namI op = s1 at *
      generalize cndI op = s2 at *
      generalize shpI op = s3 at *
      go_wp2_with (first | (go_at_call 9; refine (num_any _ _).mono ?_; rintro e w9 ⟨rfl, rfl⟩) | (go_at_call 16; refine H16.out.mono ?_; rintro e w9 ⟨rfl, rfl⟩) | (go_at_call 22; refine H22.out.mono ?_; rintro e w9 ⟨rfl, rfl⟩) | (go_at_call 19; refine H19.out.mono ?_; rintro e w9 ⟨rfl, rfl⟩) | (go_at_call 23; refine H23.out.mono ?_; rintro e w9 ⟨rfl, rfl⟩) | (go_at_call 13; refine H13.out.mono ?_; rintro e w9 ⟨rfl, rfl⟩) | (go_at_call 21; refine H21.out.mono ?_; rintro e w9 ⟨rfl, rfl⟩) | (go_at_call 15; refine H15.out.mono ?_; rintro e w9 ⟨rfl, rfl⟩) | (go_at_call 17; refine H17.out.mono ?_; rintro e w9 ⟨rfl, rfl⟩) | (go_at_call 18; refine H18.out.mono ?_; rintro e w9 ⟨rfl, rfl⟩) | (go_at_call 20; refine H20.out.mono ?_; rintro e w9 ⟨rfl, rfl⟩))
      go_ret
      exact ⟨rfl, B1.out⟩
end Go.Proofs.YtgdekmkhbickkaaDoor
