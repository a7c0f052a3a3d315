import Derived.Test.YtdfnbcbnmiohnaaGreatDoorP33
import Derived.Test.YtdfnbcbnmiohnaaGreatDoorP01
namespace Go.Proofs.YtdfnbcbnmiohnaaGreatDoor
open Go.RowKit Go.Shelf
set_option maxHeartbeats 2000000
set_option maxRecDepth 100000
theorem pagesF_in (n l bd bs : Nat) (p : Dp) (d : DS) (pred : Nat → Bool) (J : Nat → World → Prop)
    (hJ : ∀ k W, J k W → DB W p d ∧ W.cell? ⟨bd, 0, none⟩ = some (.pointer (some ⟨p.g, 0, none⟩)) ∧ W.cell? ⟨bs, 0, none⟩ = some (.func (.func 73) #[] #[]))
    (hOn : ∀ k W W', J k W → Below W.heap.size W W' → J k W')
    (hSo : ∀ k W, k < d.m.ns → J k W → Calls Tryz.prog 73 #[.int .i64 (k : Int), (d.at k).v] W fun e W' => e = .returned (.bool (pred k)) ∧ Below W.heap.size W W')
    (hY : ∀ k W, k < d.m.ns → pred k = true → J k W → YieldAt .wide (n - 1) Tryz.prog l #[.int .i64 (k : Int)] W (fun e W' => e = .returned (.bool true) ∧ J (k + 1) W'))
    (hN : ∀ k W, k < d.m.ns → pred k = false → J k W → J (k + 1) W)
    (W : World) (h0 : J 0 W) :
    CallsIn .wide n Tryz.prog 118 #[.func (.yield l) #[] #[], .pointer (some ⟨bd, 0, none⟩), .pointer (some ⟨bs, 0, none⟩)] W fun e W' => (∃ v, e = .returned v) ∧ J d.m.ns W' := by
  have n64 := (hJ 0 W h0).1.ok.n64
  have w0 := (hJ 0 W h0).2.1
  have HP : Hid (Calls Tryz.prog 49 #[.pointer (some ⟨p.g, 0, none⟩)] W fun x W' => x = .returned (.int .i64 (d.m.ns : Int)) ∧ W = W') := hid (pages_any W p d (hJ 0 W h0).1)
  refine callsIn_of_wp Tryz.func118 rfl trivial ?_ rfl
  simp only [Tryz.ntmps118, List.size_toArray, List.length_cons, List.length_nil, Nat.reduceAdd, Nat.reduceSub, Array.replicate_succ, Array.replicate_zero, List.push_toArray, List.append_toArray, List.nil_append, List.cons_append]
  gi_wp2
  refine ⟨trivial, (fun h => by cases h), CallsIn.mono (callsIn_wide.2 HP.out) ?_⟩
  rintro x w1 ⟨rfl, hw1⟩
  subst hw1
  clear HP
  gi_wp2
  clear w0
  gi_loopw [7] (fun q wr => ∃ k : Nat, k ≤ d.m.ns ∧ q = .int .i64 (k : Int) ∧ Hid (J k wr)) (fun q _ => d.m.ns - (intOf q).toNat)
  case atStart => exact ⟨0, Nat.zero_le _, rfl, hid h0⟩
  case round =>
    obtain ⟨k, hk, rfl, HQ⟩ := hrel
    by_cases hlt : k < d.m.ns
    · have q1 : (k : Int) < (d.m.ns : Int) := by omega
      have q2 : (k : Int) ≤ 1024 := by omega
      have HK : Hid (k < d.m.ns) := hid hlt
      clear hlt hk n64
      have HA : Hid (∀ w1, J k w1 → Calls Tryz.prog 93 #[.pointer (some ⟨p.g, 0, none⟩), .int .i64 (k : Int)] w1 fun x w' => x = .returned (.agg (d.at k).cs.toArray) ∧ Below w1.heap.size w1 w') := hid (fun w1 h1 => dat_any w1 p d (hJ k w1 h1).1 k HK.out)
      have HSo : Hid (∀ w1, J k w1 → Calls Tryz.prog 73 #[.int .i64 (k : Int), .agg (d.at k).cs.toArray] w1 fun e W' => e = .returned (.bool (pred k)) ∧ Below w1.heap.size w1 W') := hid (fun w1 h1 => hSo k w1 HK.out h1)
      have HJ := hid (hJ k)
      have HOn := hid (hOn k)
      have HYk := hid (fun w1 (hp : pred k = true) (h1 : J k w1) => hY k w1 HK.out hp h1)
      have HNk := hid (fun w1 (hp : pred k = false) (h1 : J k w1) => hN k w1 HK.out hp h1)
      generalize (d.at k).cs.toArray = EV at *
      cases hp : pred k
      · rw [hp] at HSo
        clear HYk
        gi_wp2
        refine wpIn_region_any (by kernel_rfl) ?_
        change wpAnyIn _ _ _ _ _ _ _ _ _ (World.drew _)
        have HQ1 := hid (HOn.out _ _ HQ.out (Below.refl _ _).drew)
        have y1 := (HJ.out _ HQ1.out).2.1
        have y2 := (HJ.out _ HQ1.out).2.2
        refine tkI 1 (some 11) (.int .i64 (k : Int)) ?_
        try simp only [Act.put, tqA, tqZ, tqS]
        refine tkI 3 (some 13) (.int .i64 (k : Int)) ?_
        try simp only [Act.put, tqA, tqZ, tqS]
        refine wpAnyIn_ready (rs := [0, 2]) (by kernel_rfl) (by simp) (AllReadyIn.cons rfl (fun K hK => ?_) (AllReadyIn.cons rfl (fun K hK => ?_) AllReadyIn.nil))
        · go_simp
          (try (refine hK _ _ ?_; clear hK K))
          try simp only [Act.put, tqA, tqZ, tqS]
          refine wpAnyIn_ready (rs := [2]) (by kernel_rfl) (by simp) (AllReadyIn.cons rfl (fun K hK => ?_) AllReadyIn.nil)
          go_simp
          (try (refine hK _ _ ?_; clear hK K))
          try simp only [Act.put, tqA, tqZ, tqS]
          refine wpAnyIn_ready (rs := [4]) (by kernel_rfl) (by simp) (AllReadyIn.cons rfl (fun K hK => ?_) AllReadyIn.nil)
          go_simp
          gi_wp2
          refine ⟨trivial, (fun h => by cases h), CallsIn.mono (callsIn_wide.2 (HA.out _ HQ1.out)) ?_⟩
          rintro x w2 ⟨rfl, hb⟩
          have HQ2 := hid (HOn.out _ _ HQ1.out hb)
          clear hb
          have z2 := (HJ.out _ HQ2.out).2.2
          clear y1 y2
          gi_wp2
          (try (refine hK _ _ ?_; clear hK K))
          try simp only [Act.put, tqA, tqZ, tqS]
          refine wpAnyIn_ready (rs := [5]) (by kernel_rfl) (by simp) (AllReadyIn.cons rfl (fun K hK => ?_) AllReadyIn.nil)
          go_simp
          gi_wp2
          refine ⟨trivial, (fun h => by cases h), CallsIn.mono (callsIn_wide.2 (HSo.out _ HQ2.out)) ?_⟩
          rintro x w3 ⟨rfl, hb⟩
          have HQ3 := hid (HOn.out _ _ HQ2.out hb)
          clear hb z2
          gi_wp2
          (try (refine hK _ _ ?_; clear hK K))
          try simp only [Act.put, tqA, tqZ, tqS]
          refine tkI 6 (some 16) (.bool false) ?_
          try simp only [Act.put, tqA, tqZ, tqS]
          refine tkI 7 (some 17) undef ?_ (hy := ⟨Or.inr ⟨by rfl, rfl⟩, fun _ => rfl⟩)
          try simp only [Act.put, tqA, tqZ, tqS]
          refine tkI 8 (some 18) undef ?_ (hy := ⟨Or.inr ⟨by rfl, rfl⟩, fun _ => rfl⟩)
          try simp only [Act.put, tqA, tqZ, tqS]
          refine wpAnyIn_ready (rs := [9]) (by kernel_rfl) (by simp) (AllReadyIn.cons rfl (fun K hK => ?_) AllReadyIn.nil)
          refine Eq.mpr (if_neg (by intro h; exact absurd (show false = true from h) (by decide))) ?_
          refine ⟨fun f hf => trivial, ?_⟩
          (try (refine hK _ _ ?_; clear hK K))
          try simp only [Act.put, tqA]
          refine tkI 10 (some 20) undef ?_ (hy := ⟨Or.inr ⟨by rfl, rfl⟩, fun _ => rfl⟩)
          try simp only [Act.put]
          refine tkI 11 (some 21) (.bool false) ?_
          try simp only [Act.put]
          have HQ4 := hid (HNk.out _ hp HQ3.out)
          refine wpAnyIn_done (by kernel_rfl) ?_ _
          gi_wp2
          go_roundw
          case rel => exact ⟨k + 1, HK.out, by simp, HQ4⟩
          case measure => have := HK.out; simp [intOf] <;> omega
        · go_simp
          (try (refine hK _ _ ?_; clear hK K))
          try simp only [Act.put, tqA, tqZ, tqS]
          refine wpAnyIn_ready (rs := [0, 4]) (by kernel_rfl) (by simp) (AllReadyIn.cons rfl (fun K hK => ?_) (AllReadyIn.cons rfl (fun K hK => ?_) AllReadyIn.nil))
          · go_simp
            (try (refine hK _ _ ?_; clear hK K))
            try simp only [Act.put, tqA, tqZ, tqS]
            refine wpAnyIn_ready (rs := [4]) (by kernel_rfl) (by simp) (AllReadyIn.cons rfl (fun K hK => ?_) AllReadyIn.nil)
            go_simp
            gi_wp2
            refine ⟨trivial, (fun h => by cases h), CallsIn.mono (callsIn_wide.2 (HA.out _ HQ1.out)) ?_⟩
            rintro x w2 ⟨rfl, hb⟩
            have HQ2 := hid (HOn.out _ _ HQ1.out hb)
            clear hb
            have z2 := (HJ.out _ HQ2.out).2.2
            clear y1 y2
            gi_wp2
            (try (refine hK _ _ ?_; clear hK K))
            try simp only [Act.put, tqA, tqZ, tqS]
            refine wpAnyIn_ready (rs := [5]) (by kernel_rfl) (by simp) (AllReadyIn.cons rfl (fun K hK => ?_) AllReadyIn.nil)
            go_simp
            gi_wp2
            refine ⟨trivial, (fun h => by cases h), CallsIn.mono (callsIn_wide.2 (HSo.out _ HQ2.out)) ?_⟩
            rintro x w3 ⟨rfl, hb⟩
            have HQ3 := hid (HOn.out _ _ HQ2.out hb)
            clear hb z2
            gi_wp2
            (try (refine hK _ _ ?_; clear hK K))
            try simp only [Act.put, tqA, tqZ, tqS]
            refine tkI 6 (some 16) (.bool false) ?_
            try simp only [Act.put, tqA, tqZ, tqS]
            refine tkI 7 (some 17) undef ?_ (hy := ⟨Or.inr ⟨by rfl, rfl⟩, fun _ => rfl⟩)
            try simp only [Act.put, tqA, tqZ, tqS]
            refine tkI 8 (some 18) undef ?_ (hy := ⟨Or.inr ⟨by rfl, rfl⟩, fun _ => rfl⟩)
            try simp only [Act.put, tqA, tqZ, tqS]
            refine wpAnyIn_ready (rs := [9]) (by kernel_rfl) (by simp) (AllReadyIn.cons rfl (fun K hK => ?_) AllReadyIn.nil)
            refine Eq.mpr (if_neg (by intro h; exact absurd (show false = true from h) (by decide))) ?_
            refine ⟨fun f hf => trivial, ?_⟩
            (try (refine hK _ _ ?_; clear hK K))
            try simp only [Act.put, tqA]
            refine tkI 10 (some 20) undef ?_ (hy := ⟨Or.inr ⟨by rfl, rfl⟩, fun _ => rfl⟩)
            try simp only [Act.put]
            refine tkI 11 (some 21) (.bool false) ?_
            try simp only [Act.put]
            have HQ4 := hid (HNk.out _ hp HQ3.out)
            refine wpAnyIn_done (by kernel_rfl) ?_ _
            gi_wp2
            go_roundw
            case rel => exact ⟨k + 1, HK.out, by simp, HQ4⟩
            case measure => have := HK.out; simp [intOf] <;> omega
          · skip
            go_simp
            gi_wp2
            refine ⟨trivial, (fun h => by cases h), CallsIn.mono (callsIn_wide.2 (HA.out _ HQ1.out)) ?_⟩
            rintro x w2 ⟨rfl, hb⟩
            have HQ2 := hid (HOn.out _ _ HQ1.out hb)
            clear hb
            have z2 := (HJ.out _ HQ2.out).2.2
            clear y1 y2
            gi_wp2
            (try (refine hK _ _ ?_; clear hK K))
            try simp only [Act.put, tqA, tqZ, tqS]
            refine wpAnyIn_ready (rs := [0]) (by kernel_rfl) (by simp) (AllReadyIn.cons rfl (fun K hK => ?_) AllReadyIn.nil)
            go_simp
            (try (refine hK _ _ ?_; clear hK K))
            try simp only [Act.put, tqA, tqZ, tqS]
            refine wpAnyIn_ready (rs := [5]) (by kernel_rfl) (by simp) (AllReadyIn.cons rfl (fun K hK => ?_) AllReadyIn.nil)
            go_simp
            gi_wp2
            refine ⟨trivial, (fun h => by cases h), CallsIn.mono (callsIn_wide.2 (HSo.out _ HQ2.out)) ?_⟩
            rintro x w3 ⟨rfl, hb⟩
            have HQ3 := hid (HOn.out _ _ HQ2.out hb)
            clear hb z2
            gi_wp2
            (try (refine hK _ _ ?_; clear hK K))
            try simp only [Act.put, tqA, tqZ, tqS]
            refine tkI 6 (some 16) (.bool false) ?_
            try simp only [Act.put, tqA, tqZ, tqS]
            refine tkI 7 (some 17) undef ?_ (hy := ⟨Or.inr ⟨by rfl, rfl⟩, fun _ => rfl⟩)
            try simp only [Act.put, tqA, tqZ, tqS]
            refine tkI 8 (some 18) undef ?_ (hy := ⟨Or.inr ⟨by rfl, rfl⟩, fun _ => rfl⟩)
            try simp only [Act.put, tqA, tqZ, tqS]
            refine wpAnyIn_ready (rs := [9]) (by kernel_rfl) (by simp) (AllReadyIn.cons rfl (fun K hK => ?_) AllReadyIn.nil)
            refine Eq.mpr (if_neg (by intro h; exact absurd (show false = true from h) (by decide))) ?_
            refine ⟨fun f hf => trivial, ?_⟩
            (try (refine hK _ _ ?_; clear hK K))
            try simp only [Act.put, tqA]
            refine tkI 10 (some 20) undef ?_ (hy := ⟨Or.inr ⟨by rfl, rfl⟩, fun _ => rfl⟩)
            try simp only [Act.put]
            refine tkI 11 (some 21) (.bool false) ?_
            try simp only [Act.put]
            have HQ4 := hid (HNk.out _ hp HQ3.out)
            refine wpAnyIn_done (by kernel_rfl) ?_ _
            gi_wp2
            go_roundw
            case rel => exact ⟨k + 1, HK.out, by simp, HQ4⟩
            case measure => have := HK.out; simp [intOf] <;> omega
      · rw [hp] at HSo
        clear HNk
        gi_wp2
        refine wpIn_region_any (by kernel_rfl) ?_
        change wpAnyIn _ _ _ _ _ _ _ _ _ (World.drew _)
        have HQ1 := hid (HOn.out _ _ HQ.out (Below.refl _ _).drew)
        have y1 := (HJ.out _ HQ1.out).2.1
        have y2 := (HJ.out _ HQ1.out).2.2
        refine tkI 1 (some 11) (.int .i64 (k : Int)) ?_
        try simp only [Act.put, tqA, tqZ, tqS]
        refine tkI 3 (some 13) (.int .i64 (k : Int)) ?_
        try simp only [Act.put, tqA, tqZ, tqS]
        refine wpAnyIn_ready (rs := [0, 2]) (by kernel_rfl) (by simp) (AllReadyIn.cons rfl (fun K hK => ?_) (AllReadyIn.cons rfl (fun K hK => ?_) AllReadyIn.nil))
        · go_simp
          (try (refine hK _ _ ?_; clear hK K))
          try simp only [Act.put, tqA, tqZ, tqS]
          refine wpAnyIn_ready (rs := [2]) (by kernel_rfl) (by simp) (AllReadyIn.cons rfl (fun K hK => ?_) AllReadyIn.nil)
          go_simp
          (try (refine hK _ _ ?_; clear hK K))
          try simp only [Act.put, tqA, tqZ, tqS]
          refine wpAnyIn_ready (rs := [4]) (by kernel_rfl) (by simp) (AllReadyIn.cons rfl (fun K hK => ?_) AllReadyIn.nil)
          go_simp
          gi_wp2
          refine ⟨trivial, (fun h => by cases h), CallsIn.mono (callsIn_wide.2 (HA.out _ HQ1.out)) ?_⟩
          rintro x w2 ⟨rfl, hb⟩
          have HQ2 := hid (HOn.out _ _ HQ1.out hb)
          clear hb
          have z2 := (HJ.out _ HQ2.out).2.2
          clear y1 y2
          gi_wp2
          (try (refine hK _ _ ?_; clear hK K))
          try simp only [Act.put, tqA, tqZ, tqS]
          refine wpAnyIn_ready (rs := [5]) (by kernel_rfl) (by simp) (AllReadyIn.cons rfl (fun K hK => ?_) AllReadyIn.nil)
          go_simp
          gi_wp2
          refine ⟨trivial, (fun h => by cases h), CallsIn.mono (callsIn_wide.2 (HSo.out _ HQ2.out)) ?_⟩
          rintro x w3 ⟨rfl, hb⟩
          have HQ3 := hid (HOn.out _ _ HQ2.out hb)
          clear hb z2
          gi_wp2
          (try (refine hK _ _ ?_; clear hK K))
          try simp only [Act.put, tqA, tqZ, tqS]
          refine tkI 6 (some 16) (.bool true) ?_
          try simp only [Act.put, tqA, tqZ, tqS]
          refine tkI 7 (some 17) (.func (.yield l) #[] #[]) ?_
          try simp only [Act.put, tqA, tqZ, tqS]
          refine tkI 8 (some 18) (.int .i64 (k : Int)) ?_
          try simp only [Act.put, tqA, tqZ, tqS]
          refine wpAnyIn_ready (rs := [9]) (by kernel_rfl) (by simp) (AllReadyIn.cons rfl (fun K hK => ?_) AllReadyIn.nil)
          obtain ⟨fn, tmps, assign, body, hy, hR⟩ := HYk.out _ hp HQ3.out
          have HR := hid hR
          clear hR
          go_simp
          gi_wp2
          refine ⟨(fun h => by cases h), RoundIn.mono HR.out ?_⟩
          rintro x w4 ⟨rfl, hJ4⟩
          have HQ4 := hid hJ4
          clear hJ4 HR hy
          gi_wp2
          (try (refine hK _ _ ?_; clear hK K))
          try simp only [Act.put, tqA, tqZ, tqS]
          refine tkI 10 (some 20) (.bool false) ?_
          try simp only [Act.put, tqA, tqZ, tqS]
          refine tkI 11 (some 21) (.bool false) ?_
          try simp only [Act.put, tqA, tqZ, tqS]
          refine wpAnyIn_done (by kernel_rfl) ?_ _
          gi_wp2
          go_roundw
          case rel => exact ⟨k + 1, HK.out, by simp, HQ4⟩
          case measure => have := HK.out; simp [intOf] <;> omega
        · go_simp
          (try (refine hK _ _ ?_; clear hK K))
          try simp only [Act.put, tqA, tqZ, tqS]
          refine wpAnyIn_ready (rs := [0, 4]) (by kernel_rfl) (by simp) (AllReadyIn.cons rfl (fun K hK => ?_) (AllReadyIn.cons rfl (fun K hK => ?_) AllReadyIn.nil))
          · go_simp
            (try (refine hK _ _ ?_; clear hK K))
            try simp only [Act.put, tqA, tqZ, tqS]
            refine wpAnyIn_ready (rs := [4]) (by kernel_rfl) (by simp) (AllReadyIn.cons rfl (fun K hK => ?_) AllReadyIn.nil)
            go_simp
            gi_wp2
            refine ⟨trivial, (fun h => by cases h), CallsIn.mono (callsIn_wide.2 (HA.out _ HQ1.out)) ?_⟩
            rintro x w2 ⟨rfl, hb⟩
            have HQ2 := hid (HOn.out _ _ HQ1.out hb)
            clear hb
            have z2 := (HJ.out _ HQ2.out).2.2
            clear y1 y2
            gi_wp2
            (try (refine hK _ _ ?_; clear hK K))
            try simp only [Act.put, tqA, tqZ, tqS]
            refine wpAnyIn_ready (rs := [5]) (by kernel_rfl) (by simp) (AllReadyIn.cons rfl (fun K hK => ?_) AllReadyIn.nil)
            go_simp
            gi_wp2
            refine ⟨trivial, (fun h => by cases h), CallsIn.mono (callsIn_wide.2 (HSo.out _ HQ2.out)) ?_⟩
            rintro x w3 ⟨rfl, hb⟩
            have HQ3 := hid (HOn.out _ _ HQ2.out hb)
            clear hb z2
            gi_wp2
            (try (refine hK _ _ ?_; clear hK K))
            try simp only [Act.put, tqA, tqZ, tqS]
            refine tkI 6 (some 16) (.bool true) ?_
            try simp only [Act.put, tqA, tqZ, tqS]
            refine tkI 7 (some 17) (.func (.yield l) #[] #[]) ?_
            try simp only [Act.put, tqA, tqZ, tqS]
            refine tkI 8 (some 18) (.int .i64 (k : Int)) ?_
            try simp only [Act.put, tqA, tqZ, tqS]
            refine wpAnyIn_ready (rs := [9]) (by kernel_rfl) (by simp) (AllReadyIn.cons rfl (fun K hK => ?_) AllReadyIn.nil)
            obtain ⟨fn, tmps, assign, body, hy, hR⟩ := HYk.out _ hp HQ3.out
            have HR := hid hR
            clear hR
            go_simp
            gi_wp2
            refine ⟨(fun h => by cases h), RoundIn.mono HR.out ?_⟩
            rintro x w4 ⟨rfl, hJ4⟩
            have HQ4 := hid hJ4
            clear hJ4 HR hy
            gi_wp2
            (try (refine hK _ _ ?_; clear hK K))
            try simp only [Act.put, tqA, tqZ, tqS]
            refine tkI 10 (some 20) (.bool false) ?_
            try simp only [Act.put, tqA, tqZ, tqS]
            refine tkI 11 (some 21) (.bool false) ?_
            try simp only [Act.put, tqA, tqZ, tqS]
            refine wpAnyIn_done (by kernel_rfl) ?_ _
            gi_wp2
            go_roundw
            case rel => exact ⟨k + 1, HK.out, by simp, HQ4⟩
            case measure => have := HK.out; simp [intOf] <;> omega
          · skip
            go_simp
            gi_wp2
            refine ⟨trivial, (fun h => by cases h), CallsIn.mono (callsIn_wide.2 (HA.out _ HQ1.out)) ?_⟩
            rintro x w2 ⟨rfl, hb⟩
            have HQ2 := hid (HOn.out _ _ HQ1.out hb)
            clear hb
            have z2 := (HJ.out _ HQ2.out).2.2
            clear y1 y2
            gi_wp2
            (try (refine hK _ _ ?_; clear hK K))
            try simp only [Act.put, tqA, tqZ, tqS]
            refine wpAnyIn_ready (rs := [0]) (by kernel_rfl) (by simp) (AllReadyIn.cons rfl (fun K hK => ?_) AllReadyIn.nil)
            go_simp
            (try (refine hK _ _ ?_; clear hK K))
            try simp only [Act.put, tqA, tqZ, tqS]
            refine wpAnyIn_ready (rs := [5]) (by kernel_rfl) (by simp) (AllReadyIn.cons rfl (fun K hK => ?_) AllReadyIn.nil)
            go_simp
            gi_wp2
            refine ⟨trivial, (fun h => by cases h), CallsIn.mono (callsIn_wide.2 (HSo.out _ HQ2.out)) ?_⟩
            rintro x w3 ⟨rfl, hb⟩
            have HQ3 := hid (HOn.out _ _ HQ2.out hb)
            clear hb z2
            gi_wp2
            (try (refine hK _ _ ?_; clear hK K))
            try simp only [Act.put, tqA, tqZ, tqS]
            refine tkI 6 (some 16) (.bool true) ?_
            try simp only [Act.put, tqA, tqZ, tqS]
            refine tkI 7 (some 17) (.func (.yield l) #[] #[]) ?_
            try simp only [Act.put, tqA, tqZ, tqS]
            refine tkI 8 (some 18) (.int .i64 (k : Int)) ?_
            try simp only [Act.put, tqA, tqZ, tqS]
            refine wpAnyIn_ready (rs := [9]) (by kernel_rfl) (by simp) (AllReadyIn.cons rfl (fun K hK => ?_) AllReadyIn.nil)
            obtain ⟨fn, tmps, assign, body, hy, hR⟩ := HYk.out _ hp HQ3.out
            have HR := hid hR
            clear hR
            go_simp
            gi_wp2
            refine ⟨(fun h => by cases h), RoundIn.mono HR.out ?_⟩
            rintro x w4 ⟨rfl, hJ4⟩
            have HQ4 := hid hJ4
            clear hJ4 HR hy
            gi_wp2
            (try (refine hK _ _ ?_; clear hK K))
            try simp only [Act.put, tqA, tqZ, tqS]
            refine tkI 10 (some 20) (.bool false) ?_
            try simp only [Act.put, tqA, tqZ, tqS]
            refine tkI 11 (some 21) (.bool false) ?_
            try simp only [Act.put, tqA, tqZ, tqS]
            refine wpAnyIn_done (by kernel_rfl) ?_ _
            gi_wp2
            go_roundw
            case rel => exact ⟨k + 1, HK.out, by simp, HQ4⟩
            case measure => have := HK.out; simp [intOf] <;> omega
    · have hkw : k = d.m.ns := by omega
      subst hkw
      gi_wp2
      go_end0
      exact ⟨⟨_, rfl⟩, HQ.out⟩
theorem pagesO_in (n l bd bs : Nat) (p : Dp) (d : DS) (pred : Nat → Bool) (bo : Nat) (J : Nat → World → Prop)
    (hJ : ∀ k W, J k W → DB W p d ∧ W.cell? ⟨bd, 0, none⟩ = some (.pointer (some ⟨p.g, 0, none⟩)) ∧ W.cell? ⟨bs, 0, none⟩ = some (.func (.func 136) #[] #[.pointer (some ⟨bo, 0, none⟩)]))
    (hOn : ∀ k W W', J k W → Below W.heap.size W W' → J k W')
    (hSo : ∀ k W, k < d.m.ns → J k W → Calls Tryz.prog 136 #[.int .i64 (k : Int), (d.at k).v, .pointer (some ⟨bo, 0, none⟩)] W fun e W' => e = .returned (.bool (pred k)) ∧ Below W.heap.size W W')
    (hY : ∀ k W, k < d.m.ns → pred k = true → J k W → YieldAt .wide (n - 1) Tryz.prog l #[.int .i64 (k : Int)] W (fun e W' => e = .returned (.bool true) ∧ J (k + 1) W'))
    (hN : ∀ k W, k < d.m.ns → pred k = false → J k W → J (k + 1) W)
    (W : World) (h0 : J 0 W) :
    CallsIn .wide n Tryz.prog 118 #[.func (.yield l) #[] #[], .pointer (some ⟨bd, 0, none⟩), .pointer (some ⟨bs, 0, none⟩)] W fun e W' => (∃ v, e = .returned v) ∧ J d.m.ns W' := by
  have n64 := (hJ 0 W h0).1.ok.n64
  have w0 := (hJ 0 W h0).2.1
  have HP : Hid (Calls Tryz.prog 49 #[.pointer (some ⟨p.g, 0, none⟩)] W fun x W' => x = .returned (.int .i64 (d.m.ns : Int)) ∧ W = W') := hid (pages_any W p d (hJ 0 W h0).1)
  refine callsIn_of_wp Tryz.func118 rfl trivial ?_ rfl
  simp only [Tryz.ntmps118, List.size_toArray, List.length_cons, List.length_nil, Nat.reduceAdd, Nat.reduceSub, Array.replicate_succ, Array.replicate_zero, List.push_toArray, List.append_toArray, List.nil_append, List.cons_append]
  gi_wp2
  refine ⟨trivial, (fun h => by cases h), CallsIn.mono (callsIn_wide.2 HP.out) ?_⟩
  rintro x w1 ⟨rfl, hw1⟩
  subst hw1
  clear HP
  gi_wp2
  clear w0
  gi_loopw [7] (fun q wr => ∃ k : Nat, k ≤ d.m.ns ∧ q = .int .i64 (k : Int) ∧ Hid (J k wr)) (fun q _ => d.m.ns - (intOf q).toNat)
  case atStart => exact ⟨0, Nat.zero_le _, rfl, hid h0⟩
  case round =>
    obtain ⟨k, hk, rfl, HQ⟩ := hrel
    by_cases hlt : k < d.m.ns
    · have q1 : (k : Int) < (d.m.ns : Int) := by omega
      have q2 : (k : Int) ≤ 1024 := by omega
      have HK : Hid (k < d.m.ns) := hid hlt
      clear hlt hk n64
      have HA : Hid (∀ w1, J k w1 → Calls Tryz.prog 93 #[.pointer (some ⟨p.g, 0, none⟩), .int .i64 (k : Int)] w1 fun x w' => x = .returned (.agg (d.at k).cs.toArray) ∧ Below w1.heap.size w1 w') := hid (fun w1 h1 => dat_any w1 p d (hJ k w1 h1).1 k HK.out)
      have HSo : Hid (∀ w1, J k w1 → Calls Tryz.prog 136 #[.int .i64 (k : Int), .agg (d.at k).cs.toArray, .pointer (some ⟨bo, 0, none⟩)] w1 fun e W' => e = .returned (.bool (pred k)) ∧ Below w1.heap.size w1 W') := hid (fun w1 h1 => hSo k w1 HK.out h1)
      have HJ := hid (hJ k)
      have HOn := hid (hOn k)
      have HYk := hid (fun w1 (hp : pred k = true) (h1 : J k w1) => hY k w1 HK.out hp h1)
      have HNk := hid (fun w1 (hp : pred k = false) (h1 : J k w1) => hN k w1 HK.out hp h1)
      generalize (d.at k).cs.toArray = EV at *
      cases hp : pred k
      · rw [hp] at HSo
        clear HYk
        gi_wp2
        refine wpIn_region_any (by kernel_rfl) ?_
        change wpAnyIn _ _ _ _ _ _ _ _ _ (World.drew _)
        have HQ1 := hid (HOn.out _ _ HQ.out (Below.refl _ _).drew)
        have y1 := (HJ.out _ HQ1.out).2.1
        have y2 := (HJ.out _ HQ1.out).2.2
        refine tkI 1 (some 11) (.int .i64 (k : Int)) ?_
        try simp only [Act.put, tqA, tqZ, tqS]
        refine tkI 3 (some 13) (.int .i64 (k : Int)) ?_
        try simp only [Act.put, tqA, tqZ, tqS]
        refine wpAnyIn_ready (rs := [0, 2]) (by kernel_rfl) (by simp) (AllReadyIn.cons rfl (fun K hK => ?_) (AllReadyIn.cons rfl (fun K hK => ?_) AllReadyIn.nil))
        · go_simp
          (try (refine hK _ _ ?_; clear hK K))
          try simp only [Act.put, tqA, tqZ, tqS]
          refine wpAnyIn_ready (rs := [2]) (by kernel_rfl) (by simp) (AllReadyIn.cons rfl (fun K hK => ?_) AllReadyIn.nil)
          go_simp
          (try (refine hK _ _ ?_; clear hK K))
          try simp only [Act.put, tqA, tqZ, tqS]
          refine wpAnyIn_ready (rs := [4]) (by kernel_rfl) (by simp) (AllReadyIn.cons rfl (fun K hK => ?_) AllReadyIn.nil)
          go_simp
          gi_wp2
          refine ⟨trivial, (fun h => by cases h), CallsIn.mono (callsIn_wide.2 (HA.out _ HQ1.out)) ?_⟩
          rintro x w2 ⟨rfl, hb⟩
          have HQ2 := hid (HOn.out _ _ HQ1.out hb)
          clear hb
          have z2 := (HJ.out _ HQ2.out).2.2
          clear y1 y2
          gi_wp2
          (try (refine hK _ _ ?_; clear hK K))
          try simp only [Act.put, tqA, tqZ, tqS]
          refine wpAnyIn_ready (rs := [5]) (by kernel_rfl) (by simp) (AllReadyIn.cons rfl (fun K hK => ?_) AllReadyIn.nil)
          go_simp
          gi_wp2
          refine ⟨trivial, (fun h => by cases h), CallsIn.mono (callsIn_wide.2 (HSo.out _ HQ2.out)) ?_⟩
          rintro x w3 ⟨rfl, hb⟩
          have HQ3 := hid (HOn.out _ _ HQ2.out hb)
          clear hb z2
          gi_wp2
          (try (refine hK _ _ ?_; clear hK K))
          try simp only [Act.put, tqA, tqZ, tqS]
          refine tkI 6 (some 16) (.bool false) ?_
          try simp only [Act.put, tqA, tqZ, tqS]
          refine tkI 7 (some 17) undef ?_ (hy := ⟨Or.inr ⟨by rfl, rfl⟩, fun _ => rfl⟩)
          try simp only [Act.put, tqA, tqZ, tqS]
          refine tkI 8 (some 18) undef ?_ (hy := ⟨Or.inr ⟨by rfl, rfl⟩, fun _ => rfl⟩)
          try simp only [Act.put, tqA, tqZ, tqS]
          refine wpAnyIn_ready (rs := [9]) (by kernel_rfl) (by simp) (AllReadyIn.cons rfl (fun K hK => ?_) AllReadyIn.nil)
          refine Eq.mpr (if_neg (by intro h; exact absurd (show false = true from h) (by decide))) ?_
          refine ⟨fun f hf => trivial, ?_⟩
          (try (refine hK _ _ ?_; clear hK K))
          try simp only [Act.put, tqA]
          refine tkI 10 (some 20) undef ?_ (hy := ⟨Or.inr ⟨by rfl, rfl⟩, fun _ => rfl⟩)
          try simp only [Act.put]
          refine tkI 11 (some 21) (.bool false) ?_
          try simp only [Act.put]
          have HQ4 := hid (HNk.out _ hp HQ3.out)
          refine wpAnyIn_done (by kernel_rfl) ?_ _
          gi_wp2
          go_roundw
          case rel => exact ⟨k + 1, HK.out, by simp, HQ4⟩
          case measure => have := HK.out; simp [intOf] <;> omega
        · go_simp
          (try (refine hK _ _ ?_; clear hK K))
          try simp only [Act.put, tqA, tqZ, tqS]
          refine wpAnyIn_ready (rs := [0, 4]) (by kernel_rfl) (by simp) (AllReadyIn.cons rfl (fun K hK => ?_) (AllReadyIn.cons rfl (fun K hK => ?_) AllReadyIn.nil))
          · go_simp
            (try (refine hK _ _ ?_; clear hK K))
            try simp only [Act.put, tqA, tqZ, tqS]
            refine wpAnyIn_ready (rs := [4]) (by kernel_rfl) (by simp) (AllReadyIn.cons rfl (fun K hK => ?_) AllReadyIn.nil)
            go_simp
            gi_wp2
            refine ⟨trivial, (fun h => by cases h), CallsIn.mono (callsIn_wide.2 (HA.out _ HQ1.out)) ?_⟩
            rintro x w2 ⟨rfl, hb⟩
            have HQ2 := hid (HOn.out _ _ HQ1.out hb)
            clear hb
            have z2 := (HJ.out _ HQ2.out).2.2
            clear y1 y2
            gi_wp2
            (try (refine hK _ _ ?_; clear hK K))
            try simp only [Act.put, tqA, tqZ, tqS]
            refine wpAnyIn_ready (rs := [5]) (by kernel_rfl) (by simp) (AllReadyIn.cons rfl (fun K hK => ?_) AllReadyIn.nil)
            go_simp
            gi_wp2
            refine ⟨trivial, (fun h => by cases h), CallsIn.mono (callsIn_wide.2 (HSo.out _ HQ2.out)) ?_⟩
            rintro x w3 ⟨rfl, hb⟩
            have HQ3 := hid (HOn.out _ _ HQ2.out hb)
            clear hb z2
            gi_wp2
            (try (refine hK _ _ ?_; clear hK K))
            try simp only [Act.put, tqA, tqZ, tqS]
            refine tkI 6 (some 16) (.bool false) ?_
            try simp only [Act.put, tqA, tqZ, tqS]
            refine tkI 7 (some 17) undef ?_ (hy := ⟨Or.inr ⟨by rfl, rfl⟩, fun _ => rfl⟩)
            try simp only [Act.put, tqA, tqZ, tqS]
            refine tkI 8 (some 18) undef ?_ (hy := ⟨Or.inr ⟨by rfl, rfl⟩, fun _ => rfl⟩)
            try simp only [Act.put, tqA, tqZ, tqS]
            refine wpAnyIn_ready (rs := [9]) (by kernel_rfl) (by simp) (AllReadyIn.cons rfl (fun K hK => ?_) AllReadyIn.nil)
            refine Eq.mpr (if_neg (by intro h; exact absurd (show false = true from h) (by decide))) ?_
            refine ⟨fun f hf => trivial, ?_⟩
            (try (refine hK _ _ ?_; clear hK K))
            try simp only [Act.put, tqA]
            refine tkI 10 (some 20) undef ?_ (hy := ⟨Or.inr ⟨by rfl, rfl⟩, fun _ => rfl⟩)
            try simp only [Act.put]
            refine tkI 11 (some 21) (.bool false) ?_
            try simp only [Act.put]
            have HQ4 := hid (HNk.out _ hp HQ3.out)
            refine wpAnyIn_done (by kernel_rfl) ?_ _
            gi_wp2
            go_roundw
            case rel => exact ⟨k + 1, HK.out, by simp, HQ4⟩
            case measure => have := HK.out; simp [intOf] <;> omega
          · skip
            go_simp
            gi_wp2
            refine ⟨trivial, (fun h => by cases h), CallsIn.mono (callsIn_wide.2 (HA.out _ HQ1.out)) ?_⟩
            rintro x w2 ⟨rfl, hb⟩
            have HQ2 := hid (HOn.out _ _ HQ1.out hb)
            clear hb
            have z2 := (HJ.out _ HQ2.out).2.2
            clear y1 y2
            gi_wp2
            (try (refine hK _ _ ?_; clear hK K))
            try simp only [Act.put, tqA, tqZ, tqS]
            refine wpAnyIn_ready (rs := [0]) (by kernel_rfl) (by simp) (AllReadyIn.cons rfl (fun K hK => ?_) AllReadyIn.nil)
            go_simp
            (try (refine hK _ _ ?_; clear hK K))
            try simp only [Act.put, tqA, tqZ, tqS]
            refine wpAnyIn_ready (rs := [5]) (by kernel_rfl) (by simp) (AllReadyIn.cons rfl (fun K hK => ?_) AllReadyIn.nil)
            go_simp
            gi_wp2
            refine ⟨trivial, (fun h => by cases h), CallsIn.mono (callsIn_wide.2 (HSo.out _ HQ2.out)) ?_⟩
            rintro x w3 ⟨rfl, hb⟩
            have HQ3 := hid (HOn.out _ _ HQ2.out hb)
            clear hb z2
            gi_wp2
            (try (refine hK _ _ ?_; clear hK K))
            try simp only [Act.put, tqA, tqZ, tqS]
            refine tkI 6 (some 16) (.bool false) ?_
            try simp only [Act.put, tqA, tqZ, tqS]
            refine tkI 7 (some 17) undef ?_ (hy := ⟨Or.inr ⟨by rfl, rfl⟩, fun _ => rfl⟩)
            try simp only [Act.put, tqA, tqZ, tqS]
            refine tkI 8 (some 18) undef ?_ (hy := ⟨Or.inr ⟨by rfl, rfl⟩, fun _ => rfl⟩)
            try simp only [Act.put, tqA, tqZ, tqS]
            refine wpAnyIn_ready (rs := [9]) (by kernel_rfl) (by simp) (AllReadyIn.cons rfl (fun K hK => ?_) AllReadyIn.nil)
            refine Eq.mpr (if_neg (by intro h; exact absurd (show false = true from h) (by decide))) ?_
            refine ⟨fun f hf => trivial, ?_⟩
            (try (refine hK _ _ ?_; clear hK K))
            try simp only [Act.put, tqA]
            refine tkI 10 (some 20) undef ?_ (hy := ⟨Or.inr ⟨by rfl, rfl⟩, fun _ => rfl⟩)
            try simp only [Act.put]
            refine tkI 11 (some 21) (.bool false) ?_
            try simp only [Act.put]
            have HQ4 := hid (HNk.out _ hp HQ3.out)
            refine wpAnyIn_done (by kernel_rfl) ?_ _
            gi_wp2
            go_roundw
            case rel => exact ⟨k + 1, HK.out, by simp, HQ4⟩
            case measure => have := HK.out; simp [intOf] <;> omega
      · rw [hp] at HSo
        clear HNk
        gi_wp2
        refine wpIn_region_any (by kernel_rfl) ?_
        change wpAnyIn _ _ _ _ _ _ _ _ _ (World.drew _)
        have HQ1 := hid (HOn.out _ _ HQ.out (Below.refl _ _).drew)
        have y1 := (HJ.out _ HQ1.out).2.1
        have y2 := (HJ.out _ HQ1.out).2.2
        refine tkI 1 (some 11) (.int .i64 (k : Int)) ?_
        try simp only [Act.put, tqA, tqZ, tqS]
        refine tkI 3 (some 13) (.int .i64 (k : Int)) ?_
        try simp only [Act.put, tqA, tqZ, tqS]
        refine wpAnyIn_ready (rs := [0, 2]) (by kernel_rfl) (by simp) (AllReadyIn.cons rfl (fun K hK => ?_) (AllReadyIn.cons rfl (fun K hK => ?_) AllReadyIn.nil))
        · go_simp
          (try (refine hK _ _ ?_; clear hK K))
          try simp only [Act.put, tqA, tqZ, tqS]
          refine wpAnyIn_ready (rs := [2]) (by kernel_rfl) (by simp) (AllReadyIn.cons rfl (fun K hK => ?_) AllReadyIn.nil)
          go_simp
          (try (refine hK _ _ ?_; clear hK K))
          try simp only [Act.put, tqA, tqZ, tqS]
          refine wpAnyIn_ready (rs := [4]) (by kernel_rfl) (by simp) (AllReadyIn.cons rfl (fun K hK => ?_) AllReadyIn.nil)
          go_simp
          gi_wp2
          refine ⟨trivial, (fun h => by cases h), CallsIn.mono (callsIn_wide.2 (HA.out _ HQ1.out)) ?_⟩
          rintro x w2 ⟨rfl, hb⟩
          have HQ2 := hid (HOn.out _ _ HQ1.out hb)
          clear hb
          have z2 := (HJ.out _ HQ2.out).2.2
          clear y1 y2
          gi_wp2
          (try (refine hK _ _ ?_; clear hK K))
          try simp only [Act.put, tqA, tqZ, tqS]
          refine wpAnyIn_ready (rs := [5]) (by kernel_rfl) (by simp) (AllReadyIn.cons rfl (fun K hK => ?_) AllReadyIn.nil)
          go_simp
          gi_wp2
          refine ⟨trivial, (fun h => by cases h), CallsIn.mono (callsIn_wide.2 (HSo.out _ HQ2.out)) ?_⟩
          rintro x w3 ⟨rfl, hb⟩
          have HQ3 := hid (HOn.out _ _ HQ2.out hb)
          clear hb z2
          gi_wp2
          (try (refine hK _ _ ?_; clear hK K))
          try simp only [Act.put, tqA, tqZ, tqS]
          refine tkI 6 (some 16) (.bool true) ?_
          try simp only [Act.put, tqA, tqZ, tqS]
          refine tkI 7 (some 17) (.func (.yield l) #[] #[]) ?_
          try simp only [Act.put, tqA, tqZ, tqS]
          refine tkI 8 (some 18) (.int .i64 (k : Int)) ?_
          try simp only [Act.put, tqA, tqZ, tqS]
          refine wpAnyIn_ready (rs := [9]) (by kernel_rfl) (by simp) (AllReadyIn.cons rfl (fun K hK => ?_) AllReadyIn.nil)
          obtain ⟨fn, tmps, assign, body, hy, hR⟩ := HYk.out _ hp HQ3.out
          have HR := hid hR
          clear hR
          go_simp
          gi_wp2
          refine ⟨(fun h => by cases h), RoundIn.mono HR.out ?_⟩
          rintro x w4 ⟨rfl, hJ4⟩
          have HQ4 := hid hJ4
          clear hJ4 HR hy
          gi_wp2
          (try (refine hK _ _ ?_; clear hK K))
          try simp only [Act.put, tqA, tqZ, tqS]
          refine tkI 10 (some 20) (.bool false) ?_
          try simp only [Act.put, tqA, tqZ, tqS]
          refine tkI 11 (some 21) (.bool false) ?_
          try simp only [Act.put, tqA, tqZ, tqS]
          refine wpAnyIn_done (by kernel_rfl) ?_ _
          gi_wp2
          go_roundw
          case rel => exact ⟨k + 1, HK.out, by simp, HQ4⟩
          case measure => have := HK.out; simp [intOf] <;> omega
        · go_simp
          (try (refine hK _ _ ?_; clear hK K))
          try simp only [Act.put, tqA, tqZ, tqS]
          refine wpAnyIn_ready (rs := [0, 4]) (by kernel_rfl) (by simp) (AllReadyIn.cons rfl (fun K hK => ?_) (AllReadyIn.cons rfl (fun K hK => ?_) AllReadyIn.nil))
          · go_simp
            (try (refine hK _ _ ?_; clear hK K))
            try simp only [Act.put, tqA, tqZ, tqS]
            refine wpAnyIn_ready (rs := [4]) (by kernel_rfl) (by simp) (AllReadyIn.cons rfl (fun K hK => ?_) AllReadyIn.nil)
            go_simp
            gi_wp2
            refine ⟨trivial, (fun h => by cases h), CallsIn.mono (callsIn_wide.2 (HA.out _ HQ1.out)) ?_⟩
            rintro x w2 ⟨rfl, hb⟩
            have HQ2 := hid (HOn.out _ _ HQ1.out hb)
            clear hb
            have z2 := (HJ.out _ HQ2.out).2.2
            clear y1 y2
            gi_wp2
            (try (refine hK _ _ ?_; clear hK K))
            try simp only [Act.put, tqA, tqZ, tqS]
            refine wpAnyIn_ready (rs := [5]) (by kernel_rfl) (by simp) (AllReadyIn.cons rfl (fun K hK => ?_) AllReadyIn.nil)
            go_simp
            gi_wp2
            refine ⟨trivial, (fun h => by cases h), CallsIn.mono (callsIn_wide.2 (HSo.out _ HQ2.out)) ?_⟩
            rintro x w3 ⟨rfl, hb⟩
            have HQ3 := hid (HOn.out _ _ HQ2.out hb)
            clear hb z2
            gi_wp2
            (try (refine hK _ _ ?_; clear hK K))
            try simp only [Act.put, tqA, tqZ, tqS]
            refine tkI 6 (some 16) (.bool true) ?_
            try simp only [Act.put, tqA, tqZ, tqS]
            refine tkI 7 (some 17) (.func (.yield l) #[] #[]) ?_
            try simp only [Act.put, tqA, tqZ, tqS]
            refine tkI 8 (some 18) (.int .i64 (k : Int)) ?_
            try simp only [Act.put, tqA, tqZ, tqS]
            refine wpAnyIn_ready (rs := [9]) (by kernel_rfl) (by simp) (AllReadyIn.cons rfl (fun K hK => ?_) AllReadyIn.nil)
            obtain ⟨fn, tmps, assign, body, hy, hR⟩ := HYk.out _ hp HQ3.out
            have HR := hid hR
            clear hR
            go_simp
            gi_wp2
            refine ⟨(fun h => by cases h), RoundIn.mono HR.out ?_⟩
            rintro x w4 ⟨rfl, hJ4⟩
            have HQ4 := hid hJ4
            clear hJ4 HR hy
            gi_wp2
            (try (refine hK _ _ ?_; clear hK K))
            try simp only [Act.put, tqA, tqZ, tqS]
            refine tkI 10 (some 20) (.bool false) ?_
            try simp only [Act.put, tqA, tqZ, tqS]
            refine tkI 11 (some 21) (.bool false) ?_
            try simp only [Act.put, tqA, tqZ, tqS]
            refine wpAnyIn_done (by kernel_rfl) ?_ _
            gi_wp2
            go_roundw
            case rel => exact ⟨k + 1, HK.out, by simp, HQ4⟩
            case measure => have := HK.out; simp [intOf] <;> omega
          · skip
            go_simp
            gi_wp2
            refine ⟨trivial, (fun h => by cases h), CallsIn.mono (callsIn_wide.2 (HA.out _ HQ1.out)) ?_⟩
            rintro x w2 ⟨rfl, hb⟩
            have HQ2 := hid (HOn.out _ _ HQ1.out hb)
            clear hb
            have z2 := (HJ.out _ HQ2.out).2.2
            clear y1 y2
            gi_wp2
            (try (refine hK _ _ ?_; clear hK K))
            try simp only [Act.put, tqA, tqZ, tqS]
            refine wpAnyIn_ready (rs := [0]) (by kernel_rfl) (by simp) (AllReadyIn.cons rfl (fun K hK => ?_) AllReadyIn.nil)
            go_simp
            (try (refine hK _ _ ?_; clear hK K))
            try simp only [Act.put, tqA, tqZ, tqS]
            refine wpAnyIn_ready (rs := [5]) (by kernel_rfl) (by simp) (AllReadyIn.cons rfl (fun K hK => ?_) AllReadyIn.nil)
            go_simp
            gi_wp2
            refine ⟨trivial, (fun h => by cases h), CallsIn.mono (callsIn_wide.2 (HSo.out _ HQ2.out)) ?_⟩
            rintro x w3 ⟨rfl, hb⟩
            have HQ3 := hid (HOn.out _ _ HQ2.out hb)
            clear hb z2
            gi_wp2
            (try (refine hK _ _ ?_; clear hK K))
            try simp only [Act.put, tqA, tqZ, tqS]
            refine tkI 6 (some 16) (.bool true) ?_
            try simp only [Act.put, tqA, tqZ, tqS]
            refine tkI 7 (some 17) (.func (.yield l) #[] #[]) ?_
            try simp only [Act.put, tqA, tqZ, tqS]
            refine tkI 8 (some 18) (.int .i64 (k : Int)) ?_
            try simp only [Act.put, tqA, tqZ, tqS]
            refine wpAnyIn_ready (rs := [9]) (by kernel_rfl) (by simp) (AllReadyIn.cons rfl (fun K hK => ?_) AllReadyIn.nil)
            obtain ⟨fn, tmps, assign, body, hy, hR⟩ := HYk.out _ hp HQ3.out
            have HR := hid hR
            clear hR
            go_simp
            gi_wp2
            refine ⟨(fun h => by cases h), RoundIn.mono HR.out ?_⟩
            rintro x w4 ⟨rfl, hJ4⟩
            have HQ4 := hid hJ4
            clear hJ4 HR hy
            gi_wp2
            (try (refine hK _ _ ?_; clear hK K))
            try simp only [Act.put, tqA, tqZ, tqS]
            refine tkI 10 (some 20) (.bool false) ?_
            try simp only [Act.put, tqA, tqZ, tqS]
            refine tkI 11 (some 21) (.bool false) ?_
            try simp only [Act.put, tqA, tqZ, tqS]
            refine wpAnyIn_done (by kernel_rfl) ?_ _
            gi_wp2
            go_roundw
            case rel => exact ⟨k + 1, HK.out, by simp, HQ4⟩
            case measure => have := HK.out; simp [intOf] <;> omega
    · have hkw : k = d.m.ns := by omega
      subst hkw
      gi_wp2
      go_end0
      exact ⟨⟨_, rfl⟩, HQ.out⟩
end Go.Proofs.YtdfnbcbnmiohnaaGreatDoor
namespace Go.Proofs.YtdfnbcbnmiohnaaGreatDoor
open Go.RowKit Go.Shelf
set_option maxHeartbeats 2000000
set_option maxRecDepth 100000
attribute [local go_sem] Oper.semAt_some
theorem cntN_le (f : Nat → Bool) (k : Nat) : cntN f k ≤ k := by
  induction k with
  | zero => exact Nat.le_refl _
  | succ k ih => rw [cntN]; split <;> omega
structure FJ (w W : World) (p : Dp) (d : DS) (gc bd bs L D : Nat) (r : Loop) (so : Value) (c : Int) : Prop where
  db : DB W p d
  but : Below w.heap.size w W
  cd : Ob W bd (box (.pointer (some ⟨p.g, 0, none⟩)) 23)
  cs : Ob W bs (box so 136)
  l : Ob W L (.loop r)
  d : Ob W D (.deferred (some []))
  cnt : Ob W gc (box (.int .i64 c) 3)
theorem FJ.on {w W W' : World} {p : Dp} {d : DS} {gc bd bs L D : Nat} {r : Loop} {so : Value} {c : Int} (h : FJ w W p d gc bd bs L D r so c) (hb : Below W.heap.size W W') : FJ w W' p d gc bd bs L D r so c :=
  ⟨h.db.on hb, below_on h.but hb, h.cd.on hb, h.cs.on hb, h.l.on hb, h.d.on hb, h.cnt.on hb⟩
theorem free_in (n : Nat) (w : World) (p : Dp) (d : DS) (h : DB w p d) :
    CallsIn .wide n Tryz.prog 32 #[.pointer (some ⟨p.g, 0, none⟩)] w fun x w' => x = .returned (.int .i64 (d.free : Int)) ∧ Below w.heap.size w w' := by
  have n64 := h.ok.n64
  have HD := hid (h.on (below_one w (.cells #[.int .i64 0] 3)))
  have HC : Hid (Ob (w.alloc (.cells #[.int .i64 0] 3)) w.heap.size (box (.int .i64 0) 3)) := hid (heap_alloc_new _ _)
  have HB := hid (below_one w (.cells #[.int .i64 0] 3))
  have HLt := hid h.lt
  clear h
  refine callsIn_of_wp_marks Tryz.func32 rfl trivial ?_ rfl
  simp only [Tryz.ntmps32, List.size_toArray, List.length_cons, List.length_nil, Nat.reduceAdd, Nat.reduceSub, Array.replicate_succ, Array.replicate_zero, List.push_toArray, List.append_toArray, List.nil_append, List.cons_append]
  gi_wp2
  generalize hX : w.alloc _ = X at *
  clear hX
  refine ⟨trivial, (fun h => by cases h), CallsIn.mono (callsIn_wide.2 (pagesf_any _ _ _ _)) ?_⟩
  rintro x w3 ⟨bd, bs, rfl, hcd, hcs, ld, ls, hb3⟩
  have hxs := HB.out.size
  have hgX := HC.out.lt
  have HD3 := hid (HD.out.on hb3)
  have HC3 := hid (HC.out.on hb3)
  have HB3 := hid (below_on HB.out hb3)
  have HCD := hid hcd
  have HCS := hid hcs
  clear hb3 hcd hcs HD HC HB
  gi_wp2
  generalize hgc : w.heap.size = gc at HC3 hgX ⊢
  have HGC := hid hgc
  clear hgc
  refine range_out rfl rfl (gf := 118) (lb := #[.pointer (some ⟨bd, 0, none⟩), .pointer (some ⟨bs, 0, none⟩)]) rfl trivial (enters_of Tryz.func118 (by kernel_rfl) rfl) ?_
  intro fn hfn
  generalize hr0 : recOf fn _ _ _ _ _ = r0
  have hW1 : Below w3.heap.size w3 ((w3.alloc (.deferred (some []))).alloc (.loop r0)) := below_on (below_one _ _) (below_one _ _)
  have hD : Ob ((w3.alloc (.deferred (some []))).alloc (.loop r0)) w3.heap.size (.deferred (some [])) := Ob.on (heap_alloc_new w3 _) (below_one _ _)
  have hL : Ob ((w3.alloc (.deferred (some []))).alloc (.loop r0)) (w3.heap.size + 1) (.loop r0) := by
    have := heap_alloc_new (w3.alloc (.deferred (some []))) (.loop r0)
    rw [World.size_alloc] at this
    exact this
  generalize (w3.alloc (.deferred (some []))).alloc (.loop r0) = W1 at *
  have hs3 := HB3.out.size
  have hJ0 : FJ w W1 p d gc bd bs (w3.heap.size + 1) w3.heap.size r0 (.func (.func 73) #[] #[]) ((cntN (fun k => isF (d.at k)) 0 : Nat) : Int) := ⟨HD3.out.on hW1, below_on HB3.out hW1, HCD.out.on hW1, HCS.out.on hW1, hL, hD, HC3.out.on hW1⟩
  refine CallsIn.mono (pagesF_in (n - 1) (w3.heap.size + 1) bd bs p d (fun k => isF (d.at k)) (fun k W => FJ w W p d gc bd bs (w3.heap.size + 1) w3.heap.size r0 (.func (.func 73) #[] #[]) ((cntN (fun k => isF (d.at k)) k : Nat) : Int)) ?hJ ?hOn ?hSo ?hY ?hN W1 hJ0) ?post
  case hJ => exact fun k W hj => ⟨hj.db, hj.cd.cell, hj.cs.cell⟩
  case hOn => exact fun k W W' hj hb => hj.on hb
  case hSo => exact fun k W _ _ => isFree_any W _ _
  case hN =>
    intro k W _ hp hj
    rw [cntN, hp]
    exact hj
  case post =>
    rintro e W2 ⟨⟨v, rfl⟩, hj⟩
    refine ⟨⟨v, rfl⟩, hj.l, ?_⟩
    have hne : gc ≠ w3.heap.size + 1 := hj.cnt.ne hj.l (fun h => by cases h)
    have hv3 : Ob (W2.putObj (w3.heap.size + 1) (.loop { r0 with state := .exhausted })) gc (box (.int .i64 (d.free : Int)) 3) := (World.putObj_heap_other hne).trans hj.cnt
    have hd3 : Ob (W2.putObj (w3.heap.size + 1) (.loop { r0 with state := .exhausted })) w3.heap.size (.deferred (some [])) := (World.putObj_heap_other (by omega)).trans hj.d
    have hb4 : Below w.heap.size w (W2.putObj (w3.heap.size + 1) (.loop { r0 with state := .exhausted })) := hj.but.trans ((putObj_but W2 (w3.heap.size + 1) (.loop { r0 with state := .exhausted })).below (by simp; omega) hj.but.size)
    generalize W2.putObj (w3.heap.size + 1) (.loop { r0 with state := .exhausted }) = W3 at *
    have y0 := hv3.cell
    have hb5 : Below w.heap.size w (W3.putObj w3.heap.size (.deferred none)) := hb4.trans ((putObj_but W3 w3.heap.size (.deferred none)).below (by simp; omega) hb4.size)
    gi_wp2
    refine ⟨by simp, .inl ⟨_, _, rfl, run_takeDeferred hd3, ?_⟩⟩
    exact ⟨_, results_tmp rfl _ _ _, rfl, hb5⟩
  case hY =>
    intro k W hk hp hj
    refine yield_b (r := r0) hj.l (by rw [← hr0]; rfl) (by rw [← hr0]; rfl) (by rw [← hr0]; rfl) ?_
    rw [← congrArg Loop.assign hr0, ← congrArg Loop.body hr0, ← congrArg Loop.params hr0, ← congrArg Loop.tmps hr0]
    dsimp only [recOf]
    have hcl := cntN_le (fun k => isF (d.at k)) k
    have HE : Hid (((cntN (fun k => isF (d.at k)) (k + 1) : Nat) : Int) = ((cntN (fun k => isF (d.at k)) k : Nat) : Int) + 1) := hid (by rw [cntN, if_pos hp]; push_cast; rfl)
    generalize cntN (fun k => isF (d.at k)) (k + 1) = c1 at *
    generalize cntN (fun k => isF (d.at k)) k = c0 at *
    have hwr : wrap64 ((c0 : Int) + 1) = (c0 : Int) + 1 := by unfold wrap64; omega
    gi_wp2
    refine ⟨hj.l, ?_⟩
    have hne : gc ≠ w3.heap.size + 1 := hj.cnt.ne hj.l (fun h => by cases h)
    have hLY := hj.l.put (.loop (busyOf r0))
    have hpb := putObj_but W (w3.heap.size + 1) (.loop (busyOf r0))
    have hvY : Ob (W.putObj (w3.heap.size + 1) (.loop (busyOf r0))) gc (box (.int .i64 (c0 : Int)) 3) := (World.putObj_heap_other hne).trans hj.cnt
    generalize W.putObj (w3.heap.size + 1) (.loop (busyOf r0)) = Y at *
    have y0 := hvY.cell
    have yf := hvY.free
    gi_wp2
    have hG : ButL [w3.heap.size + 1, gc] W (Y.setCell ⟨gc, 0, none⟩ (.int .i64 ((c0 : Int) + 1))) := (hpb.mono (by simp)).trans (.setCell _ _ _ _ (by simp))
    have hL6 : Ob (Y.setCell ⟨gc, 0, none⟩ (.int .i64 ((c0 : Int) + 1))) (w3.heap.size + 1) (.loop (busyOf r0)) := (heap_setCell_other Y ⟨gc, 0, none⟩ _ _ (fun e => hne e.symm)).trans hLY
    have hg6 : Ob (Y.setCell ⟨gc, 0, none⟩ (.int .i64 ((c0 : Int) + 1))) gc (box (.int .i64 ((c0 : Int) + 1)) 3) := Cel.setCell (t := 3) (cs := [.int .i64 (c0 : Int)]) (g := gc) (w := Y) hvY 0 _
    generalize Y.setCell ⟨gc, 0, none⟩ (.int .i64 ((c0 : Int) + 1)) = Z at *
    have hG7 : ButL [w3.heap.size + 1, gc] W (Z.putObj (w3.heap.size + 1) (.loop r0)) := hG.trans ((putObj_but Z (w3.heap.size + 1) (.loop r0)).mono (by simp))
    have hlow : ∀ q ∈ [w3.heap.size + 1, gc], w.heap.size ≤ q := by
      have := HGC.out
      simp; omega
    refine ⟨hL6, ?_⟩
    have hoff : ∀ q ∈ p.all, q ∉ [w3.heap.size + 1, gc] := fun q hq hm => by have := hlow q hm; have := HLt.out q hq; omega
    have nd : bd ∉ [w3.heap.size + 1, gc] := by
      have h1 : bd ≠ w3.heap.size + 1 := hj.cd.ne hj.l (fun h => by cases h)
      have h2 : bd ≠ gc := by omega
      simp [h1, h2]
    have ns : bs ∉ [w3.heap.size + 1, gc] := by
      have h1 : bs ≠ w3.heap.size + 1 := hj.cs.ne hj.l (fun h => by cases h)
      have h2 : bs ≠ gc := by omega
      simp [h1, h2]
    have nD : w3.heap.size ∉ [w3.heap.size + 1, gc] := by
      have h2 : w3.heap.size ≠ gc := fun e => (hj.cnt.ne hj.d (fun h => by cases h)) e.symm
      simp [h2]
    rw [HE.out]
    exact ⟨hj.db.frame hG7 hoff, hj.but.trans (hG7.below (B := w.heap.size) hlow hj.but.size), hj.cd.but hG7 nd, hj.cs.but hG7 ns, hL6.put (.loop r0), hj.d.but hG7 nD, (World.putObj_heap_other hne).trans hg6⟩
theorem free_any (w : World) (p : Dp) (d : DS) (h : DB w p d) :
    Calls Tryz.prog 32 #[ptr p.g] w fun x w' => x = .returned (.int .i64 (d.free : Int)) ∧ Below w.heap.size w w' := callsIn_wide.1 (free_in 0 w p d h)
end Go.Proofs.YtdfnbcbnmiohnaaGreatDoor
namespace Go.Proofs.YtdfnbcbnmiohnaaGreatDoor
open Go.RowKit Go.Shelf
set_option maxHeartbeats 2000000
set_option maxRecDepth 100000
attribute [local go_sem] Oper.semAt_some
def ints (A : List Nat) : List Value := A.map fun (k : Nat) => Value.int .i64 (k : Int)
theorem ints_snoc (A : List Nat) (k : Nat) : ints (A ++ [k]) = ints A ++ [.int .i64 (k : Int)] := by simp [ints]
theorem lstN_len (f : Nat → Bool) (k : Nat) : (lstN f k).length ≤ k := by
  induction k with
  | zero => exact Nat.le_refl _
  | succ k ih => rw [lstN, List.length_append]; split <;> simp <;> omega
theorem under45 : Tryz.prog.underlying 25 = some (.slice 3) := by kernel_rfl
theorem info3 : (Tryz.prog.info? 3).map (fun i => (i.zero, i.size, i.bytes)) = some (some (.int .i64 0), 1, 8) := by kernel_rfl
structure OJ (w W : World) (p : Dp) (d : DS) (gl bd bs bo L D B : Nat) (r : Loop) (s : Int) (A : List Nat) : Prop where
  db : DB W p d
  but : Below w.heap.size w W
  cd : Ob W bd (box (.pointer (some ⟨p.g, 0, none⟩)) 23)
  cs : Ob W bs (box (.func (.func 136) #[] #[.pointer (some ⟨bo, 0, none⟩)]) 136)
  co : Ob W bo (box (.int .i64 s) 3)
  l : Ob W L (.loop r)
  d : Ob W D (.deferred (some []))
  lst : ∃ v, Ob W gl (box v 25) ∧ W.ownsRow B 3 1 v A.length (ints A)
theorem ownsRow_same {W W' : World} {b : Nat} {e : TypeId} {size : Nat} {v : Value} {n : Nat} {xs : List Value} (h : W.ownsRow b e size v n xs) (hk : ∀ k cs t z, b ≤ k → W.heap[k]? = some (.cells cs t z) → W'.heap[k]? = W.heap[k]?) : W'.ownsRow b e size v n xs := by
  refine ⟨h.1, h.2.imp id ?_⟩
  rintro ⟨g, cap, cur, rfl, h1, h2, h3⟩
  exact ⟨g, cap, cur, rfl, h1, (hk g _ _ _ h1 h2).trans h2, h3⟩
theorem OJ.on {w W W' : World} {p : Dp} {d : DS} {gl bd bs bo L D B : Nat} {r : Loop} {s : Int} {A : List Nat} (h : OJ w W p d gl bd bs bo L D B r s A) (hb : Below W.heap.size W W') : OJ w W' p d gl bd bs bo L D B r s A := by
  obtain ⟨v, h1, h2⟩ := h.lst
  exact ⟨h.db.on hb, below_on h.but hb, h.cd.on hb, h.cs.on hb, h.co.on hb, h.l.on hb, h.d.on hb, v, h1.on hb, ownsRow_same h2 (fun k cs t z _ hc => hb.block k (Array.getElem?_eq_some_iff.1 hc).1)⟩
theorem ownsRow_low {W : World} {b b' : Nat} {e : TypeId} {size : Nat} {v : Value} {n : Nat} {xs : List Value} (h : W.ownsRow b e size v n xs) (hb : b' ≤ b) : W.ownsRow b' e size v n xs := by
  refine ⟨h.1, h.2.imp id ?_⟩
  rintro ⟨g, cap, cur, rfl, h1, h2, h3⟩
  exact ⟨g, cap, cur, rfl, Nat.le_trans hb h1, h2, h3⟩
theorem owned_in (n : Nat) (w : World) (p : Dp) (d : DS) (h : DB w p d) (s : Int) :
    CallsIn .wide n Tryz.prog 46 #[.pointer (some ⟨p.g, 0, none⟩), .int .i64 s] w fun x w' => ∃ v, x = .returned v ∧ w'.ownsRow w.heap.size 3 1 v (d.owned s).length (ints (d.owned s)) ∧ Below w.heap.size w w' := by
  have n64 := h.ok.n64
  have HD := hid h
  have HSp : Hid (Calls Tryz.prog 94 #[.pointer (some ⟨p.g, 0, none⟩), .int .i64 s] w fun e W' => e = .returned (.bool ((d.ent s).t == 1)) ∧ Below w.heap.size w W') := hid (isSpace_any w p d h s)
  have HLt := hid h.lt
  clear h
  unfold DS.owned
  refine callsIn_of_wp_marks Tryz.func46 rfl trivial ?_ rfl
  simp only [Tryz.ntmps46, List.size_toArray, List.length_cons, List.length_nil, Nat.reduceAdd, Nat.reduceSub, Array.replicate_succ, Array.replicate_zero, List.push_toArray, List.append_toArray, List.nil_append, List.cons_append]
  gi_wp2
  refine ⟨trivial, (fun h => by cases h), CallsIn.mono (callsIn_wide.2 HSp.out) ?_⟩
  rintro x w2 ⟨rfl, hb2⟩
  have HD2 := hid (HD.out.on hb2)
  have HB2 := hid hb2
  clear hb2 HSp HD
  by_cases ht : (d.ent s).t = 1
  · have ht' : ((d.ent s).t == 1) = true := by simpa using ht
    rw [ht']
    have HT := hid ht
    clear ht ht'
    have HG : Hid (Ob (w2.alloc (.cells #[.slice none 0 0] 25)) w2.heap.size (box (.slice none 0 0) 25)) := hid (heap_alloc_new _ _)
    have HD3 := hid (HD2.out.on (below_one w2 (.cells #[.slice none 0 0] 25)))
    have HB3 := hid (below_on HB2.out (below_one w2 (.cells #[.slice none 0 0] 25)))
    have hgs : (w2.alloc (.cells #[.slice none 0 0] 25)).heap.size = w2.heap.size + 1 := World.size_alloc _ _
    have hg0 := HB2.out.size
    clear HD2 HB2
    gi_wp2
    generalize w2.alloc _ = X at *
    refine ⟨trivial, (fun h => by cases h), CallsIn.mono (callsIn_wide.2 (isOf_any _ _)) ?_⟩
    rintro x w4 ⟨bo, rfl, hco, lo, hb4⟩
    rw [hgs] at lo
    have HG4 := hid (HG.out.on hb4)
    have HD4 := hid (HD3.out.on hb4)
    have HB4 := hid (below_on HB3.out hb4)
    have HCO := hid hco
    have hs4 := hb4.size
    clear hb4 hco HG HD3 HB3
    gi_wp2
    refine ⟨trivial, (fun h => by cases h), CallsIn.mono (callsIn_wide.2 (pagesf_any _ _ _ _)) ?_⟩
    rintro x w3 ⟨bd, bs, rfl, hcd, hcs, ld, ls, hb3⟩
    have hbo := HCO.out.lt
    have HG3 := hid (HG4.out.on hb3)
    have HD3 := hid (HD4.out.on hb3)
    have HB3 := hid (below_on HB4.out hb3)
    have HCO3 := hid (HCO.out.on hb3)
    have HCD := hid hcd
    have HCS := hid hcs
    have hs3 := hb3.size
    clear hb3 hcd hcs HG4 HD4 HB4 HCO
    gi_wp2
    generalize w2.heap.size = gl at *
    refine range_out rfl rfl (gf := 118) (lb := #[.pointer (some ⟨bd, 0, none⟩), .pointer (some ⟨bs, 0, none⟩)]) rfl trivial (enters_of Tryz.func118 (by kernel_rfl) rfl) ?_
    intro fn hfn
    generalize hr0 : recOf fn _ _ _ _ _ = r0
    have hW1 : Below w3.heap.size w3 ((w3.alloc (.deferred (some []))).alloc (.loop r0)) := below_on (below_one _ _) (below_one _ _)
    have hD : Ob ((w3.alloc (.deferred (some []))).alloc (.loop r0)) w3.heap.size (.deferred (some [])) := Ob.on (heap_alloc_new w3 _) (below_one _ _)
    have hL : Ob ((w3.alloc (.deferred (some []))).alloc (.loop r0)) (w3.heap.size + 1) (.loop r0) := by
      have := heap_alloc_new (w3.alloc (.deferred (some []))) (.loop r0)
      rw [World.size_alloc] at this
      exact this
    generalize (w3.alloc (.deferred (some []))).alloc (.loop r0) = W1 at *
    have hglt := HG3.out.lt
    have hbdl := HCD.out.lt
    have hbsl := HCS.out.lt
    have hbol := HCO3.out.lt
    have hJ0 : OJ w W1 p d gl bd bs bo (w3.heap.size + 1) w3.heap.size w3.heap.size r0 s (lstN (fun k => isO s (k : Int) (d.at k)) 0) := ⟨HD3.out.on hW1, below_on HB3.out hW1, HCD.out.on hW1, HCS.out.on hW1, HCO3.out.on hW1, hL, hD, _, HG3.out.on hW1, World.ownsRow_nil _ _ _ _⟩
    refine CallsIn.mono (pagesO_in (n - 1) (w3.heap.size + 1) bd bs p d (fun k => isO s (k : Int) (d.at k)) bo (fun k W => OJ w W p d gl bd bs bo (w3.heap.size + 1) w3.heap.size w3.heap.size r0 s (lstN (fun k => isO s (k : Int) (d.at k)) k)) ?hJ ?hOn ?hSo ?hY ?hN W1 hJ0) ?post
    case hJ => exact fun k W hj => ⟨hj.db, hj.cd.cell, hj.cs.cell⟩
    case hOn => exact fun k W W' hj hb => hj.on hb
    case hSo => exact fun k W _ hj => isOf1_any W _ _ bo s hj.co
    case hN =>
      intro k W _ hp hj
      rw [lstN, hp, if_neg (by decide), List.append_nil]
      exact hj
    case post =>
      rintro e W2 ⟨⟨v, rfl⟩, hj⟩
      refine ⟨⟨v, rfl⟩, hj.l, ?_⟩
      obtain ⟨vl, hv, hown⟩ := hj.lst
      have hvL : gl ≠ w3.heap.size + 1 := hv.ne hj.l (fun h => by cases h)
      have hv3 : Ob (W2.putObj (w3.heap.size + 1) (.loop { r0 with state := .exhausted })) gl (box vl 25) := (World.putObj_heap_other hvL).trans hv
      have hd3 : Ob (W2.putObj (w3.heap.size + 1) (.loop { r0 with state := .exhausted })) w3.heap.size (.deferred (some [])) := (World.putObj_heap_other (by omega)).trans hj.d
      have ho3 := ownsRow_putObj hown (.loop { r0 with state := .exhausted }) hj.l rfl
      have hb4 : Below w.heap.size w (W2.putObj (w3.heap.size + 1) (.loop { r0 with state := .exhausted })) := hj.but.trans ((putObj_but W2 (w3.heap.size + 1) (.loop { r0 with state := .exhausted })).below (by simp; omega) hj.but.size)
      generalize W2.putObj (w3.heap.size + 1) (.loop { r0 with state := .exhausted }) = W3 at *
      have y0 := hv3.cell
      have hb5 : Below w.heap.size w (W3.putObj w3.heap.size (.deferred none)) := hb4.trans ((putObj_but W3 w3.heap.size (.deferred none)).below (by simp; omega) hb4.size)
      have ho4 := ownsRow_putObj ho3 (.deferred none) hd3 rfl
      gi_wp2
      refine ⟨by simp, .inl ⟨_, _, rfl, run_takeDeferred hd3, ?_⟩⟩
      refine ⟨_, results_tmp rfl _ _ _, vl, rfl, ?_, hb5⟩
      exact ownsRow_low ho4 (by omega)
    case hY =>
      intro k W hk hp hj
      refine yield_b (r := r0) hj.l (by rw [← hr0]; rfl) (by rw [← hr0]; rfl) (by rw [← hr0]; rfl) ?_
      rw [← congrArg Loop.assign hr0, ← congrArg Loop.body hr0, ← congrArg Loop.params hr0, ← congrArg Loop.tmps hr0]
      dsimp only [recOf]
      obtain ⟨v, hv, hown⟩ := hj.lst
      have hAl := lstN_len (fun k => isO s (k : Int) (d.at k)) k
      have hA1 : lstN (fun k => isO s (k : Int) (d.at k)) (k + 1) = lstN (fun k => isO s (k : Int) (d.at k)) k ++ [k] := by rw [lstN, if_pos hp]
      rw [hA1]
      generalize lstN (fun k => isO s (k : Int) (d.at k)) k = A at *
      clear hA1
      gi_wp2
      refine ⟨hj.l, ?_⟩
      have hvL : gl ≠ w3.heap.size + 1 := hv.ne hj.l (fun h => by cases h)
      have hLY := hj.l.put (.loop (busyOf r0))
      have hbY := putObj_but W (w3.heap.size + 1) (.loop (busyOf r0))
      have hvY : Ob (W.putObj (w3.heap.size + 1) (.loop (busyOf r0))) gl (box v 25) := (World.putObj_heap_other hvL).trans hv
      have hoY := ownsRow_putObj hown (.loop (busyOf r0)) hj.l rfl
      have hsY := hj.but.size
      have hlL := hj.l.lt
      generalize W.putObj (w3.heap.size + 1) (.loop (busyOf r0)) = Y at *
      have y0 := hvY.cell
      have hvo : some gl ≠ v.ownBlock := fun e => by
        rcases hown.2 with ⟨hn, _⟩ | ⟨g, cap, cur, hn, hge, hg, _⟩
        · rw [hn] at e; cases e
        · rw [hn] at e
          have e2 : g = gl := by simpa [Value.ownBlock] using e.symm
          omega
      obtain ⟨i0, hi, hz0, hz1, hz2⟩ := info_parts info3
      have hnew : ∀ j u, [Value.int .i64 (k : Int)][j]? = some u → (Y.alloc (.cells #[.int .i64 (k : Int)] 3)).cell? ((⟨Y.heap.size, 0, none⟩ : Addr).add j) = some u := (Cel.new Y 3 [.int .i64 (k : Int)]).src
      have hYs := hbY.size
      have hAm : A.length + 1 ≤ maxLen := by unfold maxLen; omega
      have hAb : (A.length + 1) * 8 ≤ 140737488355328 := by omega
      have HNEW := hid hnew
      clear hnew
      gi_wp2_with (first | (gi_at_builtin; refine wpListIn_append_own _ rfl _ _ 25 rfl w3.heap.size 3 i0 _ 1 8 under45 hi hz0 hz1 hz2 rfl (by decide) v A.length (ints A) rfl (hoY.alloc _) ⟨Y.heap.size, 0, none⟩ 1 1 [.int .i64 (k : Int)] rfl rfl HNEW.out (by intro u hu; simp only [List.mem_cons, List.not_mem_nil, or_false] at hu; rcases hu with rfl; rfl) hAm hAb (by simp; omega) ?_; intro v' w5 hown5 hgrow _; obtain ⟨g', cap', rfl⟩ := ownsRow_succ hown5; have hv5 : Ob w5 gl (box v 25) := (hgrow.block gl (hvY.on (below_one _ _)).lt hvo).trans (hvY.on (below_one _ _)); have c5 := hv5.cell; have f5 := hv5.free))
      have hg' : w3.heap.size ≤ g' := by
        rcases hown5.2 with ⟨hn, _⟩ | ⟨g, cap, cur, hn, hge, hg, _⟩
        · cases hn
        · cases hn; exact hge
      have hLo : some (w3.heap.size + 1) ≠ v.ownBlock := fun e => by
        rcases hown.2 with ⟨hn, _⟩ | ⟨g, cap, cur, hn, _, hg, _⟩
        · rw [hn] at e; cases e
        · rw [hn] at e
          cases e
          have hl := hj.l
          unfold Ob at hl
          rw [hl] at hg
          cases hg
      have hDo : some w3.heap.size ≠ v.ownBlock := fun e => by
        rcases hown.2 with ⟨hn, _⟩ | ⟨g, cap, cur, hn, _, hg, _⟩
        · rw [hn] at e; cases e
        · rw [hn] at e
          have e2 : g = w3.heap.size := by simpa [Value.ownBlock] using e.symm
          have hd := hj.d
          unfold Ob at hd
          rw [e2, hd] at hg
          cases hg
      have hvge : ∀ q, v.ownBlock = some q → w3.heap.size ≤ q := fun q hq => (hown.lt q hq).1
      obtain ⟨G, hG⟩ : ∃ G : List Nat, G = (w3.heap.size + 1) :: gl :: v.ownBlock.toList := ⟨_, rfl⟩
      have hGL : w3.heap.size + 1 ∈ G := by rw [hG]; simp
      have hGg : gl ∈ G := by rw [hG]; simp
      have hGo : ∀ q, some q = v.ownBlock → q ∈ G := fun q e => by rw [hG, ← e]; simp
      have hGm : ∀ q ∈ G, q = w3.heap.size + 1 ∨ q = gl ∨ v.ownBlock = some q := fun q hq => by
        rw [hG] at hq
        simp only [List.mem_cons, Option.mem_toList] at hq
        rcases hq with h | h | h
        · exact .inl h
        · exact .inr (.inl h)
        · exact .inr (.inr (by simpa using h))
      clear hG
      have hb5 : ButL G W w5 := ((hbY.mono (fun q hq => by rw [List.mem_singleton] at hq; rw [hq]; exact hGL)).on (below_one Y _)).trans ⟨hgrow.os, hgrow.tape, hgrow.output, hgrow.size, fun q hq hn => hgrow.block q hq (fun e => hn (hGo q e))⟩
      have hL5 : Ob w5 (w3.heap.size + 1) (.loop (busyOf r0)) := (hgrow.block _ (hLY.on (below_one _ _)).lt hLo).trans (hLY.on (below_one _ _))
      obtain ⟨v6, hv6⟩ : ∃ x, x = Value.slice (some { block := g', off := 0 }) (A.length + 1) cap' := ⟨_, rfl⟩
      have hown6 := hown5
      rw [← hv6] at hown6 ⊢
      have hb6 : ButL G W (w5.setCell ⟨gl, 0, none⟩ v6) := hb5.trans (.setCell _ _ _ _ hGg)
      have hL6 : Ob (w5.setCell ⟨gl, 0, none⟩ v6) (w3.heap.size + 1) (.loop (busyOf r0)) := (heap_setCell_other w5 ⟨gl, 0, none⟩ _ v6 (fun e => hvL e.symm)).trans hL5
      have hg6 : Ob (w5.setCell ⟨gl, 0, none⟩ v6) gl (box v6 25) := Cel.setCell (t := 25) (cs := [v]) (g := gl) (w := w5) hv5 0 v6
      have hg'L : g' ≠ w3.heap.size + 1 := fun e => by
        rcases hown5.2 with ⟨hn, _⟩ | ⟨g, cap, cur, hn, _, hg, _⟩
        · cases hn
        · cases hn
          subst e
          unfold Ob at hL5
          rw [hL5] at hg
          cases hg
      have hb7 : ButL G W ((w5.setCell ⟨gl, 0, none⟩ v6).putObj (w3.heap.size + 1) (.loop r0)) := hb6.trans ((putObj_but _ _ _).mono (fun q hq => by rw [List.mem_singleton] at hq; rw [hq]; exact hGL))
      have hown7 : ((w5.setCell ⟨gl, 0, none⟩ v6).putObj (w3.heap.size + 1) (.loop r0)).ownsRow w3.heap.size 3 1 v6 (A ++ [k]).length (ints (A ++ [k])) := by
        rw [ints_snoc, List.length_append, List.length_singleton]
        refine ⟨hown6.1, .inr ?_⟩
        rcases hown5.2 with ⟨hn, _⟩ | ⟨g, cap, cur, hn, h1, hg, h3⟩
        · cases hn
        · cases hn
          exact ⟨g', cap', cur, hv6, h1, ((World.putObj_heap_other hg'L).trans (heap_setCell_other w5 ⟨gl, 0, none⟩ g' v6 (fun e => by have e2 : g' = gl := e; omega))).trans hg, h3⟩
      have hlow : ∀ q ∈ G, w.heap.size ≤ q := fun q hq => by
        rcases hGm q hq with rfl | rfl | e
        · omega
        · omega
        · have := hvge q e; omega
      have hsm : ∀ q, q < w3.heap.size → q ≠ gl → q ∉ G := fun q h1 h2 hq => by
        rcases hGm q hq with rfl | rfl | e
        · omega
        · omega
        · have := hvge q e; omega
      have hdG : w3.heap.size ∉ G := fun hq => by
        rcases hGm _ hq with e | e | e
        · omega
        · omega
        · exact hDo e.symm
      exact ⟨hL6, hj.db.frame hb7 (fun q hq hm => by have := hlow q hm; have := HLt.out q hq; omega), hj.but.trans (hb7.below (B := w.heap.size) hlow hj.but.size), hj.cd.but hb7 (hsm _ (by omega) (by omega)), hj.cs.but hb7 (hsm _ (by omega) (by omega)), hj.co.but hb7 (hsm _ (by omega) (by omega)), hL6.put (.loop r0), hj.d.but hb7 hdG, v6, (World.putObj_heap_other hvL).trans hg6, hown7⟩
  · have ht' : ((d.ent s).t == 1) = false := by simpa using ht
    rw [ht']
    have HT := hid ht
    clear ht ht'
    gi_wp2
    refine ⟨_, results_tmp rfl _ _ _, _, rfl, ?_, HB2.out⟩
    exact World.ownsRow_nil _ _ _ _
theorem owned_any (w : World) (p : Dp) (d : DS) (h : DB w p d) (s : Int) :
    Calls Tryz.prog 46 #[ptr p.g, .int .i64 s] w fun x w' => ∃ v, x = .returned v ∧ w'.ownsRow w.heap.size 3 1 v (d.owned s).length (ints (d.owned s)) ∧ Below w.heap.size w w' := callsIn_wide.1 (owned_in 0 w p d h s)
end Go.Proofs.YtdfnbcbnmiohnaaGreatDoor
