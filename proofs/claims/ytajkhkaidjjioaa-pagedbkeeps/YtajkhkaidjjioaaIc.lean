/- pages' closure 92. -/
import Derived.Test.YtajkhkaidjjioaaIb
namespace Go.Proofs.Ytajkhkaidjjioaa
open Go.RowKit Go.Shelf
set_option maxHeartbeats 2000000
set_option maxRecDepth 100000
theorem pagesF_in (n l bd bs : Nat) (p : Dp) (d : DS) (pred : Nat → Bool) (J : Nat → World → Prop)
    (hJ : ∀ k W, J k W → DB W p d ∧ W.cell? ⟨bd, 0, none⟩ = some (.pointer (some ⟨p.g, 0, none⟩)) ∧ W.cell? ⟨bs, 0, none⟩ = some (.func (.func 51) #[] #[]))
    (hOn : ∀ k W W', J k W → Below W.heap.size W W' → J k W')
    (hSo : ∀ k W, k < d.m.ns → J k W → Calls Try.prog 51 #[.int .i64 (k : Int), (d.at k).v] W fun e W' => e = .returned (.bool (pred k)) ∧ Below W.heap.size W W')
    (hY : ∀ k W, k < d.m.ns → pred k = true → J k W → YieldAt .wide (n - 1) Try.prog l #[.int .i64 (k : Int)] W (fun e W' => e = .returned (.bool true) ∧ J (k + 1) W'))
    (hN : ∀ k W, k < d.m.ns → pred k = false → J k W → J (k + 1) W)
    (W : World) (h0 : J 0 W) :
    CallsIn .wide n Try.prog 92 #[.func (.yield l) #[] #[], .pointer (some ⟨bd, 0, none⟩), .pointer (some ⟨bs, 0, none⟩)] W fun e W' => (∃ v, e = .returned v) ∧ J d.m.ns W' := by
  have n64 := (hJ 0 W h0).1.ok.n64
  have w0 := (hJ 0 W h0).2.1
  have HP : Hid (Calls Try.prog 46 #[.pointer (some ⟨p.g, 0, none⟩)] W fun x W' => x = .returned (.int .i64 (d.m.ns : Int)) ∧ W = W') := hid (pages_any W p d (hJ 0 W h0).1)
  refine callsIn_of_wp Try.func92 rfl trivial ?_ rfl
  simp only [Try.ntmps92, List.size_toArray, List.length_cons, List.length_nil, Nat.reduceAdd, Nat.reduceSub, Array.replicate_succ, Array.replicate_zero, List.push_toArray, List.append_toArray, List.nil_append, List.cons_append]
  gi_wp2
  refine ⟨trivial, (fun h => by cases h), CallsIn.mono (callsIn_wide.2 HP.out) ?_⟩
  rintro x w1 ⟨rfl, hw1⟩
  subst hw1
  clear HP
  gi_wp2
  clear w0
  gi_loopw [7] (fun q wr => ∃ k : Nat, k ≤ d.m.ns ∧ q = .int .i64 (k : Int) ∧ Hid (J k wr)) (fun q _ => d.m.ns - (intOf q).toNat)
  case atStart => exact ⟨0, Nat.zero_le _, rfl, hid h0⟩
  case round =>
    obtain ⟨k, hk, rfl, HQ⟩ := hrel
    by_cases hlt : k < d.m.ns
    · have q1 : (k : Int) < (d.m.ns : Int) := by omega
      have q2 : (k : Int) ≤ 1024 := by omega
      have HK : Hid (k < d.m.ns) := hid hlt
      clear hlt hk n64
      have HA : Hid (∀ w1, J k w1 → Calls Try.prog 87 #[.pointer (some ⟨p.g, 0, none⟩), .int .i64 (k : Int)] w1 fun x w' => x = .returned (.agg (d.at k).cs.toArray) ∧ Below w1.heap.size w1 w') := hid (fun w1 h1 => dat_any w1 p d (hJ k w1 h1).1 k HK.out)
      have HSo : Hid (∀ w1, J k w1 → Calls Try.prog 51 #[.int .i64 (k : Int), .agg (d.at k).cs.toArray] w1 fun e W' => e = .returned (.bool (pred k)) ∧ Below w1.heap.size w1 W') := hid (fun w1 h1 => hSo k w1 HK.out h1)
      have HJ := hid (hJ k)
      have HOn := hid (hOn k)
      have HYk := hid (fun w1 (hp : pred k = true) (h1 : J k w1) => hY k w1 HK.out hp h1)
      have HNk := hid (fun w1 (hp : pred k = false) (h1 : J k w1) => hN k w1 HK.out hp h1)
      generalize (d.at k).cs.toArray = EV at *
      cases hp : pred k
      · rw [hp] at HSo
        clear HYk
        gi_wp2
        refine wpIn_region_any (by kernel_rfl) ?_
        change wpAnyIn _ _ _ _ _ _ _ _ _ (World.drew _)
        have HQ1 := hid (HOn.out _ _ HQ.out (Below.refl _ _).drew)
        have y1 := (HJ.out _ HQ1.out).2.1
        have y2 := (HJ.out _ HQ1.out).2.2
        refine wpAnyIn_take (i := 1) (oi := { dst := some 11, op := Op.move (Operand.tmp 4), type := 3, pos := "owned.go:32", after := #[], guard := none }) (v := .int .i64 (k : Int)) rfl rfl (by kernel_rfl) (by kernel_rfl) (by kernel_rfl) (fun _ _ _ h => h) ⟨Or.inl ⟨by rfl, by intro w; go_simp⟩, fun _ => rfl⟩ ?_
        try simp only [Act.put, List.setIfInBounds_toArray, List.set_cons_zero, List.set_cons_succ]
        refine wpAnyIn_take (i := 3) (oi := { dst := some 13, op := Op.move (Operand.tmp 4), type := 3, pos := "owned.go:32", after := #[], guard := none }) (v := .int .i64 (k : Int)) rfl rfl (by kernel_rfl) (by kernel_rfl) (by kernel_rfl) (fun _ _ _ h => h) ⟨Or.inl ⟨by rfl, by intro w; go_simp⟩, fun _ => rfl⟩ ?_
        try simp only [Act.put, List.setIfInBounds_toArray, List.set_cons_zero, List.set_cons_succ]
        refine wpAnyIn_ready (rs := [0, 2]) (by kernel_rfl) (by simp) (AllReadyIn.cons (o := { dst := some 10, op := Op.load 103 (Operand.tmp 2), type := 103, pos := "owned.go:32", after := #[], guard := none }) rfl (fun K hK => ?_) (AllReadyIn.cons (o := { dst := some 12, op := Op.load 23 (Operand.tmp 1), type := 23, pos := "owned.go:32", after := #[], guard := none }) rfl (fun K hK => ?_) AllReadyIn.nil))
        · go_simp
          (try (refine hK _ _ ?_; clear hK K))
          try simp only [Act.put, List.setIfInBounds_toArray, List.set_cons_zero, List.set_cons_succ]
          refine wpAnyIn_ready (rs := [2]) (by kernel_rfl) (by simp) (AllReadyIn.cons (o := { dst := some 12, op := Op.load 23 (Operand.tmp 1), type := 23, pos := "owned.go:32", after := #[], guard := none }) rfl (fun K hK => ?_) AllReadyIn.nil)
          go_simp
          (try (refine hK _ _ ?_; clear hK K))
          try simp only [Act.put, List.setIfInBounds_toArray, List.set_cons_zero, List.set_cons_succ]
          refine wpAnyIn_ready (rs := [4]) (by kernel_rfl) (by simp) (AllReadyIn.cons (o := { dst := some 14, op := Op.call { callee := Callee.value (Operand.func 87), args := #[Operand.tmp 12, Operand.tmp 13], argTypes := #[23, 3] }, type := 62, pos := "owned.go:32", after := #[{ on := 2, ground := Ground.data }, { on := 3, ground := Ground.data }], guard := none }) rfl (fun K hK => ?_) AllReadyIn.nil)
          go_simp
          gi_wp2
          refine ⟨trivial, (fun h => by cases h), CallsIn.mono (callsIn_wide.2 (HA.out _ HQ1.out)) ?_⟩
          rintro x w2 ⟨rfl, hb⟩
          have HQ2 := hid (HOn.out _ _ HQ1.out hb)
          clear hb
          have z2 := (HJ.out _ HQ2.out).2.2
          clear y1 y2
          gi_wp2
          (try (refine hK _ _ ?_; clear hK K))
          try simp only [Act.put, List.setIfInBounds_toArray, List.set_cons_zero, List.set_cons_succ]
          refine wpAnyIn_ready (rs := [5]) (by kernel_rfl) (by simp) (AllReadyIn.cons (o := { dst := some 15, op := Op.call { callee := Callee.value (Operand.tmp 10), args := #[Operand.tmp 11, Operand.tmp 14], argTypes := #[3, 62] }, type := 4, pos := "owned.go:32", after := #[{ on := 0, ground := Ground.data }, { on := 1, ground := Ground.data }, { on := 4, ground := Ground.data }, { on := 4, ground := Ground.chain }], guard := none }) rfl (fun K hK => ?_) AllReadyIn.nil)
          go_simp
          gi_wp2
          refine ⟨trivial, (fun h => by cases h), CallsIn.mono (callsIn_wide.2 (HSo.out _ HQ2.out)) ?_⟩
          rintro x w3 ⟨rfl, hb⟩
          have HQ3 := hid (HOn.out _ _ HQ2.out hb)
          clear hb z2
          gi_wp2
          (try (refine hK _ _ ?_; clear hK K))
          try simp only [Act.put, List.setIfInBounds_toArray, List.set_cons_zero, List.set_cons_succ]
          refine wpAnyIn_take (i := 6) (oi := { dst := some 16, op := Op.move (Operand.tmp 15), type := 4, pos := "owned.go:32", after := #[{ on := 5, ground := Ground.data }, { on := 5, ground := Ground.chain }], guard := none }) (v := .bool false) rfl rfl (by kernel_rfl) (by kernel_rfl) (by kernel_rfl) (fun _ _ _ h => h) ⟨Or.inl ⟨by rfl, by intro w; go_simp⟩, fun _ => rfl⟩ ?_
          try simp only [Act.put, List.setIfInBounds_toArray, List.set_cons_zero, List.set_cons_succ]
          refine wpAnyIn_take (i := 7) (oi := { dst := some 17, op := Op.move (Operand.tmp 0), type := 94, pos := "owned.go:32", after := #[{ on := 6, ground := Ground.guard }], guard := some (6, true) }) (v := undef) rfl rfl (by kernel_rfl) (by kernel_rfl) (by kernel_rfl) (fun _ _ _ h => h) ⟨Or.inr ⟨by rfl, rfl⟩, fun _ => rfl⟩ ?_
          try simp only [Act.put, List.setIfInBounds_toArray, List.set_cons_zero, List.set_cons_succ]
          refine wpAnyIn_take (i := 8) (oi := { dst := some 18, op := Op.move (Operand.tmp 4), type := 3, pos := "owned.go:32", after := #[{ on := 6, ground := Ground.guard }], guard := some (6, true) }) (v := undef) rfl rfl (by kernel_rfl) (by kernel_rfl) (by kernel_rfl) (fun _ _ _ h => h) ⟨Or.inr ⟨by rfl, rfl⟩, fun _ => rfl⟩ ?_
          try simp only [Act.put, List.setIfInBounds_toArray, List.set_cons_zero, List.set_cons_succ]
          refine wpAnyIn_ready (rs := [9]) (by kernel_rfl) (by simp) (AllReadyIn.cons (o := { dst := some 19, op := Op.call { callee := Callee.value (Operand.tmp 17), args := #[Operand.tmp 18], argTypes := #[3] }, type := 4, pos := "owned.go:32", after := #[{ on := 7, ground := Ground.data }, { on := 8, ground := Ground.data }, { on := 6, ground := Ground.chain }, { on := 6, ground := Ground.guard }], guard := some (6, true) }) rfl (fun K hK => ?_) AllReadyIn.nil)
          refine Eq.mpr (if_neg (by intro h; exact absurd (show false = true from h) (by decide))) ?_
          refine ⟨fun f hf => trivial, ?_⟩
          (try (refine hK _ _ ?_; clear hK K))
          try simp only [Act.put, List.setIfInBounds_toArray, List.set_cons_zero, List.set_cons_succ]
          refine wpAnyIn_take (i := 10) (oi := { dst := some 20, op := Op.unOp UnOp.not 4 (Operand.tmp 19), type := 4, pos := "owned.go:32", after := #[{ on := 9, ground := Ground.data }, { on := 6, ground := Ground.guard }], guard := some (6, true) }) (v := undef) rfl rfl (by kernel_rfl) (by kernel_rfl) (by kernel_rfl) (fun _ _ _ h => h) ⟨Or.inr ⟨by rfl, rfl⟩, fun _ => rfl⟩ ?_
          try simp only [Act.put, List.setIfInBounds_toArray, List.set_cons_zero, List.set_cons_succ]
          refine wpAnyIn_take (i := 11) (oi := { dst := some 21, op := Op.pick (Operand.tmp 16) (Operand.tmp 20) (Operand.const (Value.bool false)), type := 4, pos := "owned.go:32", after := #[{ on := 6, ground := Ground.data }, { on := 10, ground := Ground.data }], guard := none }) (v := .bool false) rfl rfl (by kernel_rfl) (by kernel_rfl) (by kernel_rfl) (fun _ _ _ h => h) ⟨Or.inl ⟨by rfl, by intro w; go_simp⟩, fun _ => rfl⟩ ?_
          try simp only [Act.put, List.setIfInBounds_toArray, List.set_cons_zero, List.set_cons_succ]
          have HQ4 := hid (HNk.out _ hp HQ3.out)
          refine wpAnyIn_done (by kernel_rfl) ?_ _
          gi_wp2
          go_roundw
          case rel => exact ⟨k + 1, HK.out, by simp, HQ4⟩
          case measure => have := HK.out; simp [intOf] <;> omega
        · go_simp
          (try (refine hK _ _ ?_; clear hK K))
          try simp only [Act.put, List.setIfInBounds_toArray, List.set_cons_zero, List.set_cons_succ]
          refine wpAnyIn_ready (rs := [0, 4]) (by kernel_rfl) (by simp) (AllReadyIn.cons (o := { dst := some 10, op := Op.load 103 (Operand.tmp 2), type := 103, pos := "owned.go:32", after := #[], guard := none }) rfl (fun K hK => ?_) (AllReadyIn.cons (o := { dst := some 14, op := Op.call { callee := Callee.value (Operand.func 87), args := #[Operand.tmp 12, Operand.tmp 13], argTypes := #[23, 3] }, type := 62, pos := "owned.go:32", after := #[{ on := 2, ground := Ground.data }, { on := 3, ground := Ground.data }], guard := none }) rfl (fun K hK => ?_) AllReadyIn.nil))
          · go_simp
            (try (refine hK _ _ ?_; clear hK K))
            try simp only [Act.put, List.setIfInBounds_toArray, List.set_cons_zero, List.set_cons_succ]
            refine wpAnyIn_ready (rs := [4]) (by kernel_rfl) (by simp) (AllReadyIn.cons (o := { dst := some 14, op := Op.call { callee := Callee.value (Operand.func 87), args := #[Operand.tmp 12, Operand.tmp 13], argTypes := #[23, 3] }, type := 62, pos := "owned.go:32", after := #[{ on := 2, ground := Ground.data }, { on := 3, ground := Ground.data }], guard := none }) rfl (fun K hK => ?_) AllReadyIn.nil)
            go_simp
            gi_wp2
            refine ⟨trivial, (fun h => by cases h), CallsIn.mono (callsIn_wide.2 (HA.out _ HQ1.out)) ?_⟩
            rintro x w2 ⟨rfl, hb⟩
            have HQ2 := hid (HOn.out _ _ HQ1.out hb)
            clear hb
            have z2 := (HJ.out _ HQ2.out).2.2
            clear y1 y2
            gi_wp2
            (try (refine hK _ _ ?_; clear hK K))
            try simp only [Act.put, List.setIfInBounds_toArray, List.set_cons_zero, List.set_cons_succ]
            refine wpAnyIn_ready (rs := [5]) (by kernel_rfl) (by simp) (AllReadyIn.cons (o := { dst := some 15, op := Op.call { callee := Callee.value (Operand.tmp 10), args := #[Operand.tmp 11, Operand.tmp 14], argTypes := #[3, 62] }, type := 4, pos := "owned.go:32", after := #[{ on := 0, ground := Ground.data }, { on := 1, ground := Ground.data }, { on := 4, ground := Ground.data }, { on := 4, ground := Ground.chain }], guard := none }) rfl (fun K hK => ?_) AllReadyIn.nil)
            go_simp
            gi_wp2
            refine ⟨trivial, (fun h => by cases h), CallsIn.mono (callsIn_wide.2 (HSo.out _ HQ2.out)) ?_⟩
            rintro x w3 ⟨rfl, hb⟩
            have HQ3 := hid (HOn.out _ _ HQ2.out hb)
            clear hb z2
            gi_wp2
            (try (refine hK _ _ ?_; clear hK K))
            try simp only [Act.put, List.setIfInBounds_toArray, List.set_cons_zero, List.set_cons_succ]
            refine wpAnyIn_take (i := 6) (oi := { dst := some 16, op := Op.move (Operand.tmp 15), type := 4, pos := "owned.go:32", after := #[{ on := 5, ground := Ground.data }, { on := 5, ground := Ground.chain }], guard := none }) (v := .bool false) rfl rfl (by kernel_rfl) (by kernel_rfl) (by kernel_rfl) (fun _ _ _ h => h) ⟨Or.inl ⟨by rfl, by intro w; go_simp⟩, fun _ => rfl⟩ ?_
            try simp only [Act.put, List.setIfInBounds_toArray, List.set_cons_zero, List.set_cons_succ]
            refine wpAnyIn_take (i := 7) (oi := { dst := some 17, op := Op.move (Operand.tmp 0), type := 94, pos := "owned.go:32", after := #[{ on := 6, ground := Ground.guard }], guard := some (6, true) }) (v := undef) rfl rfl (by kernel_rfl) (by kernel_rfl) (by kernel_rfl) (fun _ _ _ h => h) ⟨Or.inr ⟨by rfl, rfl⟩, fun _ => rfl⟩ ?_
            try simp only [Act.put, List.setIfInBounds_toArray, List.set_cons_zero, List.set_cons_succ]
            refine wpAnyIn_take (i := 8) (oi := { dst := some 18, op := Op.move (Operand.tmp 4), type := 3, pos := "owned.go:32", after := #[{ on := 6, ground := Ground.guard }], guard := some (6, true) }) (v := undef) rfl rfl (by kernel_rfl) (by kernel_rfl) (by kernel_rfl) (fun _ _ _ h => h) ⟨Or.inr ⟨by rfl, rfl⟩, fun _ => rfl⟩ ?_
            try simp only [Act.put, List.setIfInBounds_toArray, List.set_cons_zero, List.set_cons_succ]
            refine wpAnyIn_ready (rs := [9]) (by kernel_rfl) (by simp) (AllReadyIn.cons (o := { dst := some 19, op := Op.call { callee := Callee.value (Operand.tmp 17), args := #[Operand.tmp 18], argTypes := #[3] }, type := 4, pos := "owned.go:32", after := #[{ on := 7, ground := Ground.data }, { on := 8, ground := Ground.data }, { on := 6, ground := Ground.chain }, { on := 6, ground := Ground.guard }], guard := some (6, true) }) rfl (fun K hK => ?_) AllReadyIn.nil)
            refine Eq.mpr (if_neg (by intro h; exact absurd (show false = true from h) (by decide))) ?_
            refine ⟨fun f hf => trivial, ?_⟩
            (try (refine hK _ _ ?_; clear hK K))
            try simp only [Act.put, List.setIfInBounds_toArray, List.set_cons_zero, List.set_cons_succ]
            refine wpAnyIn_take (i := 10) (oi := { dst := some 20, op := Op.unOp UnOp.not 4 (Operand.tmp 19), type := 4, pos := "owned.go:32", after := #[{ on := 9, ground := Ground.data }, { on := 6, ground := Ground.guard }], guard := some (6, true) }) (v := undef) rfl rfl (by kernel_rfl) (by kernel_rfl) (by kernel_rfl) (fun _ _ _ h => h) ⟨Or.inr ⟨by rfl, rfl⟩, fun _ => rfl⟩ ?_
            try simp only [Act.put, List.setIfInBounds_toArray, List.set_cons_zero, List.set_cons_succ]
            refine wpAnyIn_take (i := 11) (oi := { dst := some 21, op := Op.pick (Operand.tmp 16) (Operand.tmp 20) (Operand.const (Value.bool false)), type := 4, pos := "owned.go:32", after := #[{ on := 6, ground := Ground.data }, { on := 10, ground := Ground.data }], guard := none }) (v := .bool false) rfl rfl (by kernel_rfl) (by kernel_rfl) (by kernel_rfl) (fun _ _ _ h => h) ⟨Or.inl ⟨by rfl, by intro w; go_simp⟩, fun _ => rfl⟩ ?_
            try simp only [Act.put, List.setIfInBounds_toArray, List.set_cons_zero, List.set_cons_succ]
            have HQ4 := hid (HNk.out _ hp HQ3.out)
            refine wpAnyIn_done (by kernel_rfl) ?_ _
            gi_wp2
            go_roundw
            case rel => exact ⟨k + 1, HK.out, by simp, HQ4⟩
            case measure => have := HK.out; simp [intOf] <;> omega
          · skip
            go_simp
            gi_wp2
            refine ⟨trivial, (fun h => by cases h), CallsIn.mono (callsIn_wide.2 (HA.out _ HQ1.out)) ?_⟩
            rintro x w2 ⟨rfl, hb⟩
            have HQ2 := hid (HOn.out _ _ HQ1.out hb)
            clear hb
            have z2 := (HJ.out _ HQ2.out).2.2
            clear y1 y2
            gi_wp2
            (try (refine hK _ _ ?_; clear hK K))
            try simp only [Act.put, List.setIfInBounds_toArray, List.set_cons_zero, List.set_cons_succ]
            refine wpAnyIn_ready (rs := [0]) (by kernel_rfl) (by simp) (AllReadyIn.cons (o := { dst := some 10, op := Op.load 103 (Operand.tmp 2), type := 103, pos := "owned.go:32", after := #[], guard := none }) rfl (fun K hK => ?_) AllReadyIn.nil)
            go_simp
            (try (refine hK _ _ ?_; clear hK K))
            try simp only [Act.put, List.setIfInBounds_toArray, List.set_cons_zero, List.set_cons_succ]
            refine wpAnyIn_ready (rs := [5]) (by kernel_rfl) (by simp) (AllReadyIn.cons (o := { dst := some 15, op := Op.call { callee := Callee.value (Operand.tmp 10), args := #[Operand.tmp 11, Operand.tmp 14], argTypes := #[3, 62] }, type := 4, pos := "owned.go:32", after := #[{ on := 0, ground := Ground.data }, { on := 1, ground := Ground.data }, { on := 4, ground := Ground.data }, { on := 4, ground := Ground.chain }], guard := none }) rfl (fun K hK => ?_) AllReadyIn.nil)
            go_simp
            gi_wp2
            refine ⟨trivial, (fun h => by cases h), CallsIn.mono (callsIn_wide.2 (HSo.out _ HQ2.out)) ?_⟩
            rintro x w3 ⟨rfl, hb⟩
            have HQ3 := hid (HOn.out _ _ HQ2.out hb)
            clear hb z2
            gi_wp2
            (try (refine hK _ _ ?_; clear hK K))
            try simp only [Act.put, List.setIfInBounds_toArray, List.set_cons_zero, List.set_cons_succ]
            refine wpAnyIn_take (i := 6) (oi := { dst := some 16, op := Op.move (Operand.tmp 15), type := 4, pos := "owned.go:32", after := #[{ on := 5, ground := Ground.data }, { on := 5, ground := Ground.chain }], guard := none }) (v := .bool false) rfl rfl (by kernel_rfl) (by kernel_rfl) (by kernel_rfl) (fun _ _ _ h => h) ⟨Or.inl ⟨by rfl, by intro w; go_simp⟩, fun _ => rfl⟩ ?_
            try simp only [Act.put, List.setIfInBounds_toArray, List.set_cons_zero, List.set_cons_succ]
            refine wpAnyIn_take (i := 7) (oi := { dst := some 17, op := Op.move (Operand.tmp 0), type := 94, pos := "owned.go:32", after := #[{ on := 6, ground := Ground.guard }], guard := some (6, true) }) (v := undef) rfl rfl (by kernel_rfl) (by kernel_rfl) (by kernel_rfl) (fun _ _ _ h => h) ⟨Or.inr ⟨by rfl, rfl⟩, fun _ => rfl⟩ ?_
            try simp only [Act.put, List.setIfInBounds_toArray, List.set_cons_zero, List.set_cons_succ]
            refine wpAnyIn_take (i := 8) (oi := { dst := some 18, op := Op.move (Operand.tmp 4), type := 3, pos := "owned.go:32", after := #[{ on := 6, ground := Ground.guard }], guard := some (6, true) }) (v := undef) rfl rfl (by kernel_rfl) (by kernel_rfl) (by kernel_rfl) (fun _ _ _ h => h) ⟨Or.inr ⟨by rfl, rfl⟩, fun _ => rfl⟩ ?_
            try simp only [Act.put, List.setIfInBounds_toArray, List.set_cons_zero, List.set_cons_succ]
            refine wpAnyIn_ready (rs := [9]) (by kernel_rfl) (by simp) (AllReadyIn.cons (o := { dst := some 19, op := Op.call { callee := Callee.value (Operand.tmp 17), args := #[Operand.tmp 18], argTypes := #[3] }, type := 4, pos := "owned.go:32", after := #[{ on := 7, ground := Ground.data }, { on := 8, ground := Ground.data }, { on := 6, ground := Ground.chain }, { on := 6, ground := Ground.guard }], guard := some (6, true) }) rfl (fun K hK => ?_) AllReadyIn.nil)
            refine Eq.mpr (if_neg (by intro h; exact absurd (show false = true from h) (by decide))) ?_
            refine ⟨fun f hf => trivial, ?_⟩
            (try (refine hK _ _ ?_; clear hK K))
            try simp only [Act.put, List.setIfInBounds_toArray, List.set_cons_zero, List.set_cons_succ]
            refine wpAnyIn_take (i := 10) (oi := { dst := some 20, op := Op.unOp UnOp.not 4 (Operand.tmp 19), type := 4, pos := "owned.go:32", after := #[{ on := 9, ground := Ground.data }, { on := 6, ground := Ground.guard }], guard := some (6, true) }) (v := undef) rfl rfl (by kernel_rfl) (by kernel_rfl) (by kernel_rfl) (fun _ _ _ h => h) ⟨Or.inr ⟨by rfl, rfl⟩, fun _ => rfl⟩ ?_
            try simp only [Act.put, List.setIfInBounds_toArray, List.set_cons_zero, List.set_cons_succ]
            refine wpAnyIn_take (i := 11) (oi := { dst := some 21, op := Op.pick (Operand.tmp 16) (Operand.tmp 20) (Operand.const (Value.bool false)), type := 4, pos := "owned.go:32", after := #[{ on := 6, ground := Ground.data }, { on := 10, ground := Ground.data }], guard := none }) (v := .bool false) rfl rfl (by kernel_rfl) (by kernel_rfl) (by kernel_rfl) (fun _ _ _ h => h) ⟨Or.inl ⟨by rfl, by intro w; go_simp⟩, fun _ => rfl⟩ ?_
            try simp only [Act.put, List.setIfInBounds_toArray, List.set_cons_zero, List.set_cons_succ]
            have HQ4 := hid (HNk.out _ hp HQ3.out)
            refine wpAnyIn_done (by kernel_rfl) ?_ _
            gi_wp2
            go_roundw
            case rel => exact ⟨k + 1, HK.out, by simp, HQ4⟩
            case measure => have := HK.out; simp [intOf] <;> omega
      · rw [hp] at HSo
        clear HNk
        gi_wp2
        refine wpIn_region_any (by kernel_rfl) ?_
        change wpAnyIn _ _ _ _ _ _ _ _ _ (World.drew _)
        have HQ1 := hid (HOn.out _ _ HQ.out (Below.refl _ _).drew)
        have y1 := (HJ.out _ HQ1.out).2.1
        have y2 := (HJ.out _ HQ1.out).2.2
        refine wpAnyIn_take (i := 1) (oi := { dst := some 11, op := Op.move (Operand.tmp 4), type := 3, pos := "owned.go:32", after := #[], guard := none }) (v := .int .i64 (k : Int)) rfl rfl (by kernel_rfl) (by kernel_rfl) (by kernel_rfl) (fun _ _ _ h => h) ⟨Or.inl ⟨by rfl, by intro w; go_simp⟩, fun _ => rfl⟩ ?_
        try simp only [Act.put, List.setIfInBounds_toArray, List.set_cons_zero, List.set_cons_succ]
        refine wpAnyIn_take (i := 3) (oi := { dst := some 13, op := Op.move (Operand.tmp 4), type := 3, pos := "owned.go:32", after := #[], guard := none }) (v := .int .i64 (k : Int)) rfl rfl (by kernel_rfl) (by kernel_rfl) (by kernel_rfl) (fun _ _ _ h => h) ⟨Or.inl ⟨by rfl, by intro w; go_simp⟩, fun _ => rfl⟩ ?_
        try simp only [Act.put, List.setIfInBounds_toArray, List.set_cons_zero, List.set_cons_succ]
        refine wpAnyIn_ready (rs := [0, 2]) (by kernel_rfl) (by simp) (AllReadyIn.cons (o := { dst := some 10, op := Op.load 103 (Operand.tmp 2), type := 103, pos := "owned.go:32", after := #[], guard := none }) rfl (fun K hK => ?_) (AllReadyIn.cons (o := { dst := some 12, op := Op.load 23 (Operand.tmp 1), type := 23, pos := "owned.go:32", after := #[], guard := none }) rfl (fun K hK => ?_) AllReadyIn.nil))
        · go_simp
          (try (refine hK _ _ ?_; clear hK K))
          try simp only [Act.put, List.setIfInBounds_toArray, List.set_cons_zero, List.set_cons_succ]
          refine wpAnyIn_ready (rs := [2]) (by kernel_rfl) (by simp) (AllReadyIn.cons (o := { dst := some 12, op := Op.load 23 (Operand.tmp 1), type := 23, pos := "owned.go:32", after := #[], guard := none }) rfl (fun K hK => ?_) AllReadyIn.nil)
          go_simp
          (try (refine hK _ _ ?_; clear hK K))
          try simp only [Act.put, List.setIfInBounds_toArray, List.set_cons_zero, List.set_cons_succ]
          refine wpAnyIn_ready (rs := [4]) (by kernel_rfl) (by simp) (AllReadyIn.cons (o := { dst := some 14, op := Op.call { callee := Callee.value (Operand.func 87), args := #[Operand.tmp 12, Operand.tmp 13], argTypes := #[23, 3] }, type := 62, pos := "owned.go:32", after := #[{ on := 2, ground := Ground.data }, { on := 3, ground := Ground.data }], guard := none }) rfl (fun K hK => ?_) AllReadyIn.nil)
          go_simp
          gi_wp2
          refine ⟨trivial, (fun h => by cases h), CallsIn.mono (callsIn_wide.2 (HA.out _ HQ1.out)) ?_⟩
          rintro x w2 ⟨rfl, hb⟩
          have HQ2 := hid (HOn.out _ _ HQ1.out hb)
          clear hb
          have z2 := (HJ.out _ HQ2.out).2.2
          clear y1 y2
          gi_wp2
          (try (refine hK _ _ ?_; clear hK K))
          try simp only [Act.put, List.setIfInBounds_toArray, List.set_cons_zero, List.set_cons_succ]
          refine wpAnyIn_ready (rs := [5]) (by kernel_rfl) (by simp) (AllReadyIn.cons (o := { dst := some 15, op := Op.call { callee := Callee.value (Operand.tmp 10), args := #[Operand.tmp 11, Operand.tmp 14], argTypes := #[3, 62] }, type := 4, pos := "owned.go:32", after := #[{ on := 0, ground := Ground.data }, { on := 1, ground := Ground.data }, { on := 4, ground := Ground.data }, { on := 4, ground := Ground.chain }], guard := none }) rfl (fun K hK => ?_) AllReadyIn.nil)
          go_simp
          gi_wp2
          refine ⟨trivial, (fun h => by cases h), CallsIn.mono (callsIn_wide.2 (HSo.out _ HQ2.out)) ?_⟩
          rintro x w3 ⟨rfl, hb⟩
          have HQ3 := hid (HOn.out _ _ HQ2.out hb)
          clear hb z2
          gi_wp2
          (try (refine hK _ _ ?_; clear hK K))
          try simp only [Act.put, List.setIfInBounds_toArray, List.set_cons_zero, List.set_cons_succ]
          refine wpAnyIn_take (i := 6) (oi := { dst := some 16, op := Op.move (Operand.tmp 15), type := 4, pos := "owned.go:32", after := #[{ on := 5, ground := Ground.data }, { on := 5, ground := Ground.chain }], guard := none }) (v := .bool true) rfl rfl (by kernel_rfl) (by kernel_rfl) (by kernel_rfl) (fun _ _ _ h => h) ⟨Or.inl ⟨by rfl, by intro w; go_simp⟩, fun _ => rfl⟩ ?_
          try simp only [Act.put, List.setIfInBounds_toArray, List.set_cons_zero, List.set_cons_succ]
          refine wpAnyIn_take (i := 7) (oi := { dst := some 17, op := Op.move (Operand.tmp 0), type := 94, pos := "owned.go:32", after := #[{ on := 6, ground := Ground.guard }], guard := some (6, true) }) (v := .func (.yield l) #[] #[]) rfl rfl (by kernel_rfl) (by kernel_rfl) (by kernel_rfl) (fun _ _ _ h => h) ⟨Or.inl ⟨by rfl, by intro w; go_simp⟩, fun _ => rfl⟩ ?_
          try simp only [Act.put, List.setIfInBounds_toArray, List.set_cons_zero, List.set_cons_succ]
          refine wpAnyIn_take (i := 8) (oi := { dst := some 18, op := Op.move (Operand.tmp 4), type := 3, pos := "owned.go:32", after := #[{ on := 6, ground := Ground.guard }], guard := some (6, true) }) (v := .int .i64 (k : Int)) rfl rfl (by kernel_rfl) (by kernel_rfl) (by kernel_rfl) (fun _ _ _ h => h) ⟨Or.inl ⟨by rfl, by intro w; go_simp⟩, fun _ => rfl⟩ ?_
          try simp only [Act.put, List.setIfInBounds_toArray, List.set_cons_zero, List.set_cons_succ]
          refine wpAnyIn_ready (rs := [9]) (by kernel_rfl) (by simp) (AllReadyIn.cons (o := { dst := some 19, op := Op.call { callee := Callee.value (Operand.tmp 17), args := #[Operand.tmp 18], argTypes := #[3] }, type := 4, pos := "owned.go:32", after := #[{ on := 7, ground := Ground.data }, { on := 8, ground := Ground.data }, { on := 6, ground := Ground.chain }, { on := 6, ground := Ground.guard }], guard := some (6, true) }) rfl (fun K hK => ?_) AllReadyIn.nil)
          obtain ⟨fn, tmps, assign, body, hy, hR⟩ := HYk.out _ hp HQ3.out
          have HR := hid hR
          clear hR
          go_simp
          gi_wp2
          refine ⟨(fun h => by cases h), RoundIn.mono HR.out ?_⟩
          rintro x w4 ⟨rfl, hJ4⟩
          have HQ4 := hid hJ4
          clear hJ4 HR hy
          gi_wp2
          (try (refine hK _ _ ?_; clear hK K))
          try simp only [Act.put, List.setIfInBounds_toArray, List.set_cons_zero, List.set_cons_succ]
          refine wpAnyIn_take (i := 10) (oi := { dst := some 20, op := Op.unOp UnOp.not 4 (Operand.tmp 19), type := 4, pos := "owned.go:32", after := #[{ on := 9, ground := Ground.data }, { on := 6, ground := Ground.guard }], guard := some (6, true) }) (v := .bool false) rfl rfl (by kernel_rfl) (by kernel_rfl) (by kernel_rfl) (fun _ _ _ h => h) ⟨Or.inl ⟨by rfl, by intro w; go_simp⟩, fun _ => rfl⟩ ?_
          try simp only [Act.put, List.setIfInBounds_toArray, List.set_cons_zero, List.set_cons_succ]
          refine wpAnyIn_take (i := 11) (oi := { dst := some 21, op := Op.pick (Operand.tmp 16) (Operand.tmp 20) (Operand.const (Value.bool false)), type := 4, pos := "owned.go:32", after := #[{ on := 6, ground := Ground.data }, { on := 10, ground := Ground.data }], guard := none }) (v := .bool false) rfl rfl (by kernel_rfl) (by kernel_rfl) (by kernel_rfl) (fun _ _ _ h => h) ⟨Or.inl ⟨by rfl, by intro w; go_simp⟩, fun _ => rfl⟩ ?_
          try simp only [Act.put, List.setIfInBounds_toArray, List.set_cons_zero, List.set_cons_succ]
          refine wpAnyIn_done (by kernel_rfl) ?_ _
          gi_wp2
          go_roundw
          case rel => exact ⟨k + 1, HK.out, by simp, HQ4⟩
          case measure => have := HK.out; simp [intOf] <;> omega
        · go_simp
          (try (refine hK _ _ ?_; clear hK K))
          try simp only [Act.put, List.setIfInBounds_toArray, List.set_cons_zero, List.set_cons_succ]
          refine wpAnyIn_ready (rs := [0, 4]) (by kernel_rfl) (by simp) (AllReadyIn.cons (o := { dst := some 10, op := Op.load 103 (Operand.tmp 2), type := 103, pos := "owned.go:32", after := #[], guard := none }) rfl (fun K hK => ?_) (AllReadyIn.cons (o := { dst := some 14, op := Op.call { callee := Callee.value (Operand.func 87), args := #[Operand.tmp 12, Operand.tmp 13], argTypes := #[23, 3] }, type := 62, pos := "owned.go:32", after := #[{ on := 2, ground := Ground.data }, { on := 3, ground := Ground.data }], guard := none }) rfl (fun K hK => ?_) AllReadyIn.nil))
          · go_simp
            (try (refine hK _ _ ?_; clear hK K))
            try simp only [Act.put, List.setIfInBounds_toArray, List.set_cons_zero, List.set_cons_succ]
            refine wpAnyIn_ready (rs := [4]) (by kernel_rfl) (by simp) (AllReadyIn.cons (o := { dst := some 14, op := Op.call { callee := Callee.value (Operand.func 87), args := #[Operand.tmp 12, Operand.tmp 13], argTypes := #[23, 3] }, type := 62, pos := "owned.go:32", after := #[{ on := 2, ground := Ground.data }, { on := 3, ground := Ground.data }], guard := none }) rfl (fun K hK => ?_) AllReadyIn.nil)
            go_simp
            gi_wp2
            refine ⟨trivial, (fun h => by cases h), CallsIn.mono (callsIn_wide.2 (HA.out _ HQ1.out)) ?_⟩
            rintro x w2 ⟨rfl, hb⟩
            have HQ2 := hid (HOn.out _ _ HQ1.out hb)
            clear hb
            have z2 := (HJ.out _ HQ2.out).2.2
            clear y1 y2
            gi_wp2
            (try (refine hK _ _ ?_; clear hK K))
            try simp only [Act.put, List.setIfInBounds_toArray, List.set_cons_zero, List.set_cons_succ]
            refine wpAnyIn_ready (rs := [5]) (by kernel_rfl) (by simp) (AllReadyIn.cons (o := { dst := some 15, op := Op.call { callee := Callee.value (Operand.tmp 10), args := #[Operand.tmp 11, Operand.tmp 14], argTypes := #[3, 62] }, type := 4, pos := "owned.go:32", after := #[{ on := 0, ground := Ground.data }, { on := 1, ground := Ground.data }, { on := 4, ground := Ground.data }, { on := 4, ground := Ground.chain }], guard := none }) rfl (fun K hK => ?_) AllReadyIn.nil)
            go_simp
            gi_wp2
            refine ⟨trivial, (fun h => by cases h), CallsIn.mono (callsIn_wide.2 (HSo.out _ HQ2.out)) ?_⟩
            rintro x w3 ⟨rfl, hb⟩
            have HQ3 := hid (HOn.out _ _ HQ2.out hb)
            clear hb z2
            gi_wp2
            (try (refine hK _ _ ?_; clear hK K))
            try simp only [Act.put, List.setIfInBounds_toArray, List.set_cons_zero, List.set_cons_succ]
            refine wpAnyIn_take (i := 6) (oi := { dst := some 16, op := Op.move (Operand.tmp 15), type := 4, pos := "owned.go:32", after := #[{ on := 5, ground := Ground.data }, { on := 5, ground := Ground.chain }], guard := none }) (v := .bool true) rfl rfl (by kernel_rfl) (by kernel_rfl) (by kernel_rfl) (fun _ _ _ h => h) ⟨Or.inl ⟨by rfl, by intro w; go_simp⟩, fun _ => rfl⟩ ?_
            try simp only [Act.put, List.setIfInBounds_toArray, List.set_cons_zero, List.set_cons_succ]
            refine wpAnyIn_take (i := 7) (oi := { dst := some 17, op := Op.move (Operand.tmp 0), type := 94, pos := "owned.go:32", after := #[{ on := 6, ground := Ground.guard }], guard := some (6, true) }) (v := .func (.yield l) #[] #[]) rfl rfl (by kernel_rfl) (by kernel_rfl) (by kernel_rfl) (fun _ _ _ h => h) ⟨Or.inl ⟨by rfl, by intro w; go_simp⟩, fun _ => rfl⟩ ?_
            try simp only [Act.put, List.setIfInBounds_toArray, List.set_cons_zero, List.set_cons_succ]
            refine wpAnyIn_take (i := 8) (oi := { dst := some 18, op := Op.move (Operand.tmp 4), type := 3, pos := "owned.go:32", after := #[{ on := 6, ground := Ground.guard }], guard := some (6, true) }) (v := .int .i64 (k : Int)) rfl rfl (by kernel_rfl) (by kernel_rfl) (by kernel_rfl) (fun _ _ _ h => h) ⟨Or.inl ⟨by rfl, by intro w; go_simp⟩, fun _ => rfl⟩ ?_
            try simp only [Act.put, List.setIfInBounds_toArray, List.set_cons_zero, List.set_cons_succ]
            refine wpAnyIn_ready (rs := [9]) (by kernel_rfl) (by simp) (AllReadyIn.cons (o := { dst := some 19, op := Op.call { callee := Callee.value (Operand.tmp 17), args := #[Operand.tmp 18], argTypes := #[3] }, type := 4, pos := "owned.go:32", after := #[{ on := 7, ground := Ground.data }, { on := 8, ground := Ground.data }, { on := 6, ground := Ground.chain }, { on := 6, ground := Ground.guard }], guard := some (6, true) }) rfl (fun K hK => ?_) AllReadyIn.nil)
            obtain ⟨fn, tmps, assign, body, hy, hR⟩ := HYk.out _ hp HQ3.out
            have HR := hid hR
            clear hR
            go_simp
            gi_wp2
            refine ⟨(fun h => by cases h), RoundIn.mono HR.out ?_⟩
            rintro x w4 ⟨rfl, hJ4⟩
            have HQ4 := hid hJ4
            clear hJ4 HR hy
            gi_wp2
            (try (refine hK _ _ ?_; clear hK K))
            try simp only [Act.put, List.setIfInBounds_toArray, List.set_cons_zero, List.set_cons_succ]
            refine wpAnyIn_take (i := 10) (oi := { dst := some 20, op := Op.unOp UnOp.not 4 (Operand.tmp 19), type := 4, pos := "owned.go:32", after := #[{ on := 9, ground := Ground.data }, { on := 6, ground := Ground.guard }], guard := some (6, true) }) (v := .bool false) rfl rfl (by kernel_rfl) (by kernel_rfl) (by kernel_rfl) (fun _ _ _ h => h) ⟨Or.inl ⟨by rfl, by intro w; go_simp⟩, fun _ => rfl⟩ ?_
            try simp only [Act.put, List.setIfInBounds_toArray, List.set_cons_zero, List.set_cons_succ]
            refine wpAnyIn_take (i := 11) (oi := { dst := some 21, op := Op.pick (Operand.tmp 16) (Operand.tmp 20) (Operand.const (Value.bool false)), type := 4, pos := "owned.go:32", after := #[{ on := 6, ground := Ground.data }, { on := 10, ground := Ground.data }], guard := none }) (v := .bool false) rfl rfl (by kernel_rfl) (by kernel_rfl) (by kernel_rfl) (fun _ _ _ h => h) ⟨Or.inl ⟨by rfl, by intro w; go_simp⟩, fun _ => rfl⟩ ?_
            try simp only [Act.put, List.setIfInBounds_toArray, List.set_cons_zero, List.set_cons_succ]
            refine wpAnyIn_done (by kernel_rfl) ?_ _
            gi_wp2
            go_roundw
            case rel => exact ⟨k + 1, HK.out, by simp, HQ4⟩
            case measure => have := HK.out; simp [intOf] <;> omega
          · skip
            go_simp
            gi_wp2
            refine ⟨trivial, (fun h => by cases h), CallsIn.mono (callsIn_wide.2 (HA.out _ HQ1.out)) ?_⟩
            rintro x w2 ⟨rfl, hb⟩
            have HQ2 := hid (HOn.out _ _ HQ1.out hb)
            clear hb
            have z2 := (HJ.out _ HQ2.out).2.2
            clear y1 y2
            gi_wp2
            (try (refine hK _ _ ?_; clear hK K))
            try simp only [Act.put, List.setIfInBounds_toArray, List.set_cons_zero, List.set_cons_succ]
            refine wpAnyIn_ready (rs := [0]) (by kernel_rfl) (by simp) (AllReadyIn.cons (o := { dst := some 10, op := Op.load 103 (Operand.tmp 2), type := 103, pos := "owned.go:32", after := #[], guard := none }) rfl (fun K hK => ?_) AllReadyIn.nil)
            go_simp
            (try (refine hK _ _ ?_; clear hK K))
            try simp only [Act.put, List.setIfInBounds_toArray, List.set_cons_zero, List.set_cons_succ]
            refine wpAnyIn_ready (rs := [5]) (by kernel_rfl) (by simp) (AllReadyIn.cons (o := { dst := some 15, op := Op.call { callee := Callee.value (Operand.tmp 10), args := #[Operand.tmp 11, Operand.tmp 14], argTypes := #[3, 62] }, type := 4, pos := "owned.go:32", after := #[{ on := 0, ground := Ground.data }, { on := 1, ground := Ground.data }, { on := 4, ground := Ground.data }, { on := 4, ground := Ground.chain }], guard := none }) rfl (fun K hK => ?_) AllReadyIn.nil)
            go_simp
            gi_wp2
            refine ⟨trivial, (fun h => by cases h), CallsIn.mono (callsIn_wide.2 (HSo.out _ HQ2.out)) ?_⟩
            rintro x w3 ⟨rfl, hb⟩
            have HQ3 := hid (HOn.out _ _ HQ2.out hb)
            clear hb z2
            gi_wp2
            (try (refine hK _ _ ?_; clear hK K))
            try simp only [Act.put, List.setIfInBounds_toArray, List.set_cons_zero, List.set_cons_succ]
            refine wpAnyIn_take (i := 6) (oi := { dst := some 16, op := Op.move (Operand.tmp 15), type := 4, pos := "owned.go:32", after := #[{ on := 5, ground := Ground.data }, { on := 5, ground := Ground.chain }], guard := none }) (v := .bool true) rfl rfl (by kernel_rfl) (by kernel_rfl) (by kernel_rfl) (fun _ _ _ h => h) ⟨Or.inl ⟨by rfl, by intro w; go_simp⟩, fun _ => rfl⟩ ?_
            try simp only [Act.put, List.setIfInBounds_toArray, List.set_cons_zero, List.set_cons_succ]
            refine wpAnyIn_take (i := 7) (oi := { dst := some 17, op := Op.move (Operand.tmp 0), type := 94, pos := "owned.go:32", after := #[{ on := 6, ground := Ground.guard }], guard := some (6, true) }) (v := .func (.yield l) #[] #[]) rfl rfl (by kernel_rfl) (by kernel_rfl) (by kernel_rfl) (fun _ _ _ h => h) ⟨Or.inl ⟨by rfl, by intro w; go_simp⟩, fun _ => rfl⟩ ?_
            try simp only [Act.put, List.setIfInBounds_toArray, List.set_cons_zero, List.set_cons_succ]
            refine wpAnyIn_take (i := 8) (oi := { dst := some 18, op := Op.move (Operand.tmp 4), type := 3, pos := "owned.go:32", after := #[{ on := 6, ground := Ground.guard }], guard := some (6, true) }) (v := .int .i64 (k : Int)) rfl rfl (by kernel_rfl) (by kernel_rfl) (by kernel_rfl) (fun _ _ _ h => h) ⟨Or.inl ⟨by rfl, by intro w; go_simp⟩, fun _ => rfl⟩ ?_
            try simp only [Act.put, List.setIfInBounds_toArray, List.set_cons_zero, List.set_cons_succ]
            refine wpAnyIn_ready (rs := [9]) (by kernel_rfl) (by simp) (AllReadyIn.cons (o := { dst := some 19, op := Op.call { callee := Callee.value (Operand.tmp 17), args := #[Operand.tmp 18], argTypes := #[3] }, type := 4, pos := "owned.go:32", after := #[{ on := 7, ground := Ground.data }, { on := 8, ground := Ground.data }, { on := 6, ground := Ground.chain }, { on := 6, ground := Ground.guard }], guard := some (6, true) }) rfl (fun K hK => ?_) AllReadyIn.nil)
            obtain ⟨fn, tmps, assign, body, hy, hR⟩ := HYk.out _ hp HQ3.out
            have HR := hid hR
            clear hR
            go_simp
            gi_wp2
            refine ⟨(fun h => by cases h), RoundIn.mono HR.out ?_⟩
            rintro x w4 ⟨rfl, hJ4⟩
            have HQ4 := hid hJ4
            clear hJ4 HR hy
            gi_wp2
            (try (refine hK _ _ ?_; clear hK K))
            try simp only [Act.put, List.setIfInBounds_toArray, List.set_cons_zero, List.set_cons_succ]
            refine wpAnyIn_take (i := 10) (oi := { dst := some 20, op := Op.unOp UnOp.not 4 (Operand.tmp 19), type := 4, pos := "owned.go:32", after := #[{ on := 9, ground := Ground.data }, { on := 6, ground := Ground.guard }], guard := some (6, true) }) (v := .bool false) rfl rfl (by kernel_rfl) (by kernel_rfl) (by kernel_rfl) (fun _ _ _ h => h) ⟨Or.inl ⟨by rfl, by intro w; go_simp⟩, fun _ => rfl⟩ ?_
            try simp only [Act.put, List.setIfInBounds_toArray, List.set_cons_zero, List.set_cons_succ]
            refine wpAnyIn_take (i := 11) (oi := { dst := some 21, op := Op.pick (Operand.tmp 16) (Operand.tmp 20) (Operand.const (Value.bool false)), type := 4, pos := "owned.go:32", after := #[{ on := 6, ground := Ground.data }, { on := 10, ground := Ground.data }], guard := none }) (v := .bool false) rfl rfl (by kernel_rfl) (by kernel_rfl) (by kernel_rfl) (fun _ _ _ h => h) ⟨Or.inl ⟨by rfl, by intro w; go_simp⟩, fun _ => rfl⟩ ?_
            try simp only [Act.put, List.setIfInBounds_toArray, List.set_cons_zero, List.set_cons_succ]
            refine wpAnyIn_done (by kernel_rfl) ?_ _
            gi_wp2
            go_roundw
            case rel => exact ⟨k + 1, HK.out, by simp, HQ4⟩
            case measure => have := HK.out; simp [intOf] <;> omega
    · have hkw : k = d.m.ns := by omega
      subst hkw
      gi_wp2
      go_end0
      exact ⟨⟨_, rfl⟩, HQ.out⟩
theorem pagesO_in (n l bd bs : Nat) (p : Dp) (d : DS) (pred : Nat → Bool) (bo : Nat) (J : Nat → World → Prop)
    (hJ : ∀ k W, J k W → DB W p d ∧ W.cell? ⟨bd, 0, none⟩ = some (.pointer (some ⟨p.g, 0, none⟩)) ∧ W.cell? ⟨bs, 0, none⟩ = some (.func (.func 94) #[] #[.pointer (some ⟨bo, 0, none⟩)]))
    (hOn : ∀ k W W', J k W → Below W.heap.size W W' → J k W')
    (hSo : ∀ k W, k < d.m.ns → J k W → Calls Try.prog 94 #[.int .i64 (k : Int), (d.at k).v, .pointer (some ⟨bo, 0, none⟩)] W fun e W' => e = .returned (.bool (pred k)) ∧ Below W.heap.size W W')
    (hY : ∀ k W, k < d.m.ns → pred k = true → J k W → YieldAt .wide (n - 1) Try.prog l #[.int .i64 (k : Int)] W (fun e W' => e = .returned (.bool true) ∧ J (k + 1) W'))
    (hN : ∀ k W, k < d.m.ns → pred k = false → J k W → J (k + 1) W)
    (W : World) (h0 : J 0 W) :
    CallsIn .wide n Try.prog 92 #[.func (.yield l) #[] #[], .pointer (some ⟨bd, 0, none⟩), .pointer (some ⟨bs, 0, none⟩)] W fun e W' => (∃ v, e = .returned v) ∧ J d.m.ns W' := by
  have n64 := (hJ 0 W h0).1.ok.n64
  have w0 := (hJ 0 W h0).2.1
  have HP : Hid (Calls Try.prog 46 #[.pointer (some ⟨p.g, 0, none⟩)] W fun x W' => x = .returned (.int .i64 (d.m.ns : Int)) ∧ W = W') := hid (pages_any W p d (hJ 0 W h0).1)
  refine callsIn_of_wp Try.func92 rfl trivial ?_ rfl
  simp only [Try.ntmps92, List.size_toArray, List.length_cons, List.length_nil, Nat.reduceAdd, Nat.reduceSub, Array.replicate_succ, Array.replicate_zero, List.push_toArray, List.append_toArray, List.nil_append, List.cons_append]
  gi_wp2
  refine ⟨trivial, (fun h => by cases h), CallsIn.mono (callsIn_wide.2 HP.out) ?_⟩
  rintro x w1 ⟨rfl, hw1⟩
  subst hw1
  clear HP
  gi_wp2
  clear w0
  gi_loopw [7] (fun q wr => ∃ k : Nat, k ≤ d.m.ns ∧ q = .int .i64 (k : Int) ∧ Hid (J k wr)) (fun q _ => d.m.ns - (intOf q).toNat)
  case atStart => exact ⟨0, Nat.zero_le _, rfl, hid h0⟩
  case round =>
    obtain ⟨k, hk, rfl, HQ⟩ := hrel
    by_cases hlt : k < d.m.ns
    · have q1 : (k : Int) < (d.m.ns : Int) := by omega
      have q2 : (k : Int) ≤ 1024 := by omega
      have HK : Hid (k < d.m.ns) := hid hlt
      clear hlt hk n64
      have HA : Hid (∀ w1, J k w1 → Calls Try.prog 87 #[.pointer (some ⟨p.g, 0, none⟩), .int .i64 (k : Int)] w1 fun x w' => x = .returned (.agg (d.at k).cs.toArray) ∧ Below w1.heap.size w1 w') := hid (fun w1 h1 => dat_any w1 p d (hJ k w1 h1).1 k HK.out)
      have HSo : Hid (∀ w1, J k w1 → Calls Try.prog 94 #[.int .i64 (k : Int), .agg (d.at k).cs.toArray, .pointer (some ⟨bo, 0, none⟩)] w1 fun e W' => e = .returned (.bool (pred k)) ∧ Below w1.heap.size w1 W') := hid (fun w1 h1 => hSo k w1 HK.out h1)
      have HJ := hid (hJ k)
      have HOn := hid (hOn k)
      have HYk := hid (fun w1 (hp : pred k = true) (h1 : J k w1) => hY k w1 HK.out hp h1)
      have HNk := hid (fun w1 (hp : pred k = false) (h1 : J k w1) => hN k w1 HK.out hp h1)
      generalize (d.at k).cs.toArray = EV at *
      cases hp : pred k
      · rw [hp] at HSo
        clear HYk
        gi_wp2
        refine wpIn_region_any (by kernel_rfl) ?_
        change wpAnyIn _ _ _ _ _ _ _ _ _ (World.drew _)
        have HQ1 := hid (HOn.out _ _ HQ.out (Below.refl _ _).drew)
        have y1 := (HJ.out _ HQ1.out).2.1
        have y2 := (HJ.out _ HQ1.out).2.2
        refine wpAnyIn_take (i := 1) (oi := { dst := some 11, op := Op.move (Operand.tmp 4), type := 3, pos := "owned.go:32", after := #[], guard := none }) (v := .int .i64 (k : Int)) rfl rfl (by kernel_rfl) (by kernel_rfl) (by kernel_rfl) (fun _ _ _ h => h) ⟨Or.inl ⟨by rfl, by intro w; go_simp⟩, fun _ => rfl⟩ ?_
        try simp only [Act.put, List.setIfInBounds_toArray, List.set_cons_zero, List.set_cons_succ]
        refine wpAnyIn_take (i := 3) (oi := { dst := some 13, op := Op.move (Operand.tmp 4), type := 3, pos := "owned.go:32", after := #[], guard := none }) (v := .int .i64 (k : Int)) rfl rfl (by kernel_rfl) (by kernel_rfl) (by kernel_rfl) (fun _ _ _ h => h) ⟨Or.inl ⟨by rfl, by intro w; go_simp⟩, fun _ => rfl⟩ ?_
        try simp only [Act.put, List.setIfInBounds_toArray, List.set_cons_zero, List.set_cons_succ]
        refine wpAnyIn_ready (rs := [0, 2]) (by kernel_rfl) (by simp) (AllReadyIn.cons (o := { dst := some 10, op := Op.load 103 (Operand.tmp 2), type := 103, pos := "owned.go:32", after := #[], guard := none }) rfl (fun K hK => ?_) (AllReadyIn.cons (o := { dst := some 12, op := Op.load 23 (Operand.tmp 1), type := 23, pos := "owned.go:32", after := #[], guard := none }) rfl (fun K hK => ?_) AllReadyIn.nil))
        · go_simp
          (try (refine hK _ _ ?_; clear hK K))
          try simp only [Act.put, List.setIfInBounds_toArray, List.set_cons_zero, List.set_cons_succ]
          refine wpAnyIn_ready (rs := [2]) (by kernel_rfl) (by simp) (AllReadyIn.cons (o := { dst := some 12, op := Op.load 23 (Operand.tmp 1), type := 23, pos := "owned.go:32", after := #[], guard := none }) rfl (fun K hK => ?_) AllReadyIn.nil)
          go_simp
          (try (refine hK _ _ ?_; clear hK K))
          try simp only [Act.put, List.setIfInBounds_toArray, List.set_cons_zero, List.set_cons_succ]
          refine wpAnyIn_ready (rs := [4]) (by kernel_rfl) (by simp) (AllReadyIn.cons (o := { dst := some 14, op := Op.call { callee := Callee.value (Operand.func 87), args := #[Operand.tmp 12, Operand.tmp 13], argTypes := #[23, 3] }, type := 62, pos := "owned.go:32", after := #[{ on := 2, ground := Ground.data }, { on := 3, ground := Ground.data }], guard := none }) rfl (fun K hK => ?_) AllReadyIn.nil)
          go_simp
          gi_wp2
          refine ⟨trivial, (fun h => by cases h), CallsIn.mono (callsIn_wide.2 (HA.out _ HQ1.out)) ?_⟩
          rintro x w2 ⟨rfl, hb⟩
          have HQ2 := hid (HOn.out _ _ HQ1.out hb)
          clear hb
          have z2 := (HJ.out _ HQ2.out).2.2
          clear y1 y2
          gi_wp2
          (try (refine hK _ _ ?_; clear hK K))
          try simp only [Act.put, List.setIfInBounds_toArray, List.set_cons_zero, List.set_cons_succ]
          refine wpAnyIn_ready (rs := [5]) (by kernel_rfl) (by simp) (AllReadyIn.cons (o := { dst := some 15, op := Op.call { callee := Callee.value (Operand.tmp 10), args := #[Operand.tmp 11, Operand.tmp 14], argTypes := #[3, 62] }, type := 4, pos := "owned.go:32", after := #[{ on := 0, ground := Ground.data }, { on := 1, ground := Ground.data }, { on := 4, ground := Ground.data }, { on := 4, ground := Ground.chain }], guard := none }) rfl (fun K hK => ?_) AllReadyIn.nil)
          go_simp
          gi_wp2
          refine ⟨trivial, (fun h => by cases h), CallsIn.mono (callsIn_wide.2 (HSo.out _ HQ2.out)) ?_⟩
          rintro x w3 ⟨rfl, hb⟩
          have HQ3 := hid (HOn.out _ _ HQ2.out hb)
          clear hb z2
          gi_wp2
          (try (refine hK _ _ ?_; clear hK K))
          try simp only [Act.put, List.setIfInBounds_toArray, List.set_cons_zero, List.set_cons_succ]
          refine wpAnyIn_take (i := 6) (oi := { dst := some 16, op := Op.move (Operand.tmp 15), type := 4, pos := "owned.go:32", after := #[{ on := 5, ground := Ground.data }, { on := 5, ground := Ground.chain }], guard := none }) (v := .bool false) rfl rfl (by kernel_rfl) (by kernel_rfl) (by kernel_rfl) (fun _ _ _ h => h) ⟨Or.inl ⟨by rfl, by intro w; go_simp⟩, fun _ => rfl⟩ ?_
          try simp only [Act.put, List.setIfInBounds_toArray, List.set_cons_zero, List.set_cons_succ]
          refine wpAnyIn_take (i := 7) (oi := { dst := some 17, op := Op.move (Operand.tmp 0), type := 94, pos := "owned.go:32", after := #[{ on := 6, ground := Ground.guard }], guard := some (6, true) }) (v := undef) rfl rfl (by kernel_rfl) (by kernel_rfl) (by kernel_rfl) (fun _ _ _ h => h) ⟨Or.inr ⟨by rfl, rfl⟩, fun _ => rfl⟩ ?_
          try simp only [Act.put, List.setIfInBounds_toArray, List.set_cons_zero, List.set_cons_succ]
          refine wpAnyIn_take (i := 8) (oi := { dst := some 18, op := Op.move (Operand.tmp 4), type := 3, pos := "owned.go:32", after := #[{ on := 6, ground := Ground.guard }], guard := some (6, true) }) (v := undef) rfl rfl (by kernel_rfl) (by kernel_rfl) (by kernel_rfl) (fun _ _ _ h => h) ⟨Or.inr ⟨by rfl, rfl⟩, fun _ => rfl⟩ ?_
          try simp only [Act.put, List.setIfInBounds_toArray, List.set_cons_zero, List.set_cons_succ]
          refine wpAnyIn_ready (rs := [9]) (by kernel_rfl) (by simp) (AllReadyIn.cons (o := { dst := some 19, op := Op.call { callee := Callee.value (Operand.tmp 17), args := #[Operand.tmp 18], argTypes := #[3] }, type := 4, pos := "owned.go:32", after := #[{ on := 7, ground := Ground.data }, { on := 8, ground := Ground.data }, { on := 6, ground := Ground.chain }, { on := 6, ground := Ground.guard }], guard := some (6, true) }) rfl (fun K hK => ?_) AllReadyIn.nil)
          refine Eq.mpr (if_neg (by intro h; exact absurd (show false = true from h) (by decide))) ?_
          refine ⟨fun f hf => trivial, ?_⟩
          (try (refine hK _ _ ?_; clear hK K))
          try simp only [Act.put, List.setIfInBounds_toArray, List.set_cons_zero, List.set_cons_succ]
          refine wpAnyIn_take (i := 10) (oi := { dst := some 20, op := Op.unOp UnOp.not 4 (Operand.tmp 19), type := 4, pos := "owned.go:32", after := #[{ on := 9, ground := Ground.data }, { on := 6, ground := Ground.guard }], guard := some (6, true) }) (v := undef) rfl rfl (by kernel_rfl) (by kernel_rfl) (by kernel_rfl) (fun _ _ _ h => h) ⟨Or.inr ⟨by rfl, rfl⟩, fun _ => rfl⟩ ?_
          try simp only [Act.put, List.setIfInBounds_toArray, List.set_cons_zero, List.set_cons_succ]
          refine wpAnyIn_take (i := 11) (oi := { dst := some 21, op := Op.pick (Operand.tmp 16) (Operand.tmp 20) (Operand.const (Value.bool false)), type := 4, pos := "owned.go:32", after := #[{ on := 6, ground := Ground.data }, { on := 10, ground := Ground.data }], guard := none }) (v := .bool false) rfl rfl (by kernel_rfl) (by kernel_rfl) (by kernel_rfl) (fun _ _ _ h => h) ⟨Or.inl ⟨by rfl, by intro w; go_simp⟩, fun _ => rfl⟩ ?_
          try simp only [Act.put, List.setIfInBounds_toArray, List.set_cons_zero, List.set_cons_succ]
          have HQ4 := hid (HNk.out _ hp HQ3.out)
          refine wpAnyIn_done (by kernel_rfl) ?_ _
          gi_wp2
          go_roundw
          case rel => exact ⟨k + 1, HK.out, by simp, HQ4⟩
          case measure => have := HK.out; simp [intOf] <;> omega
        · go_simp
          (try (refine hK _ _ ?_; clear hK K))
          try simp only [Act.put, List.setIfInBounds_toArray, List.set_cons_zero, List.set_cons_succ]
          refine wpAnyIn_ready (rs := [0, 4]) (by kernel_rfl) (by simp) (AllReadyIn.cons (o := { dst := some 10, op := Op.load 103 (Operand.tmp 2), type := 103, pos := "owned.go:32", after := #[], guard := none }) rfl (fun K hK => ?_) (AllReadyIn.cons (o := { dst := some 14, op := Op.call { callee := Callee.value (Operand.func 87), args := #[Operand.tmp 12, Operand.tmp 13], argTypes := #[23, 3] }, type := 62, pos := "owned.go:32", after := #[{ on := 2, ground := Ground.data }, { on := 3, ground := Ground.data }], guard := none }) rfl (fun K hK => ?_) AllReadyIn.nil))
          · go_simp
            (try (refine hK _ _ ?_; clear hK K))
            try simp only [Act.put, List.setIfInBounds_toArray, List.set_cons_zero, List.set_cons_succ]
            refine wpAnyIn_ready (rs := [4]) (by kernel_rfl) (by simp) (AllReadyIn.cons (o := { dst := some 14, op := Op.call { callee := Callee.value (Operand.func 87), args := #[Operand.tmp 12, Operand.tmp 13], argTypes := #[23, 3] }, type := 62, pos := "owned.go:32", after := #[{ on := 2, ground := Ground.data }, { on := 3, ground := Ground.data }], guard := none }) rfl (fun K hK => ?_) AllReadyIn.nil)
            go_simp
            gi_wp2
            refine ⟨trivial, (fun h => by cases h), CallsIn.mono (callsIn_wide.2 (HA.out _ HQ1.out)) ?_⟩
            rintro x w2 ⟨rfl, hb⟩
            have HQ2 := hid (HOn.out _ _ HQ1.out hb)
            clear hb
            have z2 := (HJ.out _ HQ2.out).2.2
            clear y1 y2
            gi_wp2
            (try (refine hK _ _ ?_; clear hK K))
            try simp only [Act.put, List.setIfInBounds_toArray, List.set_cons_zero, List.set_cons_succ]
            refine wpAnyIn_ready (rs := [5]) (by kernel_rfl) (by simp) (AllReadyIn.cons (o := { dst := some 15, op := Op.call { callee := Callee.value (Operand.tmp 10), args := #[Operand.tmp 11, Operand.tmp 14], argTypes := #[3, 62] }, type := 4, pos := "owned.go:32", after := #[{ on := 0, ground := Ground.data }, { on := 1, ground := Ground.data }, { on := 4, ground := Ground.data }, { on := 4, ground := Ground.chain }], guard := none }) rfl (fun K hK => ?_) AllReadyIn.nil)
            go_simp
            gi_wp2
            refine ⟨trivial, (fun h => by cases h), CallsIn.mono (callsIn_wide.2 (HSo.out _ HQ2.out)) ?_⟩
            rintro x w3 ⟨rfl, hb⟩
            have HQ3 := hid (HOn.out _ _ HQ2.out hb)
            clear hb z2
            gi_wp2
            (try (refine hK _ _ ?_; clear hK K))
            try simp only [Act.put, List.setIfInBounds_toArray, List.set_cons_zero, List.set_cons_succ]
            refine wpAnyIn_take (i := 6) (oi := { dst := some 16, op := Op.move (Operand.tmp 15), type := 4, pos := "owned.go:32", after := #[{ on := 5, ground := Ground.data }, { on := 5, ground := Ground.chain }], guard := none }) (v := .bool false) rfl rfl (by kernel_rfl) (by kernel_rfl) (by kernel_rfl) (fun _ _ _ h => h) ⟨Or.inl ⟨by rfl, by intro w; go_simp⟩, fun _ => rfl⟩ ?_
            try simp only [Act.put, List.setIfInBounds_toArray, List.set_cons_zero, List.set_cons_succ]
            refine wpAnyIn_take (i := 7) (oi := { dst := some 17, op := Op.move (Operand.tmp 0), type := 94, pos := "owned.go:32", after := #[{ on := 6, ground := Ground.guard }], guard := some (6, true) }) (v := undef) rfl rfl (by kernel_rfl) (by kernel_rfl) (by kernel_rfl) (fun _ _ _ h => h) ⟨Or.inr ⟨by rfl, rfl⟩, fun _ => rfl⟩ ?_
            try simp only [Act.put, List.setIfInBounds_toArray, List.set_cons_zero, List.set_cons_succ]
            refine wpAnyIn_take (i := 8) (oi := { dst := some 18, op := Op.move (Operand.tmp 4), type := 3, pos := "owned.go:32", after := #[{ on := 6, ground := Ground.guard }], guard := some (6, true) }) (v := undef) rfl rfl (by kernel_rfl) (by kernel_rfl) (by kernel_rfl) (fun _ _ _ h => h) ⟨Or.inr ⟨by rfl, rfl⟩, fun _ => rfl⟩ ?_
            try simp only [Act.put, List.setIfInBounds_toArray, List.set_cons_zero, List.set_cons_succ]
            refine wpAnyIn_ready (rs := [9]) (by kernel_rfl) (by simp) (AllReadyIn.cons (o := { dst := some 19, op := Op.call { callee := Callee.value (Operand.tmp 17), args := #[Operand.tmp 18], argTypes := #[3] }, type := 4, pos := "owned.go:32", after := #[{ on := 7, ground := Ground.data }, { on := 8, ground := Ground.data }, { on := 6, ground := Ground.chain }, { on := 6, ground := Ground.guard }], guard := some (6, true) }) rfl (fun K hK => ?_) AllReadyIn.nil)
            refine Eq.mpr (if_neg (by intro h; exact absurd (show false = true from h) (by decide))) ?_
            refine ⟨fun f hf => trivial, ?_⟩
            (try (refine hK _ _ ?_; clear hK K))
            try simp only [Act.put, List.setIfInBounds_toArray, List.set_cons_zero, List.set_cons_succ]
            refine wpAnyIn_take (i := 10) (oi := { dst := some 20, op := Op.unOp UnOp.not 4 (Operand.tmp 19), type := 4, pos := "owned.go:32", after := #[{ on := 9, ground := Ground.data }, { on := 6, ground := Ground.guard }], guard := some (6, true) }) (v := undef) rfl rfl (by kernel_rfl) (by kernel_rfl) (by kernel_rfl) (fun _ _ _ h => h) ⟨Or.inr ⟨by rfl, rfl⟩, fun _ => rfl⟩ ?_
            try simp only [Act.put, List.setIfInBounds_toArray, List.set_cons_zero, List.set_cons_succ]
            refine wpAnyIn_take (i := 11) (oi := { dst := some 21, op := Op.pick (Operand.tmp 16) (Operand.tmp 20) (Operand.const (Value.bool false)), type := 4, pos := "owned.go:32", after := #[{ on := 6, ground := Ground.data }, { on := 10, ground := Ground.data }], guard := none }) (v := .bool false) rfl rfl (by kernel_rfl) (by kernel_rfl) (by kernel_rfl) (fun _ _ _ h => h) ⟨Or.inl ⟨by rfl, by intro w; go_simp⟩, fun _ => rfl⟩ ?_
            try simp only [Act.put, List.setIfInBounds_toArray, List.set_cons_zero, List.set_cons_succ]
            have HQ4 := hid (HNk.out _ hp HQ3.out)
            refine wpAnyIn_done (by kernel_rfl) ?_ _
            gi_wp2
            go_roundw
            case rel => exact ⟨k + 1, HK.out, by simp, HQ4⟩
            case measure => have := HK.out; simp [intOf] <;> omega
          · skip
            go_simp
            gi_wp2
            refine ⟨trivial, (fun h => by cases h), CallsIn.mono (callsIn_wide.2 (HA.out _ HQ1.out)) ?_⟩
            rintro x w2 ⟨rfl, hb⟩
            have HQ2 := hid (HOn.out _ _ HQ1.out hb)
            clear hb
            have z2 := (HJ.out _ HQ2.out).2.2
            clear y1 y2
            gi_wp2
            (try (refine hK _ _ ?_; clear hK K))
            try simp only [Act.put, List.setIfInBounds_toArray, List.set_cons_zero, List.set_cons_succ]
            refine wpAnyIn_ready (rs := [0]) (by kernel_rfl) (by simp) (AllReadyIn.cons (o := { dst := some 10, op := Op.load 103 (Operand.tmp 2), type := 103, pos := "owned.go:32", after := #[], guard := none }) rfl (fun K hK => ?_) AllReadyIn.nil)
            go_simp
            (try (refine hK _ _ ?_; clear hK K))
            try simp only [Act.put, List.setIfInBounds_toArray, List.set_cons_zero, List.set_cons_succ]
            refine wpAnyIn_ready (rs := [5]) (by kernel_rfl) (by simp) (AllReadyIn.cons (o := { dst := some 15, op := Op.call { callee := Callee.value (Operand.tmp 10), args := #[Operand.tmp 11, Operand.tmp 14], argTypes := #[3, 62] }, type := 4, pos := "owned.go:32", after := #[{ on := 0, ground := Ground.data }, { on := 1, ground := Ground.data }, { on := 4, ground := Ground.data }, { on := 4, ground := Ground.chain }], guard := none }) rfl (fun K hK => ?_) AllReadyIn.nil)
            go_simp
            gi_wp2
            refine ⟨trivial, (fun h => by cases h), CallsIn.mono (callsIn_wide.2 (HSo.out _ HQ2.out)) ?_⟩
            rintro x w3 ⟨rfl, hb⟩
            have HQ3 := hid (HOn.out _ _ HQ2.out hb)
            clear hb z2
            gi_wp2
            (try (refine hK _ _ ?_; clear hK K))
            try simp only [Act.put, List.setIfInBounds_toArray, List.set_cons_zero, List.set_cons_succ]
            refine wpAnyIn_take (i := 6) (oi := { dst := some 16, op := Op.move (Operand.tmp 15), type := 4, pos := "owned.go:32", after := #[{ on := 5, ground := Ground.data }, { on := 5, ground := Ground.chain }], guard := none }) (v := .bool false) rfl rfl (by kernel_rfl) (by kernel_rfl) (by kernel_rfl) (fun _ _ _ h => h) ⟨Or.inl ⟨by rfl, by intro w; go_simp⟩, fun _ => rfl⟩ ?_
            try simp only [Act.put, List.setIfInBounds_toArray, List.set_cons_zero, List.set_cons_succ]
            refine wpAnyIn_take (i := 7) (oi := { dst := some 17, op := Op.move (Operand.tmp 0), type := 94, pos := "owned.go:32", after := #[{ on := 6, ground := Ground.guard }], guard := some (6, true) }) (v := undef) rfl rfl (by kernel_rfl) (by kernel_rfl) (by kernel_rfl) (fun _ _ _ h => h) ⟨Or.inr ⟨by rfl, rfl⟩, fun _ => rfl⟩ ?_
            try simp only [Act.put, List.setIfInBounds_toArray, List.set_cons_zero, List.set_cons_succ]
            refine wpAnyIn_take (i := 8) (oi := { dst := some 18, op := Op.move (Operand.tmp 4), type := 3, pos := "owned.go:32", after := #[{ on := 6, ground := Ground.guard }], guard := some (6, true) }) (v := undef) rfl rfl (by kernel_rfl) (by kernel_rfl) (by kernel_rfl) (fun _ _ _ h => h) ⟨Or.inr ⟨by rfl, rfl⟩, fun _ => rfl⟩ ?_
            try simp only [Act.put, List.setIfInBounds_toArray, List.set_cons_zero, List.set_cons_succ]
            refine wpAnyIn_ready (rs := [9]) (by kernel_rfl) (by simp) (AllReadyIn.cons (o := { dst := some 19, op := Op.call { callee := Callee.value (Operand.tmp 17), args := #[Operand.tmp 18], argTypes := #[3] }, type := 4, pos := "owned.go:32", after := #[{ on := 7, ground := Ground.data }, { on := 8, ground := Ground.data }, { on := 6, ground := Ground.chain }, { on := 6, ground := Ground.guard }], guard := some (6, true) }) rfl (fun K hK => ?_) AllReadyIn.nil)
            refine Eq.mpr (if_neg (by intro h; exact absurd (show false = true from h) (by decide))) ?_
            refine ⟨fun f hf => trivial, ?_⟩
            (try (refine hK _ _ ?_; clear hK K))
            try simp only [Act.put, List.setIfInBounds_toArray, List.set_cons_zero, List.set_cons_succ]
            refine wpAnyIn_take (i := 10) (oi := { dst := some 20, op := Op.unOp UnOp.not 4 (Operand.tmp 19), type := 4, pos := "owned.go:32", after := #[{ on := 9, ground := Ground.data }, { on := 6, ground := Ground.guard }], guard := some (6, true) }) (v := undef) rfl rfl (by kernel_rfl) (by kernel_rfl) (by kernel_rfl) (fun _ _ _ h => h) ⟨Or.inr ⟨by rfl, rfl⟩, fun _ => rfl⟩ ?_
            try simp only [Act.put, List.setIfInBounds_toArray, List.set_cons_zero, List.set_cons_succ]
            refine wpAnyIn_take (i := 11) (oi := { dst := some 21, op := Op.pick (Operand.tmp 16) (Operand.tmp 20) (Operand.const (Value.bool false)), type := 4, pos := "owned.go:32", after := #[{ on := 6, ground := Ground.data }, { on := 10, ground := Ground.data }], guard := none }) (v := .bool false) rfl rfl (by kernel_rfl) (by kernel_rfl) (by kernel_rfl) (fun _ _ _ h => h) ⟨Or.inl ⟨by rfl, by intro w; go_simp⟩, fun _ => rfl⟩ ?_
            try simp only [Act.put, List.setIfInBounds_toArray, List.set_cons_zero, List.set_cons_succ]
            have HQ4 := hid (HNk.out _ hp HQ3.out)
            refine wpAnyIn_done (by kernel_rfl) ?_ _
            gi_wp2
            go_roundw
            case rel => exact ⟨k + 1, HK.out, by simp, HQ4⟩
            case measure => have := HK.out; simp [intOf] <;> omega
      · rw [hp] at HSo
        clear HNk
        gi_wp2
        refine wpIn_region_any (by kernel_rfl) ?_
        change wpAnyIn _ _ _ _ _ _ _ _ _ (World.drew _)
        have HQ1 := hid (HOn.out _ _ HQ.out (Below.refl _ _).drew)
        have y1 := (HJ.out _ HQ1.out).2.1
        have y2 := (HJ.out _ HQ1.out).2.2
        refine wpAnyIn_take (i := 1) (oi := { dst := some 11, op := Op.move (Operand.tmp 4), type := 3, pos := "owned.go:32", after := #[], guard := none }) (v := .int .i64 (k : Int)) rfl rfl (by kernel_rfl) (by kernel_rfl) (by kernel_rfl) (fun _ _ _ h => h) ⟨Or.inl ⟨by rfl, by intro w; go_simp⟩, fun _ => rfl⟩ ?_
        try simp only [Act.put, List.setIfInBounds_toArray, List.set_cons_zero, List.set_cons_succ]
        refine wpAnyIn_take (i := 3) (oi := { dst := some 13, op := Op.move (Operand.tmp 4), type := 3, pos := "owned.go:32", after := #[], guard := none }) (v := .int .i64 (k : Int)) rfl rfl (by kernel_rfl) (by kernel_rfl) (by kernel_rfl) (fun _ _ _ h => h) ⟨Or.inl ⟨by rfl, by intro w; go_simp⟩, fun _ => rfl⟩ ?_
        try simp only [Act.put, List.setIfInBounds_toArray, List.set_cons_zero, List.set_cons_succ]
        refine wpAnyIn_ready (rs := [0, 2]) (by kernel_rfl) (by simp) (AllReadyIn.cons (o := { dst := some 10, op := Op.load 103 (Operand.tmp 2), type := 103, pos := "owned.go:32", after := #[], guard := none }) rfl (fun K hK => ?_) (AllReadyIn.cons (o := { dst := some 12, op := Op.load 23 (Operand.tmp 1), type := 23, pos := "owned.go:32", after := #[], guard := none }) rfl (fun K hK => ?_) AllReadyIn.nil))
        · go_simp
          (try (refine hK _ _ ?_; clear hK K))
          try simp only [Act.put, List.setIfInBounds_toArray, List.set_cons_zero, List.set_cons_succ]
          refine wpAnyIn_ready (rs := [2]) (by kernel_rfl) (by simp) (AllReadyIn.cons (o := { dst := some 12, op := Op.load 23 (Operand.tmp 1), type := 23, pos := "owned.go:32", after := #[], guard := none }) rfl (fun K hK => ?_) AllReadyIn.nil)
          go_simp
          (try (refine hK _ _ ?_; clear hK K))
          try simp only [Act.put, List.setIfInBounds_toArray, List.set_cons_zero, List.set_cons_succ]
          refine wpAnyIn_ready (rs := [4]) (by kernel_rfl) (by simp) (AllReadyIn.cons (o := { dst := some 14, op := Op.call { callee := Callee.value (Operand.func 87), args := #[Operand.tmp 12, Operand.tmp 13], argTypes := #[23, 3] }, type := 62, pos := "owned.go:32", after := #[{ on := 2, ground := Ground.data }, { on := 3, ground := Ground.data }], guard := none }) rfl (fun K hK => ?_) AllReadyIn.nil)
          go_simp
          gi_wp2
          refine ⟨trivial, (fun h => by cases h), CallsIn.mono (callsIn_wide.2 (HA.out _ HQ1.out)) ?_⟩
          rintro x w2 ⟨rfl, hb⟩
          have HQ2 := hid (HOn.out _ _ HQ1.out hb)
          clear hb
          have z2 := (HJ.out _ HQ2.out).2.2
          clear y1 y2
          gi_wp2
          (try (refine hK _ _ ?_; clear hK K))
          try simp only [Act.put, List.setIfInBounds_toArray, List.set_cons_zero, List.set_cons_succ]
          refine wpAnyIn_ready (rs := [5]) (by kernel_rfl) (by simp) (AllReadyIn.cons (o := { dst := some 15, op := Op.call { callee := Callee.value (Operand.tmp 10), args := #[Operand.tmp 11, Operand.tmp 14], argTypes := #[3, 62] }, type := 4, pos := "owned.go:32", after := #[{ on := 0, ground := Ground.data }, { on := 1, ground := Ground.data }, { on := 4, ground := Ground.data }, { on := 4, ground := Ground.chain }], guard := none }) rfl (fun K hK => ?_) AllReadyIn.nil)
          go_simp
          gi_wp2
          refine ⟨trivial, (fun h => by cases h), CallsIn.mono (callsIn_wide.2 (HSo.out _ HQ2.out)) ?_⟩
          rintro x w3 ⟨rfl, hb⟩
          have HQ3 := hid (HOn.out _ _ HQ2.out hb)
          clear hb z2
          gi_wp2
          (try (refine hK _ _ ?_; clear hK K))
          try simp only [Act.put, List.setIfInBounds_toArray, List.set_cons_zero, List.set_cons_succ]
          refine wpAnyIn_take (i := 6) (oi := { dst := some 16, op := Op.move (Operand.tmp 15), type := 4, pos := "owned.go:32", after := #[{ on := 5, ground := Ground.data }, { on := 5, ground := Ground.chain }], guard := none }) (v := .bool true) rfl rfl (by kernel_rfl) (by kernel_rfl) (by kernel_rfl) (fun _ _ _ h => h) ⟨Or.inl ⟨by rfl, by intro w; go_simp⟩, fun _ => rfl⟩ ?_
          try simp only [Act.put, List.setIfInBounds_toArray, List.set_cons_zero, List.set_cons_succ]
          refine wpAnyIn_take (i := 7) (oi := { dst := some 17, op := Op.move (Operand.tmp 0), type := 94, pos := "owned.go:32", after := #[{ on := 6, ground := Ground.guard }], guard := some (6, true) }) (v := .func (.yield l) #[] #[]) rfl rfl (by kernel_rfl) (by kernel_rfl) (by kernel_rfl) (fun _ _ _ h => h) ⟨Or.inl ⟨by rfl, by intro w; go_simp⟩, fun _ => rfl⟩ ?_
          try simp only [Act.put, List.setIfInBounds_toArray, List.set_cons_zero, List.set_cons_succ]
          refine wpAnyIn_take (i := 8) (oi := { dst := some 18, op := Op.move (Operand.tmp 4), type := 3, pos := "owned.go:32", after := #[{ on := 6, ground := Ground.guard }], guard := some (6, true) }) (v := .int .i64 (k : Int)) rfl rfl (by kernel_rfl) (by kernel_rfl) (by kernel_rfl) (fun _ _ _ h => h) ⟨Or.inl ⟨by rfl, by intro w; go_simp⟩, fun _ => rfl⟩ ?_
          try simp only [Act.put, List.setIfInBounds_toArray, List.set_cons_zero, List.set_cons_succ]
          refine wpAnyIn_ready (rs := [9]) (by kernel_rfl) (by simp) (AllReadyIn.cons (o := { dst := some 19, op := Op.call { callee := Callee.value (Operand.tmp 17), args := #[Operand.tmp 18], argTypes := #[3] }, type := 4, pos := "owned.go:32", after := #[{ on := 7, ground := Ground.data }, { on := 8, ground := Ground.data }, { on := 6, ground := Ground.chain }, { on := 6, ground := Ground.guard }], guard := some (6, true) }) rfl (fun K hK => ?_) AllReadyIn.nil)
          obtain ⟨fn, tmps, assign, body, hy, hR⟩ := HYk.out _ hp HQ3.out
          have HR := hid hR
          clear hR
          go_simp
          gi_wp2
          refine ⟨(fun h => by cases h), RoundIn.mono HR.out ?_⟩
          rintro x w4 ⟨rfl, hJ4⟩
          have HQ4 := hid hJ4
          clear hJ4 HR hy
          gi_wp2
          (try (refine hK _ _ ?_; clear hK K))
          try simp only [Act.put, List.setIfInBounds_toArray, List.set_cons_zero, List.set_cons_succ]
          refine wpAnyIn_take (i := 10) (oi := { dst := some 20, op := Op.unOp UnOp.not 4 (Operand.tmp 19), type := 4, pos := "owned.go:32", after := #[{ on := 9, ground := Ground.data }, { on := 6, ground := Ground.guard }], guard := some (6, true) }) (v := .bool false) rfl rfl (by kernel_rfl) (by kernel_rfl) (by kernel_rfl) (fun _ _ _ h => h) ⟨Or.inl ⟨by rfl, by intro w; go_simp⟩, fun _ => rfl⟩ ?_
          try simp only [Act.put, List.setIfInBounds_toArray, List.set_cons_zero, List.set_cons_succ]
          refine wpAnyIn_take (i := 11) (oi := { dst := some 21, op := Op.pick (Operand.tmp 16) (Operand.tmp 20) (Operand.const (Value.bool false)), type := 4, pos := "owned.go:32", after := #[{ on := 6, ground := Ground.data }, { on := 10, ground := Ground.data }], guard := none }) (v := .bool false) rfl rfl (by kernel_rfl) (by kernel_rfl) (by kernel_rfl) (fun _ _ _ h => h) ⟨Or.inl ⟨by rfl, by intro w; go_simp⟩, fun _ => rfl⟩ ?_
          try simp only [Act.put, List.setIfInBounds_toArray, List.set_cons_zero, List.set_cons_succ]
          refine wpAnyIn_done (by kernel_rfl) ?_ _
          gi_wp2
          go_roundw
          case rel => exact ⟨k + 1, HK.out, by simp, HQ4⟩
          case measure => have := HK.out; simp [intOf] <;> omega
        · go_simp
          (try (refine hK _ _ ?_; clear hK K))
          try simp only [Act.put, List.setIfInBounds_toArray, List.set_cons_zero, List.set_cons_succ]
          refine wpAnyIn_ready (rs := [0, 4]) (by kernel_rfl) (by simp) (AllReadyIn.cons (o := { dst := some 10, op := Op.load 103 (Operand.tmp 2), type := 103, pos := "owned.go:32", after := #[], guard := none }) rfl (fun K hK => ?_) (AllReadyIn.cons (o := { dst := some 14, op := Op.call { callee := Callee.value (Operand.func 87), args := #[Operand.tmp 12, Operand.tmp 13], argTypes := #[23, 3] }, type := 62, pos := "owned.go:32", after := #[{ on := 2, ground := Ground.data }, { on := 3, ground := Ground.data }], guard := none }) rfl (fun K hK => ?_) AllReadyIn.nil))
          · go_simp
            (try (refine hK _ _ ?_; clear hK K))
            try simp only [Act.put, List.setIfInBounds_toArray, List.set_cons_zero, List.set_cons_succ]
            refine wpAnyIn_ready (rs := [4]) (by kernel_rfl) (by simp) (AllReadyIn.cons (o := { dst := some 14, op := Op.call { callee := Callee.value (Operand.func 87), args := #[Operand.tmp 12, Operand.tmp 13], argTypes := #[23, 3] }, type := 62, pos := "owned.go:32", after := #[{ on := 2, ground := Ground.data }, { on := 3, ground := Ground.data }], guard := none }) rfl (fun K hK => ?_) AllReadyIn.nil)
            go_simp
            gi_wp2
            refine ⟨trivial, (fun h => by cases h), CallsIn.mono (callsIn_wide.2 (HA.out _ HQ1.out)) ?_⟩
            rintro x w2 ⟨rfl, hb⟩
            have HQ2 := hid (HOn.out _ _ HQ1.out hb)
            clear hb
            have z2 := (HJ.out _ HQ2.out).2.2
            clear y1 y2
            gi_wp2
            (try (refine hK _ _ ?_; clear hK K))
            try simp only [Act.put, List.setIfInBounds_toArray, List.set_cons_zero, List.set_cons_succ]
            refine wpAnyIn_ready (rs := [5]) (by kernel_rfl) (by simp) (AllReadyIn.cons (o := { dst := some 15, op := Op.call { callee := Callee.value (Operand.tmp 10), args := #[Operand.tmp 11, Operand.tmp 14], argTypes := #[3, 62] }, type := 4, pos := "owned.go:32", after := #[{ on := 0, ground := Ground.data }, { on := 1, ground := Ground.data }, { on := 4, ground := Ground.data }, { on := 4, ground := Ground.chain }], guard := none }) rfl (fun K hK => ?_) AllReadyIn.nil)
            go_simp
            gi_wp2
            refine ⟨trivial, (fun h => by cases h), CallsIn.mono (callsIn_wide.2 (HSo.out _ HQ2.out)) ?_⟩
            rintro x w3 ⟨rfl, hb⟩
            have HQ3 := hid (HOn.out _ _ HQ2.out hb)
            clear hb z2
            gi_wp2
            (try (refine hK _ _ ?_; clear hK K))
            try simp only [Act.put, List.setIfInBounds_toArray, List.set_cons_zero, List.set_cons_succ]
            refine wpAnyIn_take (i := 6) (oi := { dst := some 16, op := Op.move (Operand.tmp 15), type := 4, pos := "owned.go:32", after := #[{ on := 5, ground := Ground.data }, { on := 5, ground := Ground.chain }], guard := none }) (v := .bool true) rfl rfl (by kernel_rfl) (by kernel_rfl) (by kernel_rfl) (fun _ _ _ h => h) ⟨Or.inl ⟨by rfl, by intro w; go_simp⟩, fun _ => rfl⟩ ?_
            try simp only [Act.put, List.setIfInBounds_toArray, List.set_cons_zero, List.set_cons_succ]
            refine wpAnyIn_take (i := 7) (oi := { dst := some 17, op := Op.move (Operand.tmp 0), type := 94, pos := "owned.go:32", after := #[{ on := 6, ground := Ground.guard }], guard := some (6, true) }) (v := .func (.yield l) #[] #[]) rfl rfl (by kernel_rfl) (by kernel_rfl) (by kernel_rfl) (fun _ _ _ h => h) ⟨Or.inl ⟨by rfl, by intro w; go_simp⟩, fun _ => rfl⟩ ?_
            try simp only [Act.put, List.setIfInBounds_toArray, List.set_cons_zero, List.set_cons_succ]
            refine wpAnyIn_take (i := 8) (oi := { dst := some 18, op := Op.move (Operand.tmp 4), type := 3, pos := "owned.go:32", after := #[{ on := 6, ground := Ground.guard }], guard := some (6, true) }) (v := .int .i64 (k : Int)) rfl rfl (by kernel_rfl) (by kernel_rfl) (by kernel_rfl) (fun _ _ _ h => h) ⟨Or.inl ⟨by rfl, by intro w; go_simp⟩, fun _ => rfl⟩ ?_
            try simp only [Act.put, List.setIfInBounds_toArray, List.set_cons_zero, List.set_cons_succ]
            refine wpAnyIn_ready (rs := [9]) (by kernel_rfl) (by simp) (AllReadyIn.cons (o := { dst := some 19, op := Op.call { callee := Callee.value (Operand.tmp 17), args := #[Operand.tmp 18], argTypes := #[3] }, type := 4, pos := "owned.go:32", after := #[{ on := 7, ground := Ground.data }, { on := 8, ground := Ground.data }, { on := 6, ground := Ground.chain }, { on := 6, ground := Ground.guard }], guard := some (6, true) }) rfl (fun K hK => ?_) AllReadyIn.nil)
            obtain ⟨fn, tmps, assign, body, hy, hR⟩ := HYk.out _ hp HQ3.out
            have HR := hid hR
            clear hR
            go_simp
            gi_wp2
            refine ⟨(fun h => by cases h), RoundIn.mono HR.out ?_⟩
            rintro x w4 ⟨rfl, hJ4⟩
            have HQ4 := hid hJ4
            clear hJ4 HR hy
            gi_wp2
            (try (refine hK _ _ ?_; clear hK K))
            try simp only [Act.put, List.setIfInBounds_toArray, List.set_cons_zero, List.set_cons_succ]
            refine wpAnyIn_take (i := 10) (oi := { dst := some 20, op := Op.unOp UnOp.not 4 (Operand.tmp 19), type := 4, pos := "owned.go:32", after := #[{ on := 9, ground := Ground.data }, { on := 6, ground := Ground.guard }], guard := some (6, true) }) (v := .bool false) rfl rfl (by kernel_rfl) (by kernel_rfl) (by kernel_rfl) (fun _ _ _ h => h) ⟨Or.inl ⟨by rfl, by intro w; go_simp⟩, fun _ => rfl⟩ ?_
            try simp only [Act.put, List.setIfInBounds_toArray, List.set_cons_zero, List.set_cons_succ]
            refine wpAnyIn_take (i := 11) (oi := { dst := some 21, op := Op.pick (Operand.tmp 16) (Operand.tmp 20) (Operand.const (Value.bool false)), type := 4, pos := "owned.go:32", after := #[{ on := 6, ground := Ground.data }, { on := 10, ground := Ground.data }], guard := none }) (v := .bool false) rfl rfl (by kernel_rfl) (by kernel_rfl) (by kernel_rfl) (fun _ _ _ h => h) ⟨Or.inl ⟨by rfl, by intro w; go_simp⟩, fun _ => rfl⟩ ?_
            try simp only [Act.put, List.setIfInBounds_toArray, List.set_cons_zero, List.set_cons_succ]
            refine wpAnyIn_done (by kernel_rfl) ?_ _
            gi_wp2
            go_roundw
            case rel => exact ⟨k + 1, HK.out, by simp, HQ4⟩
            case measure => have := HK.out; simp [intOf] <;> omega
          · skip
            go_simp
            gi_wp2
            refine ⟨trivial, (fun h => by cases h), CallsIn.mono (callsIn_wide.2 (HA.out _ HQ1.out)) ?_⟩
            rintro x w2 ⟨rfl, hb⟩
            have HQ2 := hid (HOn.out _ _ HQ1.out hb)
            clear hb
            have z2 := (HJ.out _ HQ2.out).2.2
            clear y1 y2
            gi_wp2
            (try (refine hK _ _ ?_; clear hK K))
            try simp only [Act.put, List.setIfInBounds_toArray, List.set_cons_zero, List.set_cons_succ]
            refine wpAnyIn_ready (rs := [0]) (by kernel_rfl) (by simp) (AllReadyIn.cons (o := { dst := some 10, op := Op.load 103 (Operand.tmp 2), type := 103, pos := "owned.go:32", after := #[], guard := none }) rfl (fun K hK => ?_) AllReadyIn.nil)
            go_simp
            (try (refine hK _ _ ?_; clear hK K))
            try simp only [Act.put, List.setIfInBounds_toArray, List.set_cons_zero, List.set_cons_succ]
            refine wpAnyIn_ready (rs := [5]) (by kernel_rfl) (by simp) (AllReadyIn.cons (o := { dst := some 15, op := Op.call { callee := Callee.value (Operand.tmp 10), args := #[Operand.tmp 11, Operand.tmp 14], argTypes := #[3, 62] }, type := 4, pos := "owned.go:32", after := #[{ on := 0, ground := Ground.data }, { on := 1, ground := Ground.data }, { on := 4, ground := Ground.data }, { on := 4, ground := Ground.chain }], guard := none }) rfl (fun K hK => ?_) AllReadyIn.nil)
            go_simp
            gi_wp2
            refine ⟨trivial, (fun h => by cases h), CallsIn.mono (callsIn_wide.2 (HSo.out _ HQ2.out)) ?_⟩
            rintro x w3 ⟨rfl, hb⟩
            have HQ3 := hid (HOn.out _ _ HQ2.out hb)
            clear hb z2
            gi_wp2
            (try (refine hK _ _ ?_; clear hK K))
            try simp only [Act.put, List.setIfInBounds_toArray, List.set_cons_zero, List.set_cons_succ]
            refine wpAnyIn_take (i := 6) (oi := { dst := some 16, op := Op.move (Operand.tmp 15), type := 4, pos := "owned.go:32", after := #[{ on := 5, ground := Ground.data }, { on := 5, ground := Ground.chain }], guard := none }) (v := .bool true) rfl rfl (by kernel_rfl) (by kernel_rfl) (by kernel_rfl) (fun _ _ _ h => h) ⟨Or.inl ⟨by rfl, by intro w; go_simp⟩, fun _ => rfl⟩ ?_
            try simp only [Act.put, List.setIfInBounds_toArray, List.set_cons_zero, List.set_cons_succ]
            refine wpAnyIn_take (i := 7) (oi := { dst := some 17, op := Op.move (Operand.tmp 0), type := 94, pos := "owned.go:32", after := #[{ on := 6, ground := Ground.guard }], guard := some (6, true) }) (v := .func (.yield l) #[] #[]) rfl rfl (by kernel_rfl) (by kernel_rfl) (by kernel_rfl) (fun _ _ _ h => h) ⟨Or.inl ⟨by rfl, by intro w; go_simp⟩, fun _ => rfl⟩ ?_
            try simp only [Act.put, List.setIfInBounds_toArray, List.set_cons_zero, List.set_cons_succ]
            refine wpAnyIn_take (i := 8) (oi := { dst := some 18, op := Op.move (Operand.tmp 4), type := 3, pos := "owned.go:32", after := #[{ on := 6, ground := Ground.guard }], guard := some (6, true) }) (v := .int .i64 (k : Int)) rfl rfl (by kernel_rfl) (by kernel_rfl) (by kernel_rfl) (fun _ _ _ h => h) ⟨Or.inl ⟨by rfl, by intro w; go_simp⟩, fun _ => rfl⟩ ?_
            try simp only [Act.put, List.setIfInBounds_toArray, List.set_cons_zero, List.set_cons_succ]
            refine wpAnyIn_ready (rs := [9]) (by kernel_rfl) (by simp) (AllReadyIn.cons (o := { dst := some 19, op := Op.call { callee := Callee.value (Operand.tmp 17), args := #[Operand.tmp 18], argTypes := #[3] }, type := 4, pos := "owned.go:32", after := #[{ on := 7, ground := Ground.data }, { on := 8, ground := Ground.data }, { on := 6, ground := Ground.chain }, { on := 6, ground := Ground.guard }], guard := some (6, true) }) rfl (fun K hK => ?_) AllReadyIn.nil)
            obtain ⟨fn, tmps, assign, body, hy, hR⟩ := HYk.out _ hp HQ3.out
            have HR := hid hR
            clear hR
            go_simp
            gi_wp2
            refine ⟨(fun h => by cases h), RoundIn.mono HR.out ?_⟩
            rintro x w4 ⟨rfl, hJ4⟩
            have HQ4 := hid hJ4
            clear hJ4 HR hy
            gi_wp2
            (try (refine hK _ _ ?_; clear hK K))
            try simp only [Act.put, List.setIfInBounds_toArray, List.set_cons_zero, List.set_cons_succ]
            refine wpAnyIn_take (i := 10) (oi := { dst := some 20, op := Op.unOp UnOp.not 4 (Operand.tmp 19), type := 4, pos := "owned.go:32", after := #[{ on := 9, ground := Ground.data }, { on := 6, ground := Ground.guard }], guard := some (6, true) }) (v := .bool false) rfl rfl (by kernel_rfl) (by kernel_rfl) (by kernel_rfl) (fun _ _ _ h => h) ⟨Or.inl ⟨by rfl, by intro w; go_simp⟩, fun _ => rfl⟩ ?_
            try simp only [Act.put, List.setIfInBounds_toArray, List.set_cons_zero, List.set_cons_succ]
            refine wpAnyIn_take (i := 11) (oi := { dst := some 21, op := Op.pick (Operand.tmp 16) (Operand.tmp 20) (Operand.const (Value.bool false)), type := 4, pos := "owned.go:32", after := #[{ on := 6, ground := Ground.data }, { on := 10, ground := Ground.data }], guard := none }) (v := .bool false) rfl rfl (by kernel_rfl) (by kernel_rfl) (by kernel_rfl) (fun _ _ _ h => h) ⟨Or.inl ⟨by rfl, by intro w; go_simp⟩, fun _ => rfl⟩ ?_
            try simp only [Act.put, List.setIfInBounds_toArray, List.set_cons_zero, List.set_cons_succ]
            refine wpAnyIn_done (by kernel_rfl) ?_ _
            gi_wp2
            go_roundw
            case rel => exact ⟨k + 1, HK.out, by simp, HQ4⟩
            case measure => have := HK.out; simp [intOf] <;> omega
    · have hkw : k = d.m.ns := by omega
      subst hkw
      gi_wp2
      go_end0
      exact ⟨⟨_, rfl⟩, HQ.out⟩
end Go.Proofs.Ytajkhkaidjjioaa
