import Derived.Test.YtdfnbcbnmiohnaaGreatDoorP28
import Derived.Test.YtdfnbcbnmiohnaaGreatDoorP01
namespace Go.Proofs.YtdfnbcbnmiohnaaGreatDoor
open Go.RowKit
set_option maxHeartbeats 2000000
set_option maxRecDepth 100000
def cntN (f : Nat → Bool) : Nat → Nat
  | 0 => 0
  | k + 1 => cntN f k + (if f k = true then 1 else 0)
def lstN (f : Nat → Bool) : Nat → List Nat
  | 0 => []
  | k + 1 => lstN f k ++ (if f k = true then [k] else [])
def isF (x : En) : Bool := x.t == 0
def isO (s : Int) (k : Int) (x : En) : Bool := k != s && (x.o == s && x.t != 0)
def DS.free (d : DS) : Nat := cntN (fun k => isF (d.at k)) d.m.ns
def DS.owned (d : DS) (s : Int) : List Nat := if (d.ent s).t = 1 then lstN (fun k => isO s (k : Int) (d.at k)) d.m.ns else []
theorem isFree_any (W : World) (k : Int) (x : En) : Calls Tryz.prog 73 #[.int .i64 k, x.v] W fun e W' => e = .returned (.bool (isF x)) ∧ Below W.heap.size W W' := by
  have HC := hid (Cel.new W 30 x.cs)
  have HB := hid (below_one W (.cells x.cs.toArray 30))
  obtain ⟨t, o, r, s, e⟩ := x
  simp only [En.v, En.cs, isF] at *
  go_enter Tryz.func73, Tryz.ntmps73
  go_upto_region 1 with fail
  generalize W.alloc _ = X at *
  have c0 := HC.out.cell 0
  simp only [xzD] at c0
  go_wp2_with fail
  go_ret
  exact ⟨rfl, HB.out⟩
theorem isOf_any (W : World) (s : Int) : Calls Tryz.prog 95 #[.int .i64 s] W fun e W' => ∃ bs, e = .returned (.func (.func 136) #[] #[.pointer (some ⟨bs, 0, none⟩)]) ∧ Ob W' bs (box (.int .i64 s) 3) ∧ W.heap.size ≤ bs ∧ Below W.heap.size W W' := by
  have H : Hid (Ob (W.alloc (.cells #[.int .i64 s] 3)) W.heap.size (box (.int .i64 s) 3)) := hid (heap_alloc_new _ _)
  go_enter Tryz.func95, Tryz.ntmps95
  go_wp2_with fail
  go_ret
  exact ⟨_, rfl, H.out, Nat.le_refl _, below_one _ _⟩
theorem isOf1_any (W : World) (k : Int) (x : En) (bs : Nat) (s : Int) (hs : Ob W bs (box (.int .i64 s) 3)) : Calls Tryz.prog 136 #[.int .i64 k, x.v, .pointer (some ⟨bs, 0, none⟩)] W fun e W' => e = .returned (.bool (isO s k x)) ∧ Below W.heap.size W W' := by
  have HC := hid (Cel.new W 30 x.cs)
  have HB := hid (below_one W (.cells x.cs.toArray 30))
  have cs := (hs.on HB.out).cell
  clear hs
  obtain ⟨t, o, r, st, e⟩ := x
  simp only [En.v, En.cs, isO] at *
  generalize hR : (k != s && (o == s && t != 0)) = R
  have HR := hid hR
  clear hR
  by_cases h1 : k = s
  · subst h1
    have e1 : R = false := by rw [← HR.out]; simp
    subst e1
    clear HR
    go_enter Tryz.func136, Tryz.ntmps136
    go_upto_region 1 with fail
    generalize W.alloc _ = X at *
    go_wp2_with fail
    go_ret
    exact ⟨rfl, HB.out⟩
  · have h1' : (k != s) = true := by simpa using h1
    by_cases h2 : o = s
    · subst h2
      by_cases h3 : t = 0
      · subst h3
        have e1 : R = false := by rw [← HR.out]; simp
        subst e1
        clear HR h1
        go_enter Tryz.func136, Tryz.ntmps136
        go_upto_region 1 with fail
        generalize W.alloc _ = X at *
        have c0 := HC.out.cell 0
        have c1 := HC.out.cell 1
        simp only [xzD, xzE] at c0 c1
        go_wp2_with fail
        go_ret
        exact ⟨rfl, HB.out⟩
      · have e1 : R = true := by rw [← HR.out]; simp [h1, h3]
        have h3' : (t != 0) = true := by simpa using h3
        subst e1
        clear HR h1 h3
        go_enter Tryz.func136, Tryz.ntmps136
        go_upto_region 1 with fail
        generalize W.alloc _ = X at *
        have c0 := HC.out.cell 0
        have c1 := HC.out.cell 1
        simp only [xzD, xzE] at c0 c1
        go_wp2_with fail
        go_ret
        exact ⟨rfl, HB.out⟩
    · have e1 : R = false := by rw [← HR.out]; simp [h2]
      have h2' : (o == s) = false := by simpa using h2
      subst e1
      clear HR h1 h2
      go_enter Tryz.func136, Tryz.ntmps136
      go_upto_region 1 with fail
      generalize W.alloc _ = X at *
      have c0 := HC.out.cell 0
      have c1 := HC.out.cell 1
      simp only [xzD, xzE] at c0 c1
      go_wp2_with fail
      go_ret
      exact ⟨rfl, HB.out⟩
theorem pagesf_any (W : World) (g : Nat) (fv : Nat) (cap : Array Value) : Calls Tryz.prog 72 #[.pointer (some ⟨g, 0, none⟩), .func (.func fv) #[] cap] W fun x W' => ∃ bd bs, x = .returned (.func (.func 118) #[] #[.pointer (some ⟨bd, 0, none⟩), .pointer (some ⟨bs, 0, none⟩)]) ∧ Ob W' bd (box (.pointer (some ⟨g, 0, none⟩)) 23) ∧ Ob W' bs (box (.func (.func fv) #[] cap) 136) ∧ W.heap.size ≤ bd ∧ W.heap.size ≤ bs ∧ Below W.heap.size W W' := by
  have h1 : Ob (W.alloc (.cells #[.pointer (some ⟨g, 0, none⟩)] 23)) W.heap.size (box (.pointer (some ⟨g, 0, none⟩)) 23) := heap_alloc_new _ _
  have h2 := heap_alloc_new (W.alloc (.cells #[.pointer (some ⟨g, 0, none⟩)] 23)) (.cells #[.func (.func fv) #[] cap] 136)
  rw [World.size_alloc] at h2
  have H := hid (And.intro (h1.on (below_one _ (.cells #[.func (.func fv) #[] cap] 136))) h2)
  clear h1 h2
  go_enter Tryz.func72, Tryz.ntmps72
  go_wp2_with fail
  go_ret
  exact ⟨_, _, rfl, H.out.1, H.out.2, Nat.le_refl _, Nat.le_succ _, below_on (below_one _ _) (below_one _ _)⟩
end Go.Proofs.YtdfnbcbnmiohnaaGreatDoor
namespace Go.Proofs.YtdfnbcbnmiohnaaGreatDoor
open Go.RowKit Go.Shelf
set_option maxHeartbeats 2000000
set_option maxRecDepth 100000
theorem pagesF_in (n l bd bs : Nat) (p : Dp) (d : DS) (pred : Nat → Bool) (J : Nat → World → Prop)
    (hJ : ∀ k W, J k W → DB W p d ∧ W.cell? ⟨bd, 0, none⟩ = some (.pointer (some ⟨p.g, 0, none⟩)) ∧ W.cell? ⟨bs, 0, none⟩ = some (.func (.func 73) #[] #[]))
    (hOn : ∀ k W W', J k W → Below W.heap.size W W' → J k W')
    (hSo : ∀ k W, k < d.m.ns → J k W → Calls Tryz.prog 73 #[.int .i64 (k : Int), (d.at k).v] W fun e W' => e = .returned (.bool (pred k)) ∧ Below W.heap.size W W')
    (hY : ∀ k W, k < d.m.ns → pred k = true → J k W → YieldAt .wide (n - 1) Tryz.prog l #[.int .i64 (k : Int)] W (fun e W' => e = .returned (.bool true) ∧ J (k + 1) W'))
    (hN : ∀ k W, k < d.m.ns → pred k = false → J k W → J (k + 1) W)
    (W : World) (h0 : J 0 W) :
    CallsIn .wide n Tryz.prog 118 #[.func (.yield l) #[] #[], .pointer (some ⟨bd, 0, none⟩), .pointer (some ⟨bs, 0, none⟩)] W fun e W' => (∃ v, e = .returned v) ∧ J d.m.ns W' := by
  have n64 := (hJ 0 W h0).1.ok.n64
  have w0 := (hJ 0 W h0).2.1
  have HP : Hid (Calls Tryz.prog 49 #[.pointer (some ⟨p.g, 0, none⟩)] W fun x W' => x = .returned (.int .i64 (d.m.ns : Int)) ∧ W = W') := hid (pages_any W p d (hJ 0 W h0).1)
  refine callsIn_of_wp Tryz.func118 rfl trivial ?_ rfl
  simp only [Tryz.ntmps118, List.size_toArray, List.length_cons, List.length_nil, Nat.reduceAdd, Nat.reduceSub, Array.replicate_succ, Array.replicate_zero, List.push_toArray, List.append_toArray, List.nil_append, List.cons_append]
  gi_wp2
  refine ⟨trivial, (fun h => by cases h), CallsIn.mono (callsIn_wide.2 HP.out) ?_⟩
  rintro x w1 ⟨rfl, hw1⟩
  subst hw1
  clear HP
  gi_wp2
  clear w0
  gi_loopw [7] (fun q wr => ∃ k : Nat, k ≤ d.m.ns ∧ q = .int .i64 (k : Int) ∧ Hid (J k wr)) (fun q _ => d.m.ns - (intOf q).toNat)
  case atStart => exact ⟨0, Nat.zero_le _, rfl, hid h0⟩
  case round =>
    obtain ⟨k, hk, rfl, HQ⟩ := hrel
    by_cases hlt : k < d.m.ns
    · have q1 : (k : Int) < (d.m.ns : Int) := by omega
      have q2 : (k : Int) ≤ 1024 := by omega
      have HK : Hid (k < d.m.ns) := hid hlt
      clear hlt hk n64
      have HA : Hid (∀ w1, J k w1 → Calls Tryz.prog 93 #[.pointer (some ⟨p.g, 0, none⟩), .int .i64 (k : Int)] w1 fun x w' => x = .returned (.agg (d.at k).cs.toArray) ∧ Below w1.heap.size w1 w') := hid (fun w1 h1 => dat_any w1 p d (hJ k w1 h1).1 k HK.out)
      have HSo : Hid (∀ w1, J k w1 → Calls Tryz.prog 73 #[.int .i64 (k : Int), .agg (d.at k).cs.toArray] w1 fun e W' => e = .returned (.bool (pred k)) ∧ Below w1.heap.size w1 W') := hid (fun w1 h1 => hSo k w1 HK.out h1)
      have HJ := hid (hJ k)
      have HOn := hid (hOn k)
      have HYk := hid (fun w1 (hp : pred k = true) (h1 : J k w1) => hY k w1 HK.out hp h1)
      have HNk := hid (fun w1 (hp : pred k = false) (h1 : J k w1) => hN k w1 HK.out hp h1)
      generalize (d.at k).cs.toArray = EV at *
      cases hp : pred k
      · rw [hp] at HSo
        clear HYk
        gi_wp2
        refine wpIn_region_any (by kernel_rfl) ?_
        change wpAnyIn _ _ _ _ _ _ _ _ _ (World.drew _)
        have HQ1 := hid (HOn.out _ _ HQ.out (Below.refl _ _).drew)
        have y1 := (HJ.out _ HQ1.out).2.1
        have y2 := (HJ.out _ HQ1.out).2.2
        refine wpAnyIn_take (i := 1) (oi := ⟨some 11, .move (.tmp 4), 3, "owned.go:32", #[], none⟩) (v := .int .i64 (k : Int)) rfl rfl (by kernel_rfl) (by kernel_rfl) (by kernel_rfl) (fun _ _ _ h => h) ⟨Or.inl ⟨by rfl, by intro w; go_simp⟩, fun _ => rfl⟩ ?_
        try simp only [Act.put, xzA]
        refine wpAnyIn_take (i := 3) (oi := ⟨some 13, .move (.tmp 4), 3, "owned.go:32", #[], none⟩) (v := .int .i64 (k : Int)) rfl rfl (by kernel_rfl) (by kernel_rfl) (by kernel_rfl) (fun _ _ _ h => h) ⟨Or.inl ⟨by rfl, by intro w; go_simp⟩, fun _ => rfl⟩ ?_
        try simp only [Act.put, xzA]
        refine wpAnyIn_ready (rs := [0, 2]) (by kernel_rfl) (by simp) (AllReadyIn.cons (o := ⟨some 10, .load 136 (.tmp 2), 136, "owned.go:32", #[], none⟩) rfl (fun K hK => ?_) (AllReadyIn.cons (o := ⟨some 12, .load 23 (.tmp 1), 23, "owned.go:32", #[], none⟩) rfl (fun K hK => ?_) AllReadyIn.nil))
        · go_simp
          (try (refine hK _ _ ?_; clear hK K))
          try simp only [Act.put, xzA]
          refine wpAnyIn_ready (rs := [2]) (by kernel_rfl) (by simp) (AllReadyIn.cons (o := ⟨some 12, .load 23 (.tmp 1), 23, "owned.go:32", #[], none⟩) rfl (fun K hK => ?_) AllReadyIn.nil)
          go_simp
          (try (refine hK _ _ ?_; clear hK K))
          try simp only [Act.put, xzA]
          refine wpAnyIn_ready (rs := [4]) (by kernel_rfl) (by simp) (AllReadyIn.cons (o := ⟨some 14, .call { callee := .value (.func 93), args := #[.tmp 12, .tmp 13], argTypes := #[23, 3] }, 30, "owned.go:32", #[⟨2, .data⟩, ⟨3, .data⟩], none⟩) rfl (fun K hK => ?_) AllReadyIn.nil)
          go_simp
          gi_wp2
          refine ⟨trivial, (fun h => by cases h), CallsIn.mono (callsIn_wide.2 (HA.out _ HQ1.out)) ?_⟩
          rintro x w2 ⟨rfl, hb⟩
          have HQ2 := hid (HOn.out _ _ HQ1.out hb)
          clear hb
          have z2 := (HJ.out _ HQ2.out).2.2
          clear y1 y2
          gi_wp2
          (try (refine hK _ _ ?_; clear hK K))
          try simp only [Act.put, xzA]
          refine wpAnyIn_ready (rs := [5]) (by kernel_rfl) (by simp) (AllReadyIn.cons (o := ⟨some 15, .call { callee := .value (.tmp 10), args := #[.tmp 11, .tmp 14], argTypes := #[3, 30] }, 4, "owned.go:32", #[⟨0, .data⟩, ⟨1, .data⟩, ⟨4, .data⟩, ⟨4, .chain⟩], none⟩) rfl (fun K hK => ?_) AllReadyIn.nil)
          go_simp
          gi_wp2
          refine ⟨trivial, (fun h => by cases h), CallsIn.mono (callsIn_wide.2 (HSo.out _ HQ2.out)) ?_⟩
          rintro x w3 ⟨rfl, hb⟩
          have HQ3 := hid (HOn.out _ _ HQ2.out hb)
          clear hb z2
          gi_wp2
          (try (refine hK _ _ ?_; clear hK K))
          try simp only [Act.put, xzA]
          refine wpAnyIn_take (i := 6) (oi := ⟨some 16, .move (.tmp 15), 4, "owned.go:32", #[⟨5, .data⟩, ⟨5, .chain⟩], none⟩) (v := .bool false) rfl rfl (by kernel_rfl) (by kernel_rfl) (by kernel_rfl) (fun _ _ _ h => h) ⟨Or.inl ⟨by rfl, by intro w; go_simp⟩, fun _ => rfl⟩ ?_
          try simp only [Act.put, xzA]
          refine wpAnyIn_take (i := 7) (oi := ⟨some 17, .move (.tmp 0), 156, "owned.go:32", #[⟨6, .guard⟩], some (6, true)⟩) (v := undef) rfl rfl (by kernel_rfl) (by kernel_rfl) (by kernel_rfl) (fun _ _ _ h => h) ⟨Or.inr ⟨by rfl, rfl⟩, fun _ => rfl⟩ ?_
          try simp only [Act.put, xzA]
          refine wpAnyIn_take (i := 8) (oi := ⟨some 18, .move (.tmp 4), 3, "owned.go:32", #[⟨6, .guard⟩], some (6, true)⟩) (v := undef) rfl rfl (by kernel_rfl) (by kernel_rfl) (by kernel_rfl) (fun _ _ _ h => h) ⟨Or.inr ⟨by rfl, rfl⟩, fun _ => rfl⟩ ?_
          try simp only [Act.put, xzA]
          refine wpAnyIn_ready (rs := [9]) (by kernel_rfl) (by simp) (AllReadyIn.cons (o := ⟨some 19, .call { callee := .value (.tmp 17), args := #[.tmp 18], argTypes := #[3] }, 4, "owned.go:32", #[⟨7, .data⟩, ⟨8, .data⟩, ⟨6, .chain⟩, ⟨6, .guard⟩], some (6, true)⟩) rfl (fun K hK => ?_) AllReadyIn.nil)
          refine Eq.mpr (if_neg (by intro h; exact absurd (show false = true from h) (by decide))) ?_
          refine ⟨fun f hf => trivial, ?_⟩
          (try (refine hK _ _ ?_; clear hK K))
          try simp only [Act.put, xzA]
          refine wpAnyIn_take (i := 10) (oi := ⟨some 20, .unOp .not 4 (.tmp 19), 4, "owned.go:32", #[⟨9, .data⟩, ⟨6, .guard⟩], some (6, true)⟩) (v := undef) rfl rfl (by kernel_rfl) (by kernel_rfl) (by kernel_rfl) (fun _ _ _ h => h) ⟨Or.inr ⟨by rfl, rfl⟩, fun _ => rfl⟩ ?_
          try simp only [Act.put, xzA]
          refine wpAnyIn_take (i := 11) (oi := ⟨some 21, .pick (.tmp 16) (.tmp 20) (.const (.bool false)), 4, "owned.go:32", #[⟨6, .data⟩, ⟨10, .data⟩], none⟩) (v := .bool false) rfl rfl (by kernel_rfl) (by kernel_rfl) (by kernel_rfl) (fun _ _ _ h => h) ⟨Or.inl ⟨by rfl, by intro w; go_simp⟩, fun _ => rfl⟩ ?_
          try simp only [Act.put, xzA]
          have HQ4 := hid (HNk.out _ hp HQ3.out)
          refine wpAnyIn_done (by kernel_rfl) ?_ _
          gi_wp2
          go_roundw
          case rel => exact ⟨k + 1, HK.out, by simp, HQ4⟩
          case measure => have := HK.out; simp [intOf] <;> omega
        · go_simp
          (try (refine hK _ _ ?_; clear hK K))
          try simp only [Act.put, xzA]
          refine wpAnyIn_ready (rs := [0, 4]) (by kernel_rfl) (by simp) (AllReadyIn.cons (o := ⟨some 10, .load 136 (.tmp 2), 136, "owned.go:32", #[], none⟩) rfl (fun K hK => ?_) (AllReadyIn.cons (o := ⟨some 14, .call { callee := .value (.func 93), args := #[.tmp 12, .tmp 13], argTypes := #[23, 3] }, 30, "owned.go:32", #[⟨2, .data⟩, ⟨3, .data⟩], none⟩) rfl (fun K hK => ?_) AllReadyIn.nil))
          · go_simp
            (try (refine hK _ _ ?_; clear hK K))
            try simp only [Act.put, xzA]
            refine wpAnyIn_ready (rs := [4]) (by kernel_rfl) (by simp) (AllReadyIn.cons (o := ⟨some 14, .call { callee := .value (.func 93), args := #[.tmp 12, .tmp 13], argTypes := #[23, 3] }, 30, "owned.go:32", #[⟨2, .data⟩, ⟨3, .data⟩], none⟩) rfl (fun K hK => ?_) AllReadyIn.nil)
            go_simp
            gi_wp2
            refine ⟨trivial, (fun h => by cases h), CallsIn.mono (callsIn_wide.2 (HA.out _ HQ1.out)) ?_⟩
            rintro x w2 ⟨rfl, hb⟩
            have HQ2 := hid (HOn.out _ _ HQ1.out hb)
            clear hb
            have z2 := (HJ.out _ HQ2.out).2.2
            clear y1 y2
            gi_wp2
            (try (refine hK _ _ ?_; clear hK K))
            try simp only [Act.put, xzA]
            refine wpAnyIn_ready (rs := [5]) (by kernel_rfl) (by simp) (AllReadyIn.cons (o := ⟨some 15, .call { callee := .value (.tmp 10), args := #[.tmp 11, .tmp 14], argTypes := #[3, 30] }, 4, "owned.go:32", #[⟨0, .data⟩, ⟨1, .data⟩, ⟨4, .data⟩, ⟨4, .chain⟩], none⟩) rfl (fun K hK => ?_) AllReadyIn.nil)
            go_simp
            gi_wp2
            refine ⟨trivial, (fun h => by cases h), CallsIn.mono (callsIn_wide.2 (HSo.out _ HQ2.out)) ?_⟩
            rintro x w3 ⟨rfl, hb⟩
            have HQ3 := hid (HOn.out _ _ HQ2.out hb)
            clear hb z2
            gi_wp2
            (try (refine hK _ _ ?_; clear hK K))
            try simp only [Act.put, xzA]
            refine wpAnyIn_take (i := 6) (oi := ⟨some 16, .move (.tmp 15), 4, "owned.go:32", #[⟨5, .data⟩, ⟨5, .chain⟩], none⟩) (v := .bool false) rfl rfl (by kernel_rfl) (by kernel_rfl) (by kernel_rfl) (fun _ _ _ h => h) ⟨Or.inl ⟨by rfl, by intro w; go_simp⟩, fun _ => rfl⟩ ?_
            try simp only [Act.put, xzA]
            refine wpAnyIn_take (i := 7) (oi := ⟨some 17, .move (.tmp 0), 156, "owned.go:32", #[⟨6, .guard⟩], some (6, true)⟩) (v := undef) rfl rfl (by kernel_rfl) (by kernel_rfl) (by kernel_rfl) (fun _ _ _ h => h) ⟨Or.inr ⟨by rfl, rfl⟩, fun _ => rfl⟩ ?_
            try simp only [Act.put, xzA]
            refine wpAnyIn_take (i := 8) (oi := ⟨some 18, .move (.tmp 4), 3, "owned.go:32", #[⟨6, .guard⟩], some (6, true)⟩) (v := undef) rfl rfl (by kernel_rfl) (by kernel_rfl) (by kernel_rfl) (fun _ _ _ h => h) ⟨Or.inr ⟨by rfl, rfl⟩, fun _ => rfl⟩ ?_
            try simp only [Act.put, xzA]
            refine wpAnyIn_ready (rs := [9]) (by kernel_rfl) (by simp) (AllReadyIn.cons (o := ⟨some 19, .call { callee := .value (.tmp 17), args := #[.tmp 18], argTypes := #[3] }, 4, "owned.go:32", #[⟨7, .data⟩, ⟨8, .data⟩, ⟨6, .chain⟩, ⟨6, .guard⟩], some (6, true)⟩) rfl (fun K hK => ?_) AllReadyIn.nil)
            refine Eq.mpr (if_neg (by intro h; exact absurd (show false = true from h) (by decide))) ?_
            refine ⟨fun f hf => trivial, ?_⟩
            (try (refine hK _ _ ?_; clear hK K))
            try simp only [Act.put, xzA]
            refine wpAnyIn_take (i := 10) (oi := ⟨some 20, .unOp .not 4 (.tmp 19), 4, "owned.go:32", #[⟨9, .data⟩, ⟨6, .guard⟩], some (6, true)⟩) (v := undef) rfl rfl (by kernel_rfl) (by kernel_rfl) (by kernel_rfl) (fun _ _ _ h => h) ⟨Or.inr ⟨by rfl, rfl⟩, fun _ => rfl⟩ ?_
            try simp only [Act.put, xzA]
            refine wpAnyIn_take (i := 11) (oi := ⟨some 21, .pick (.tmp 16) (.tmp 20) (.const (.bool false)), 4, "owned.go:32", #[⟨6, .data⟩, ⟨10, .data⟩], none⟩) (v := .bool false) rfl rfl (by kernel_rfl) (by kernel_rfl) (by kernel_rfl) (fun _ _ _ h => h) ⟨Or.inl ⟨by rfl, by intro w; go_simp⟩, fun _ => rfl⟩ ?_
            try simp only [Act.put, xzA]
            have HQ4 := hid (HNk.out _ hp HQ3.out)
            refine wpAnyIn_done (by kernel_rfl) ?_ _
            gi_wp2
            go_roundw
            case rel => exact ⟨k + 1, HK.out, by simp, HQ4⟩
            case measure => have := HK.out; simp [intOf] <;> omega
          · skip
            go_simp
            gi_wp2
            refine ⟨trivial, (fun h => by cases h), CallsIn.mono (callsIn_wide.2 (HA.out _ HQ1.out)) ?_⟩
            rintro x w2 ⟨rfl, hb⟩
            have HQ2 := hid (HOn.out _ _ HQ1.out hb)
            clear hb
            have z2 := (HJ.out _ HQ2.out).2.2
            clear y1 y2
            gi_wp2
            (try (refine hK _ _ ?_; clear hK K))
            try simp only [Act.put, xzA]
            refine wpAnyIn_ready (rs := [0]) (by kernel_rfl) (by simp) (AllReadyIn.cons (o := ⟨some 10, .load 136 (.tmp 2), 136, "owned.go:32", #[], none⟩) rfl (fun K hK => ?_) AllReadyIn.nil)
            go_simp
            (try (refine hK _ _ ?_; clear hK K))
            try simp only [Act.put, xzA]
            refine wpAnyIn_ready (rs := [5]) (by kernel_rfl) (by simp) (AllReadyIn.cons (o := ⟨some 15, .call { callee := .value (.tmp 10), args := #[.tmp 11, .tmp 14], argTypes := #[3, 30] }, 4, "owned.go:32", #[⟨0, .data⟩, ⟨1, .data⟩, ⟨4, .data⟩, ⟨4, .chain⟩], none⟩) rfl (fun K hK => ?_) AllReadyIn.nil)
            go_simp
            gi_wp2
            refine ⟨trivial, (fun h => by cases h), CallsIn.mono (callsIn_wide.2 (HSo.out _ HQ2.out)) ?_⟩
            rintro x w3 ⟨rfl, hb⟩
            have HQ3 := hid (HOn.out _ _ HQ2.out hb)
            clear hb z2
            gi_wp2
            (try (refine hK _ _ ?_; clear hK K))
            try simp only [Act.put, xzA]
            refine wpAnyIn_take (i := 6) (oi := ⟨some 16, .move (.tmp 15), 4, "owned.go:32", #[⟨5, .data⟩, ⟨5, .chain⟩], none⟩) (v := .bool false) rfl rfl (by kernel_rfl) (by kernel_rfl) (by kernel_rfl) (fun _ _ _ h => h) ⟨Or.inl ⟨by rfl, by intro w; go_simp⟩, fun _ => rfl⟩ ?_
            try simp only [Act.put, xzA]
            refine wpAnyIn_take (i := 7) (oi := ⟨some 17, .move (.tmp 0), 156, "owned.go:32", #[⟨6, .guard⟩], some (6, true)⟩) (v := undef) rfl rfl (by kernel_rfl) (by kernel_rfl) (by kernel_rfl) (fun _ _ _ h => h) ⟨Or.inr ⟨by rfl, rfl⟩, fun _ => rfl⟩ ?_
            try simp only [Act.put, xzA]
            refine wpAnyIn_take (i := 8) (oi := ⟨some 18, .move (.tmp 4), 3, "owned.go:32", #[⟨6, .guard⟩], some (6, true)⟩) (v := undef) rfl rfl (by kernel_rfl) (by kernel_rfl) (by kernel_rfl) (fun _ _ _ h => h) ⟨Or.inr ⟨by rfl, rfl⟩, fun _ => rfl⟩ ?_
            try simp only [Act.put, xzA]
            refine wpAnyIn_ready (rs := [9]) (by kernel_rfl) (by simp) (AllReadyIn.cons (o := ⟨some 19, .call { callee := .value (.tmp 17), args := #[.tmp 18], argTypes := #[3] }, 4, "owned.go:32", #[⟨7, .data⟩, ⟨8, .data⟩, ⟨6, .chain⟩, ⟨6, .guard⟩], some (6, true)⟩) rfl (fun K hK => ?_) AllReadyIn.nil)
            refine Eq.mpr (if_neg (by intro h; exact absurd (show false = true from h) (by decide))) ?_
            refine ⟨fun f hf => trivial, ?_⟩
            (try (refine hK _ _ ?_; clear hK K))
            try simp only [Act.put, xzA]
            refine wpAnyIn_take (i := 10) (oi := ⟨some 20, .unOp .not 4 (.tmp 19), 4, "owned.go:32", #[⟨9, .data⟩, ⟨6, .guard⟩], some (6, true)⟩) (v := undef) rfl rfl (by kernel_rfl) (by kernel_rfl) (by kernel_rfl) (fun _ _ _ h => h) ⟨Or.inr ⟨by rfl, rfl⟩, fun _ => rfl⟩ ?_
            try simp only [Act.put, xzA]
            refine wpAnyIn_take (i := 11) (oi := ⟨some 21, .pick (.tmp 16) (.tmp 20) (.const (.bool false)), 4, "owned.go:32", #[⟨6, .data⟩, ⟨10, .data⟩], none⟩) (v := .bool false) rfl rfl (by kernel_rfl) (by kernel_rfl) (by kernel_rfl) (fun _ _ _ h => h) ⟨Or.inl ⟨by rfl, by intro w; go_simp⟩, fun _ => rfl⟩ ?_
            try simp only [Act.put, xzA]
            have HQ4 := hid (HNk.out _ hp HQ3.out)
            refine wpAnyIn_done (by kernel_rfl) ?_ _
            gi_wp2
            go_roundw
            case rel => exact ⟨k + 1, HK.out, by simp, HQ4⟩
            case measure => have := HK.out; simp [intOf] <;> omega
      · rw [hp] at HSo
        clear HNk
        gi_wp2
        refine wpIn_region_any (by kernel_rfl) ?_
        change wpAnyIn _ _ _ _ _ _ _ _ _ (World.drew _)
        have HQ1 := hid (HOn.out _ _ HQ.out (Below.refl _ _).drew)
        have y1 := (HJ.out _ HQ1.out).2.1
        have y2 := (HJ.out _ HQ1.out).2.2
        refine wpAnyIn_take (i := 1) (oi := ⟨some 11, .move (.tmp 4), 3, "owned.go:32", #[], none⟩) (v := .int .i64 (k : Int)) rfl rfl (by kernel_rfl) (by kernel_rfl) (by kernel_rfl) (fun _ _ _ h => h) ⟨Or.inl ⟨by rfl, by intro w; go_simp⟩, fun _ => rfl⟩ ?_
        try simp only [Act.put, xzA]
        refine wpAnyIn_take (i := 3) (oi := ⟨some 13, .move (.tmp 4), 3, "owned.go:32", #[], none⟩) (v := .int .i64 (k : Int)) rfl rfl (by kernel_rfl) (by kernel_rfl) (by kernel_rfl) (fun _ _ _ h => h) ⟨Or.inl ⟨by rfl, by intro w; go_simp⟩, fun _ => rfl⟩ ?_
        try simp only [Act.put, xzA]
        refine wpAnyIn_ready (rs := [0, 2]) (by kernel_rfl) (by simp) (AllReadyIn.cons (o := ⟨some 10, .load 136 (.tmp 2), 136, "owned.go:32", #[], none⟩) rfl (fun K hK => ?_) (AllReadyIn.cons (o := ⟨some 12, .load 23 (.tmp 1), 23, "owned.go:32", #[], none⟩) rfl (fun K hK => ?_) AllReadyIn.nil))
        · go_simp
          (try (refine hK _ _ ?_; clear hK K))
          try simp only [Act.put, xzA]
          refine wpAnyIn_ready (rs := [2]) (by kernel_rfl) (by simp) (AllReadyIn.cons (o := ⟨some 12, .load 23 (.tmp 1), 23, "owned.go:32", #[], none⟩) rfl (fun K hK => ?_) AllReadyIn.nil)
          go_simp
          (try (refine hK _ _ ?_; clear hK K))
          try simp only [Act.put, xzA]
          refine wpAnyIn_ready (rs := [4]) (by kernel_rfl) (by simp) (AllReadyIn.cons (o := ⟨some 14, .call { callee := .value (.func 93), args := #[.tmp 12, .tmp 13], argTypes := #[23, 3] }, 30, "owned.go:32", #[⟨2, .data⟩, ⟨3, .data⟩], none⟩) rfl (fun K hK => ?_) AllReadyIn.nil)
          go_simp
          gi_wp2
          refine ⟨trivial, (fun h => by cases h), CallsIn.mono (callsIn_wide.2 (HA.out _ HQ1.out)) ?_⟩
          rintro x w2 ⟨rfl, hb⟩
          have HQ2 := hid (HOn.out _ _ HQ1.out hb)
          clear hb
          have z2 := (HJ.out _ HQ2.out).2.2
          clear y1 y2
          gi_wp2
          (try (refine hK _ _ ?_; clear hK K))
          try simp only [Act.put, xzA]
          refine wpAnyIn_ready (rs := [5]) (by kernel_rfl) (by simp) (AllReadyIn.cons (o := ⟨some 15, .call { callee := .value (.tmp 10), args := #[.tmp 11, .tmp 14], argTypes := #[3, 30] }, 4, "owned.go:32", #[⟨0, .data⟩, ⟨1, .data⟩, ⟨4, .data⟩, ⟨4, .chain⟩], none⟩) rfl (fun K hK => ?_) AllReadyIn.nil)
          go_simp
          gi_wp2
          refine ⟨trivial, (fun h => by cases h), CallsIn.mono (callsIn_wide.2 (HSo.out _ HQ2.out)) ?_⟩
          rintro x w3 ⟨rfl, hb⟩
          have HQ3 := hid (HOn.out _ _ HQ2.out hb)
          clear hb z2
          gi_wp2
          (try (refine hK _ _ ?_; clear hK K))
          try simp only [Act.put, xzA]
          refine wpAnyIn_take (i := 6) (oi := ⟨some 16, .move (.tmp 15), 4, "owned.go:32", #[⟨5, .data⟩, ⟨5, .chain⟩], none⟩) (v := .bool true) rfl rfl (by kernel_rfl) (by kernel_rfl) (by kernel_rfl) (fun _ _ _ h => h) ⟨Or.inl ⟨by rfl, by intro w; go_simp⟩, fun _ => rfl⟩ ?_
          try simp only [Act.put, xzA]
          refine wpAnyIn_take (i := 7) (oi := ⟨some 17, .move (.tmp 0), 156, "owned.go:32", #[⟨6, .guard⟩], some (6, true)⟩) (v := .func (.yield l) #[] #[]) rfl rfl (by kernel_rfl) (by kernel_rfl) (by kernel_rfl) (fun _ _ _ h => h) ⟨Or.inl ⟨by rfl, by intro w; go_simp⟩, fun _ => rfl⟩ ?_
          try simp only [Act.put, xzA]
          refine wpAnyIn_take (i := 8) (oi := ⟨some 18, .move (.tmp 4), 3, "owned.go:32", #[⟨6, .guard⟩], some (6, true)⟩) (v := .int .i64 (k : Int)) rfl rfl (by kernel_rfl) (by kernel_rfl) (by kernel_rfl) (fun _ _ _ h => h) ⟨Or.inl ⟨by rfl, by intro w; go_simp⟩, fun _ => rfl⟩ ?_
          try simp only [Act.put, xzA]
          refine wpAnyIn_ready (rs := [9]) (by kernel_rfl) (by simp) (AllReadyIn.cons (o := ⟨some 19, .call { callee := .value (.tmp 17), args := #[.tmp 18], argTypes := #[3] }, 4, "owned.go:32", #[⟨7, .data⟩, ⟨8, .data⟩, ⟨6, .chain⟩, ⟨6, .guard⟩], some (6, true)⟩) rfl (fun K hK => ?_) AllReadyIn.nil)
          obtain ⟨fn, tmps, assign, body, hy, hR⟩ := HYk.out _ hp HQ3.out
          have HR := hid hR
          clear hR
          go_simp
          gi_wp2
          refine ⟨(fun h => by cases h), RoundIn.mono HR.out ?_⟩
          rintro x w4 ⟨rfl, hJ4⟩
          have HQ4 := hid hJ4
          clear hJ4 HR hy
          gi_wp2
          (try (refine hK _ _ ?_; clear hK K))
          try simp only [Act.put, xzA]
          refine wpAnyIn_take (i := 10) (oi := ⟨some 20, .unOp .not 4 (.tmp 19), 4, "owned.go:32", #[⟨9, .data⟩, ⟨6, .guard⟩], some (6, true)⟩) (v := .bool false) rfl rfl (by kernel_rfl) (by kernel_rfl) (by kernel_rfl) (fun _ _ _ h => h) ⟨Or.inl ⟨by rfl, by intro w; go_simp⟩, fun _ => rfl⟩ ?_
          try simp only [Act.put, xzA]
          refine wpAnyIn_take (i := 11) (oi := ⟨some 21, .pick (.tmp 16) (.tmp 20) (.const (.bool false)), 4, "owned.go:32", #[⟨6, .data⟩, ⟨10, .data⟩], none⟩) (v := .bool false) rfl rfl (by kernel_rfl) (by kernel_rfl) (by kernel_rfl) (fun _ _ _ h => h) ⟨Or.inl ⟨by rfl, by intro w; go_simp⟩, fun _ => rfl⟩ ?_
          try simp only [Act.put, xzA]
          refine wpAnyIn_done (by kernel_rfl) ?_ _
          gi_wp2
          go_roundw
          case rel => exact ⟨k + 1, HK.out, by simp, HQ4⟩
          case measure => have := HK.out; simp [intOf] <;> omega
        · go_simp
          (try (refine hK _ _ ?_; clear hK K))
          try simp only [Act.put, xzA]
          refine wpAnyIn_ready (rs := [0, 4]) (by kernel_rfl) (by simp) (AllReadyIn.cons (o := ⟨some 10, .load 136 (.tmp 2), 136, "owned.go:32", #[], none⟩) rfl (fun K hK => ?_) (AllReadyIn.cons (o := ⟨some 14, .call { callee := .value (.func 93), args := #[.tmp 12, .tmp 13], argTypes := #[23, 3] }, 30, "owned.go:32", #[⟨2, .data⟩, ⟨3, .data⟩], none⟩) rfl (fun K hK => ?_) AllReadyIn.nil))
          · go_simp
            (try (refine hK _ _ ?_; clear hK K))
            try simp only [Act.put, xzA]
            refine wpAnyIn_ready (rs := [4]) (by kernel_rfl) (by simp) (AllReadyIn.cons (o := ⟨some 14, .call { callee := .value (.func 93), args := #[.tmp 12, .tmp 13], argTypes := #[23, 3] }, 30, "owned.go:32", #[⟨2, .data⟩, ⟨3, .data⟩], none⟩) rfl (fun K hK => ?_) AllReadyIn.nil)
            go_simp
            gi_wp2
            refine ⟨trivial, (fun h => by cases h), CallsIn.mono (callsIn_wide.2 (HA.out _ HQ1.out)) ?_⟩
            rintro x w2 ⟨rfl, hb⟩
            have HQ2 := hid (HOn.out _ _ HQ1.out hb)
            clear hb
            have z2 := (HJ.out _ HQ2.out).2.2
            clear y1 y2
            gi_wp2
            (try (refine hK _ _ ?_; clear hK K))
            try simp only [Act.put, xzA]
            refine wpAnyIn_ready (rs := [5]) (by kernel_rfl) (by simp) (AllReadyIn.cons (o := ⟨some 15, .call { callee := .value (.tmp 10), args := #[.tmp 11, .tmp 14], argTypes := #[3, 30] }, 4, "owned.go:32", #[⟨0, .data⟩, ⟨1, .data⟩, ⟨4, .data⟩, ⟨4, .chain⟩], none⟩) rfl (fun K hK => ?_) AllReadyIn.nil)
            go_simp
            gi_wp2
            refine ⟨trivial, (fun h => by cases h), CallsIn.mono (callsIn_wide.2 (HSo.out _ HQ2.out)) ?_⟩
            rintro x w3 ⟨rfl, hb⟩
            have HQ3 := hid (HOn.out _ _ HQ2.out hb)
            clear hb z2
            gi_wp2
            (try (refine hK _ _ ?_; clear hK K))
            try simp only [Act.put, xzA]
            refine wpAnyIn_take (i := 6) (oi := ⟨some 16, .move (.tmp 15), 4, "owned.go:32", #[⟨5, .data⟩, ⟨5, .chain⟩], none⟩) (v := .bool true) rfl rfl (by kernel_rfl) (by kernel_rfl) (by kernel_rfl) (fun _ _ _ h => h) ⟨Or.inl ⟨by rfl, by intro w; go_simp⟩, fun _ => rfl⟩ ?_
            try simp only [Act.put, xzA]
            refine wpAnyIn_take (i := 7) (oi := ⟨some 17, .move (.tmp 0), 156, "owned.go:32", #[⟨6, .guard⟩], some (6, true)⟩) (v := .func (.yield l) #[] #[]) rfl rfl (by kernel_rfl) (by kernel_rfl) (by kernel_rfl) (fun _ _ _ h => h) ⟨Or.inl ⟨by rfl, by intro w; go_simp⟩, fun _ => rfl⟩ ?_
            try simp only [Act.put, xzA]
            refine wpAnyIn_take (i := 8) (oi := ⟨some 18, .move (.tmp 4), 3, "owned.go:32", #[⟨6, .guard⟩], some (6, true)⟩) (v := .int .i64 (k : Int)) rfl rfl (by kernel_rfl) (by kernel_rfl) (by kernel_rfl) (fun _ _ _ h => h) ⟨Or.inl ⟨by rfl, by intro w; go_simp⟩, fun _ => rfl⟩ ?_
            try simp only [Act.put, xzA]
            refine wpAnyIn_ready (rs := [9]) (by kernel_rfl) (by simp) (AllReadyIn.cons (o := ⟨some 19, .call { callee := .value (.tmp 17), args := #[.tmp 18], argTypes := #[3] }, 4, "owned.go:32", #[⟨7, .data⟩, ⟨8, .data⟩, ⟨6, .chain⟩, ⟨6, .guard⟩], some (6, true)⟩) rfl (fun K hK => ?_) AllReadyIn.nil)
            obtain ⟨fn, tmps, assign, body, hy, hR⟩ := HYk.out _ hp HQ3.out
            have HR := hid hR
            clear hR
            go_simp
            gi_wp2
            refine ⟨(fun h => by cases h), RoundIn.mono HR.out ?_⟩
            rintro x w4 ⟨rfl, hJ4⟩
            have HQ4 := hid hJ4
            clear hJ4 HR hy
            gi_wp2
            (try (refine hK _ _ ?_; clear hK K))
            try simp only [Act.put, xzA]
            refine wpAnyIn_take (i := 10) (oi := ⟨some 20, .unOp .not 4 (.tmp 19), 4, "owned.go:32", #[⟨9, .data⟩, ⟨6, .guard⟩], some (6, true)⟩) (v := .bool false) rfl rfl (by kernel_rfl) (by kernel_rfl) (by kernel_rfl) (fun _ _ _ h => h) ⟨Or.inl ⟨by rfl, by intro w; go_simp⟩, fun _ => rfl⟩ ?_
            try simp only [Act.put, xzA]
            refine wpAnyIn_take (i := 11) (oi := ⟨some 21, .pick (.tmp 16) (.tmp 20) (.const (.bool false)), 4, "owned.go:32", #[⟨6, .data⟩, ⟨10, .data⟩], none⟩) (v := .bool false) rfl rfl (by kernel_rfl) (by kernel_rfl) (by kernel_rfl) (fun _ _ _ h => h) ⟨Or.inl ⟨by rfl, by intro w; go_simp⟩, fun _ => rfl⟩ ?_
            try simp only [Act.put, xzA]
            refine wpAnyIn_done (by kernel_rfl) ?_ _
            gi_wp2
            go_roundw
            case rel => exact ⟨k + 1, HK.out, by simp, HQ4⟩
            case measure => have := HK.out; simp [intOf] <;> omega
          · skip
            go_simp
            gi_wp2
            refine ⟨trivial, (fun h => by cases h), CallsIn.mono (callsIn_wide.2 (HA.out _ HQ1.out)) ?_⟩
            rintro x w2 ⟨rfl, hb⟩
            have HQ2 := hid (HOn.out _ _ HQ1.out hb)
            clear hb
            have z2 := (HJ.out _ HQ2.out).2.2
            clear y1 y2
            gi_wp2
            (try (refine hK _ _ ?_; clear hK K))
            try simp only [Act.put, xzA]
            refine wpAnyIn_ready (rs := [0]) (by kernel_rfl) (by simp) (AllReadyIn.cons (o := ⟨some 10, .load 136 (.tmp 2), 136, "owned.go:32", #[], none⟩) rfl (fun K hK => ?_) AllReadyIn.nil)
            go_simp
            (try (refine hK _ _ ?_; clear hK K))
            try simp only [Act.put, xzA]
            refine wpAnyIn_ready (rs := [5]) (by kernel_rfl) (by simp) (AllReadyIn.cons (o := ⟨some 15, .call { callee := .value (.tmp 10), args := #[.tmp 11, .tmp 14], argTypes := #[3, 30] }, 4, "owned.go:32", #[⟨0, .data⟩, ⟨1, .data⟩, ⟨4, .data⟩, ⟨4, .chain⟩], none⟩) rfl (fun K hK => ?_) AllReadyIn.nil)
            go_simp
            gi_wp2
            refine ⟨trivial, (fun h => by cases h), CallsIn.mono (callsIn_wide.2 (HSo.out _ HQ2.out)) ?_⟩
            rintro x w3 ⟨rfl, hb⟩
            have HQ3 := hid (HOn.out _ _ HQ2.out hb)
            clear hb z2
            gi_wp2
            (try (refine hK _ _ ?_; clear hK K))
            try simp only [Act.put, xzA]
            refine wpAnyIn_take (i := 6) (oi := ⟨some 16, .move (.tmp 15), 4, "owned.go:32", #[⟨5, .data⟩, ⟨5, .chain⟩], none⟩) (v := .bool true) rfl rfl (by kernel_rfl) (by kernel_rfl) (by kernel_rfl) (fun _ _ _ h => h) ⟨Or.inl ⟨by rfl, by intro w; go_simp⟩, fun _ => rfl⟩ ?_
            try simp only [Act.put, xzA]
            refine wpAnyIn_take (i := 7) (oi := ⟨some 17, .move (.tmp 0), 156, "owned.go:32", #[⟨6, .guard⟩], some (6, true)⟩) (v := .func (.yield l) #[] #[]) rfl rfl (by kernel_rfl) (by kernel_rfl) (by kernel_rfl) (fun _ _ _ h => h) ⟨Or.inl ⟨by rfl, by intro w; go_simp⟩, fun _ => rfl⟩ ?_
            try simp only [Act.put, xzA]
            refine wpAnyIn_take (i := 8) (oi := ⟨some 18, .move (.tmp 4), 3, "owned.go:32", #[⟨6, .guard⟩], some (6, true)⟩) (v := .int .i64 (k : Int)) rfl rfl (by kernel_rfl) (by kernel_rfl) (by kernel_rfl) (fun _ _ _ h => h) ⟨Or.inl ⟨by rfl, by intro w; go_simp⟩, fun _ => rfl⟩ ?_
            try simp only [Act.put, xzA]
            refine wpAnyIn_ready (rs := [9]) (by kernel_rfl) (by simp) (AllReadyIn.cons (o := ⟨some 19, .call { callee := .value (.tmp 17), args := #[.tmp 18], argTypes := #[3] }, 4, "owned.go:32", #[⟨7, .data⟩, ⟨8, .data⟩, ⟨6, .chain⟩, ⟨6, .guard⟩], some (6, true)⟩) rfl (fun K hK => ?_) AllReadyIn.nil)
            obtain ⟨fn, tmps, assign, body, hy, hR⟩ := HYk.out _ hp HQ3.out
            have HR := hid hR
            clear hR
            go_simp
            gi_wp2
            refine ⟨(fun h => by cases h), RoundIn.mono HR.out ?_⟩
            rintro x w4 ⟨rfl, hJ4⟩
            have HQ4 := hid hJ4
            clear hJ4 HR hy
            gi_wp2
            (try (refine hK _ _ ?_; clear hK K))
            try simp only [Act.put, xzA]
            refine wpAnyIn_take (i := 10) (oi := ⟨some 20, .unOp .not 4 (.tmp 19), 4, "owned.go:32", #[⟨9, .data⟩, ⟨6, .guard⟩], some (6, true)⟩) (v := .bool false) rfl rfl (by kernel_rfl) (by kernel_rfl) (by kernel_rfl) (fun _ _ _ h => h) ⟨Or.inl ⟨by rfl, by intro w; go_simp⟩, fun _ => rfl⟩ ?_
            try simp only [Act.put, xzA]
            refine wpAnyIn_take (i := 11) (oi := ⟨some 21, .pick (.tmp 16) (.tmp 20) (.const (.bool false)), 4, "owned.go:32", #[⟨6, .data⟩, ⟨10, .data⟩], none⟩) (v := .bool false) rfl rfl (by kernel_rfl) (by kernel_rfl) (by kernel_rfl) (fun _ _ _ h => h) ⟨Or.inl ⟨by rfl, by intro w; go_simp⟩, fun _ => rfl⟩ ?_
            try simp only [Act.put, xzA]
            refine wpAnyIn_done (by kernel_rfl) ?_ _
            gi_wp2
            go_roundw
            case rel => exact ⟨k + 1, HK.out, by simp, HQ4⟩
            case measure => have := HK.out; simp [intOf] <;> omega
    · have hkw : k = d.m.ns := by omega
      subst hkw
      gi_wp2
      go_end0
      exact ⟨⟨_, rfl⟩, HQ.out⟩
theorem pagesO_in (n l bd bs : Nat) (p : Dp) (d : DS) (pred : Nat → Bool) (bo : Nat) (J : Nat → World → Prop)
    (hJ : ∀ k W, J k W → DB W p d ∧ W.cell? ⟨bd, 0, none⟩ = some (.pointer (some ⟨p.g, 0, none⟩)) ∧ W.cell? ⟨bs, 0, none⟩ = some (.func (.func 136) #[] #[.pointer (some ⟨bo, 0, none⟩)]))
    (hOn : ∀ k W W', J k W → Below W.heap.size W W' → J k W')
    (hSo : ∀ k W, k < d.m.ns → J k W → Calls Tryz.prog 136 #[.int .i64 (k : Int), (d.at k).v, .pointer (some ⟨bo, 0, none⟩)] W fun e W' => e = .returned (.bool (pred k)) ∧ Below W.heap.size W W')
    (hY : ∀ k W, k < d.m.ns → pred k = true → J k W → YieldAt .wide (n - 1) Tryz.prog l #[.int .i64 (k : Int)] W (fun e W' => e = .returned (.bool true) ∧ J (k + 1) W'))
    (hN : ∀ k W, k < d.m.ns → pred k = false → J k W → J (k + 1) W)
    (W : World) (h0 : J 0 W) :
    CallsIn .wide n Tryz.prog 118 #[.func (.yield l) #[] #[], .pointer (some ⟨bd, 0, none⟩), .pointer (some ⟨bs, 0, none⟩)] W fun e W' => (∃ v, e = .returned v) ∧ J d.m.ns W' := by
  have n64 := (hJ 0 W h0).1.ok.n64
  have w0 := (hJ 0 W h0).2.1
  have HP : Hid (Calls Tryz.prog 49 #[.pointer (some ⟨p.g, 0, none⟩)] W fun x W' => x = .returned (.int .i64 (d.m.ns : Int)) ∧ W = W') := hid (pages_any W p d (hJ 0 W h0).1)
  refine callsIn_of_wp Tryz.func118 rfl trivial ?_ rfl
  simp only [Tryz.ntmps118, List.size_toArray, List.length_cons, List.length_nil, Nat.reduceAdd, Nat.reduceSub, Array.replicate_succ, Array.replicate_zero, List.push_toArray, List.append_toArray, List.nil_append, List.cons_append]
  gi_wp2
  refine ⟨trivial, (fun h => by cases h), CallsIn.mono (callsIn_wide.2 HP.out) ?_⟩
  rintro x w1 ⟨rfl, hw1⟩
  subst hw1
  clear HP
  gi_wp2
  clear w0
  gi_loopw [7] (fun q wr => ∃ k : Nat, k ≤ d.m.ns ∧ q = .int .i64 (k : Int) ∧ Hid (J k wr)) (fun q _ => d.m.ns - (intOf q).toNat)
  case atStart => exact ⟨0, Nat.zero_le _, rfl, hid h0⟩
  case round =>
    obtain ⟨k, hk, rfl, HQ⟩ := hrel
    by_cases hlt : k < d.m.ns
    · have q1 : (k : Int) < (d.m.ns : Int) := by omega
      have q2 : (k : Int) ≤ 1024 := by omega
      have HK : Hid (k < d.m.ns) := hid hlt
      clear hlt hk n64
      have HA : Hid (∀ w1, J k w1 → Calls Tryz.prog 93 #[.pointer (some ⟨p.g, 0, none⟩), .int .i64 (k : Int)] w1 fun x w' => x = .returned (.agg (d.at k).cs.toArray) ∧ Below w1.heap.size w1 w') := hid (fun w1 h1 => dat_any w1 p d (hJ k w1 h1).1 k HK.out)
      have HSo : Hid (∀ w1, J k w1 → Calls Tryz.prog 136 #[.int .i64 (k : Int), .agg (d.at k).cs.toArray, .pointer (some ⟨bo, 0, none⟩)] w1 fun e W' => e = .returned (.bool (pred k)) ∧ Below w1.heap.size w1 W') := hid (fun w1 h1 => hSo k w1 HK.out h1)
      have HJ := hid (hJ k)
      have HOn := hid (hOn k)
      have HYk := hid (fun w1 (hp : pred k = true) (h1 : J k w1) => hY k w1 HK.out hp h1)
      have HNk := hid (fun w1 (hp : pred k = false) (h1 : J k w1) => hN k w1 HK.out hp h1)
      generalize (d.at k).cs.toArray = EV at *
      cases hp : pred k
      · rw [hp] at HSo
        clear HYk
        gi_wp2
        refine wpIn_region_any (by kernel_rfl) ?_
        change wpAnyIn _ _ _ _ _ _ _ _ _ (World.drew _)
        have HQ1 := hid (HOn.out _ _ HQ.out (Below.refl _ _).drew)
        have y1 := (HJ.out _ HQ1.out).2.1
        have y2 := (HJ.out _ HQ1.out).2.2
        refine wpAnyIn_take (i := 1) (oi := ⟨some 11, .move (.tmp 4), 3, "owned.go:32", #[], none⟩) (v := .int .i64 (k : Int)) rfl rfl (by kernel_rfl) (by kernel_rfl) (by kernel_rfl) (fun _ _ _ h => h) ⟨Or.inl ⟨by rfl, by intro w; go_simp⟩, fun _ => rfl⟩ ?_
        try simp only [Act.put, xzA]
        refine wpAnyIn_take (i := 3) (oi := ⟨some 13, .move (.tmp 4), 3, "owned.go:32", #[], none⟩) (v := .int .i64 (k : Int)) rfl rfl (by kernel_rfl) (by kernel_rfl) (by kernel_rfl) (fun _ _ _ h => h) ⟨Or.inl ⟨by rfl, by intro w; go_simp⟩, fun _ => rfl⟩ ?_
        try simp only [Act.put, xzA]
        refine wpAnyIn_ready (rs := [0, 2]) (by kernel_rfl) (by simp) (AllReadyIn.cons (o := ⟨some 10, .load 136 (.tmp 2), 136, "owned.go:32", #[], none⟩) rfl (fun K hK => ?_) (AllReadyIn.cons (o := ⟨some 12, .load 23 (.tmp 1), 23, "owned.go:32", #[], none⟩) rfl (fun K hK => ?_) AllReadyIn.nil))
        · go_simp
          (try (refine hK _ _ ?_; clear hK K))
          try simp only [Act.put, xzA]
          refine wpAnyIn_ready (rs := [2]) (by kernel_rfl) (by simp) (AllReadyIn.cons (o := ⟨some 12, .load 23 (.tmp 1), 23, "owned.go:32", #[], none⟩) rfl (fun K hK => ?_) AllReadyIn.nil)
          go_simp
          (try (refine hK _ _ ?_; clear hK K))
          try simp only [Act.put, xzA]
          refine wpAnyIn_ready (rs := [4]) (by kernel_rfl) (by simp) (AllReadyIn.cons (o := ⟨some 14, .call { callee := .value (.func 93), args := #[.tmp 12, .tmp 13], argTypes := #[23, 3] }, 30, "owned.go:32", #[⟨2, .data⟩, ⟨3, .data⟩], none⟩) rfl (fun K hK => ?_) AllReadyIn.nil)
          go_simp
          gi_wp2
          refine ⟨trivial, (fun h => by cases h), CallsIn.mono (callsIn_wide.2 (HA.out _ HQ1.out)) ?_⟩
          rintro x w2 ⟨rfl, hb⟩
          have HQ2 := hid (HOn.out _ _ HQ1.out hb)
          clear hb
          have z2 := (HJ.out _ HQ2.out).2.2
          clear y1 y2
          gi_wp2
          (try (refine hK _ _ ?_; clear hK K))
          try simp only [Act.put, xzA]
          refine wpAnyIn_ready (rs := [5]) (by kernel_rfl) (by simp) (AllReadyIn.cons (o := ⟨some 15, .call { callee := .value (.tmp 10), args := #[.tmp 11, .tmp 14], argTypes := #[3, 30] }, 4, "owned.go:32", #[⟨0, .data⟩, ⟨1, .data⟩, ⟨4, .data⟩, ⟨4, .chain⟩], none⟩) rfl (fun K hK => ?_) AllReadyIn.nil)
          go_simp
          gi_wp2
          refine ⟨trivial, (fun h => by cases h), CallsIn.mono (callsIn_wide.2 (HSo.out _ HQ2.out)) ?_⟩
          rintro x w3 ⟨rfl, hb⟩
          have HQ3 := hid (HOn.out _ _ HQ2.out hb)
          clear hb z2
          gi_wp2
          (try (refine hK _ _ ?_; clear hK K))
          try simp only [Act.put, xzA]
          refine wpAnyIn_take (i := 6) (oi := ⟨some 16, .move (.tmp 15), 4, "owned.go:32", #[⟨5, .data⟩, ⟨5, .chain⟩], none⟩) (v := .bool false) rfl rfl (by kernel_rfl) (by kernel_rfl) (by kernel_rfl) (fun _ _ _ h => h) ⟨Or.inl ⟨by rfl, by intro w; go_simp⟩, fun _ => rfl⟩ ?_
          try simp only [Act.put, xzA]
          refine wpAnyIn_take (i := 7) (oi := ⟨some 17, .move (.tmp 0), 156, "owned.go:32", #[⟨6, .guard⟩], some (6, true)⟩) (v := undef) rfl rfl (by kernel_rfl) (by kernel_rfl) (by kernel_rfl) (fun _ _ _ h => h) ⟨Or.inr ⟨by rfl, rfl⟩, fun _ => rfl⟩ ?_
          try simp only [Act.put, xzA]
          refine wpAnyIn_take (i := 8) (oi := ⟨some 18, .move (.tmp 4), 3, "owned.go:32", #[⟨6, .guard⟩], some (6, true)⟩) (v := undef) rfl rfl (by kernel_rfl) (by kernel_rfl) (by kernel_rfl) (fun _ _ _ h => h) ⟨Or.inr ⟨by rfl, rfl⟩, fun _ => rfl⟩ ?_
          try simp only [Act.put, xzA]
          refine wpAnyIn_ready (rs := [9]) (by kernel_rfl) (by simp) (AllReadyIn.cons (o := ⟨some 19, .call { callee := .value (.tmp 17), args := #[.tmp 18], argTypes := #[3] }, 4, "owned.go:32", #[⟨7, .data⟩, ⟨8, .data⟩, ⟨6, .chain⟩, ⟨6, .guard⟩], some (6, true)⟩) rfl (fun K hK => ?_) AllReadyIn.nil)
          refine Eq.mpr (if_neg (by intro h; exact absurd (show false = true from h) (by decide))) ?_
          refine ⟨fun f hf => trivial, ?_⟩
          (try (refine hK _ _ ?_; clear hK K))
          try simp only [Act.put, xzA]
          refine wpAnyIn_take (i := 10) (oi := ⟨some 20, .unOp .not 4 (.tmp 19), 4, "owned.go:32", #[⟨9, .data⟩, ⟨6, .guard⟩], some (6, true)⟩) (v := undef) rfl rfl (by kernel_rfl) (by kernel_rfl) (by kernel_rfl) (fun _ _ _ h => h) ⟨Or.inr ⟨by rfl, rfl⟩, fun _ => rfl⟩ ?_
          try simp only [Act.put, xzA]
          refine wpAnyIn_take (i := 11) (oi := ⟨some 21, .pick (.tmp 16) (.tmp 20) (.const (.bool false)), 4, "owned.go:32", #[⟨6, .data⟩, ⟨10, .data⟩], none⟩) (v := .bool false) rfl rfl (by kernel_rfl) (by kernel_rfl) (by kernel_rfl) (fun _ _ _ h => h) ⟨Or.inl ⟨by rfl, by intro w; go_simp⟩, fun _ => rfl⟩ ?_
          try simp only [Act.put, xzA]
          have HQ4 := hid (HNk.out _ hp HQ3.out)
          refine wpAnyIn_done (by kernel_rfl) ?_ _
          gi_wp2
          go_roundw
          case rel => exact ⟨k + 1, HK.out, by simp, HQ4⟩
          case measure => have := HK.out; simp [intOf] <;> omega
        · go_simp
          (try (refine hK _ _ ?_; clear hK K))
          try simp only [Act.put, xzA]
          refine wpAnyIn_ready (rs := [0, 4]) (by kernel_rfl) (by simp) (AllReadyIn.cons (o := ⟨some 10, .load 136 (.tmp 2), 136, "owned.go:32", #[], none⟩) rfl (fun K hK => ?_) (AllReadyIn.cons (o := ⟨some 14, .call { callee := .value (.func 93), args := #[.tmp 12, .tmp 13], argTypes := #[23, 3] }, 30, "owned.go:32", #[⟨2, .data⟩, ⟨3, .data⟩], none⟩) rfl (fun K hK => ?_) AllReadyIn.nil))
          · go_simp
            (try (refine hK _ _ ?_; clear hK K))
            try simp only [Act.put, xzA]
            refine wpAnyIn_ready (rs := [4]) (by kernel_rfl) (by simp) (AllReadyIn.cons (o := ⟨some 14, .call { callee := .value (.func 93), args := #[.tmp 12, .tmp 13], argTypes := #[23, 3] }, 30, "owned.go:32", #[⟨2, .data⟩, ⟨3, .data⟩], none⟩) rfl (fun K hK => ?_) AllReadyIn.nil)
            go_simp
            gi_wp2
            refine ⟨trivial, (fun h => by cases h), CallsIn.mono (callsIn_wide.2 (HA.out _ HQ1.out)) ?_⟩
            rintro x w2 ⟨rfl, hb⟩
            have HQ2 := hid (HOn.out _ _ HQ1.out hb)
            clear hb
            have z2 := (HJ.out _ HQ2.out).2.2
            clear y1 y2
            gi_wp2
            (try (refine hK _ _ ?_; clear hK K))
            try simp only [Act.put, xzA]
            refine wpAnyIn_ready (rs := [5]) (by kernel_rfl) (by simp) (AllReadyIn.cons (o := ⟨some 15, .call { callee := .value (.tmp 10), args := #[.tmp 11, .tmp 14], argTypes := #[3, 30] }, 4, "owned.go:32", #[⟨0, .data⟩, ⟨1, .data⟩, ⟨4, .data⟩, ⟨4, .chain⟩], none⟩) rfl (fun K hK => ?_) AllReadyIn.nil)
            go_simp
            gi_wp2
            refine ⟨trivial, (fun h => by cases h), CallsIn.mono (callsIn_wide.2 (HSo.out _ HQ2.out)) ?_⟩
            rintro x w3 ⟨rfl, hb⟩
            have HQ3 := hid (HOn.out _ _ HQ2.out hb)
            clear hb z2
            gi_wp2
            (try (refine hK _ _ ?_; clear hK K))
            try simp only [Act.put, xzA]
            refine wpAnyIn_take (i := 6) (oi := ⟨some 16, .move (.tmp 15), 4, "owned.go:32", #[⟨5, .data⟩, ⟨5, .chain⟩], none⟩) (v := .bool false) rfl rfl (by kernel_rfl) (by kernel_rfl) (by kernel_rfl) (fun _ _ _ h => h) ⟨Or.inl ⟨by rfl, by intro w; go_simp⟩, fun _ => rfl⟩ ?_
            try simp only [Act.put, xzA]
            refine wpAnyIn_take (i := 7) (oi := ⟨some 17, .move (.tmp 0), 156, "owned.go:32", #[⟨6, .guard⟩], some (6, true)⟩) (v := undef) rfl rfl (by kernel_rfl) (by kernel_rfl) (by kernel_rfl) (fun _ _ _ h => h) ⟨Or.inr ⟨by rfl, rfl⟩, fun _ => rfl⟩ ?_
            try simp only [Act.put, xzA]
            refine wpAnyIn_take (i := 8) (oi := ⟨some 18, .move (.tmp 4), 3, "owned.go:32", #[⟨6, .guard⟩], some (6, true)⟩) (v := undef) rfl rfl (by kernel_rfl) (by kernel_rfl) (by kernel_rfl) (fun _ _ _ h => h) ⟨Or.inr ⟨by rfl, rfl⟩, fun _ => rfl⟩ ?_
            try simp only [Act.put, xzA]
            refine wpAnyIn_ready (rs := [9]) (by kernel_rfl) (by simp) (AllReadyIn.cons (o := ⟨some 19, .call { callee := .value (.tmp 17), args := #[.tmp 18], argTypes := #[3] }, 4, "owned.go:32", #[⟨7, .data⟩, ⟨8, .data⟩, ⟨6, .chain⟩, ⟨6, .guard⟩], some (6, true)⟩) rfl (fun K hK => ?_) AllReadyIn.nil)
            refine Eq.mpr (if_neg (by intro h; exact absurd (show false = true from h) (by decide))) ?_
            refine ⟨fun f hf => trivial, ?_⟩
            (try (refine hK _ _ ?_; clear hK K))
            try simp only [Act.put, xzA]
            refine wpAnyIn_take (i := 10) (oi := ⟨some 20, .unOp .not 4 (.tmp 19), 4, "owned.go:32", #[⟨9, .data⟩, ⟨6, .guard⟩], some (6, true)⟩) (v := undef) rfl rfl (by kernel_rfl) (by kernel_rfl) (by kernel_rfl) (fun _ _ _ h => h) ⟨Or.inr ⟨by rfl, rfl⟩, fun _ => rfl⟩ ?_
            try simp only [Act.put, xzA]
            refine wpAnyIn_take (i := 11) (oi := ⟨some 21, .pick (.tmp 16) (.tmp 20) (.const (.bool false)), 4, "owned.go:32", #[⟨6, .data⟩, ⟨10, .data⟩], none⟩) (v := .bool false) rfl rfl (by kernel_rfl) (by kernel_rfl) (by kernel_rfl) (fun _ _ _ h => h) ⟨Or.inl ⟨by rfl, by intro w; go_simp⟩, fun _ => rfl⟩ ?_
            try simp only [Act.put, xzA]
            have HQ4 := hid (HNk.out _ hp HQ3.out)
            refine wpAnyIn_done (by kernel_rfl) ?_ _
            gi_wp2
            go_roundw
            case rel => exact ⟨k + 1, HK.out, by simp, HQ4⟩
            case measure => have := HK.out; simp [intOf] <;> omega
          · skip
            go_simp
            gi_wp2
            refine ⟨trivial, (fun h => by cases h), CallsIn.mono (callsIn_wide.2 (HA.out _ HQ1.out)) ?_⟩
            rintro x w2 ⟨rfl, hb⟩
            have HQ2 := hid (HOn.out _ _ HQ1.out hb)
            clear hb
            have z2 := (HJ.out _ HQ2.out).2.2
            clear y1 y2
            gi_wp2
            (try (refine hK _ _ ?_; clear hK K))
            try simp only [Act.put, xzA]
            refine wpAnyIn_ready (rs := [0]) (by kernel_rfl) (by simp) (AllReadyIn.cons (o := ⟨some 10, .load 136 (.tmp 2), 136, "owned.go:32", #[], none⟩) rfl (fun K hK => ?_) AllReadyIn.nil)
            go_simp
            (try (refine hK _ _ ?_; clear hK K))
            try simp only [Act.put, xzA]
            refine wpAnyIn_ready (rs := [5]) (by kernel_rfl) (by simp) (AllReadyIn.cons (o := ⟨some 15, .call { callee := .value (.tmp 10), args := #[.tmp 11, .tmp 14], argTypes := #[3, 30] }, 4, "owned.go:32", #[⟨0, .data⟩, ⟨1, .data⟩, ⟨4, .data⟩, ⟨4, .chain⟩], none⟩) rfl (fun K hK => ?_) AllReadyIn.nil)
            go_simp
            gi_wp2
            refine ⟨trivial, (fun h => by cases h), CallsIn.mono (callsIn_wide.2 (HSo.out _ HQ2.out)) ?_⟩
            rintro x w3 ⟨rfl, hb⟩
            have HQ3 := hid (HOn.out _ _ HQ2.out hb)
            clear hb z2
            gi_wp2
            (try (refine hK _ _ ?_; clear hK K))
            try simp only [Act.put, xzA]
            refine wpAnyIn_take (i := 6) (oi := ⟨some 16, .move (.tmp 15), 4, "owned.go:32", #[⟨5, .data⟩, ⟨5, .chain⟩], none⟩) (v := .bool false) rfl rfl (by kernel_rfl) (by kernel_rfl) (by kernel_rfl) (fun _ _ _ h => h) ⟨Or.inl ⟨by rfl, by intro w; go_simp⟩, fun _ => rfl⟩ ?_
            try simp only [Act.put, xzA]
            refine wpAnyIn_take (i := 7) (oi := ⟨some 17, .move (.tmp 0), 156, "owned.go:32", #[⟨6, .guard⟩], some (6, true)⟩) (v := undef) rfl rfl (by kernel_rfl) (by kernel_rfl) (by kernel_rfl) (fun _ _ _ h => h) ⟨Or.inr ⟨by rfl, rfl⟩, fun _ => rfl⟩ ?_
            try simp only [Act.put, xzA]
            refine wpAnyIn_take (i := 8) (oi := ⟨some 18, .move (.tmp 4), 3, "owned.go:32", #[⟨6, .guard⟩], some (6, true)⟩) (v := undef) rfl rfl (by kernel_rfl) (by kernel_rfl) (by kernel_rfl) (fun _ _ _ h => h) ⟨Or.inr ⟨by rfl, rfl⟩, fun _ => rfl⟩ ?_
            try simp only [Act.put, xzA]
            refine wpAnyIn_ready (rs := [9]) (by kernel_rfl) (by simp) (AllReadyIn.cons (o := ⟨some 19, .call { callee := .value (.tmp 17), args := #[.tmp 18], argTypes := #[3] }, 4, "owned.go:32", #[⟨7, .data⟩, ⟨8, .data⟩, ⟨6, .chain⟩, ⟨6, .guard⟩], some (6, true)⟩) rfl (fun K hK => ?_) AllReadyIn.nil)
            refine Eq.mpr (if_neg (by intro h; exact absurd (show false = true from h) (by decide))) ?_
            refine ⟨fun f hf => trivial, ?_⟩
            (try (refine hK _ _ ?_; clear hK K))
            try simp only [Act.put, xzA]
            refine wpAnyIn_take (i := 10) (oi := ⟨some 20, .unOp .not 4 (.tmp 19), 4, "owned.go:32", #[⟨9, .data⟩, ⟨6, .guard⟩], some (6, true)⟩) (v := undef) rfl rfl (by kernel_rfl) (by kernel_rfl) (by kernel_rfl) (fun _ _ _ h => h) ⟨Or.inr ⟨by rfl, rfl⟩, fun _ => rfl⟩ ?_
            try simp only [Act.put, xzA]
            refine wpAnyIn_take (i := 11) (oi := ⟨some 21, .pick (.tmp 16) (.tmp 20) (.const (.bool false)), 4, "owned.go:32", #[⟨6, .data⟩, ⟨10, .data⟩], none⟩) (v := .bool false) rfl rfl (by kernel_rfl) (by kernel_rfl) (by kernel_rfl) (fun _ _ _ h => h) ⟨Or.inl ⟨by rfl, by intro w; go_simp⟩, fun _ => rfl⟩ ?_
            try simp only [Act.put, xzA]
            have HQ4 := hid (HNk.out _ hp HQ3.out)
            refine wpAnyIn_done (by kernel_rfl) ?_ _
            gi_wp2
            go_roundw
            case rel => exact ⟨k + 1, HK.out, by simp, HQ4⟩
            case measure => have := HK.out; simp [intOf] <;> omega
      · rw [hp] at HSo
        clear HNk
        gi_wp2
        refine wpIn_region_any (by kernel_rfl) ?_
        change wpAnyIn _ _ _ _ _ _ _ _ _ (World.drew _)
        have HQ1 := hid (HOn.out _ _ HQ.out (Below.refl _ _).drew)
        have y1 := (HJ.out _ HQ1.out).2.1
        have y2 := (HJ.out _ HQ1.out).2.2
        refine wpAnyIn_take (i := 1) (oi := ⟨some 11, .move (.tmp 4), 3, "owned.go:32", #[], none⟩) (v := .int .i64 (k : Int)) rfl rfl (by kernel_rfl) (by kernel_rfl) (by kernel_rfl) (fun _ _ _ h => h) ⟨Or.inl ⟨by rfl, by intro w; go_simp⟩, fun _ => rfl⟩ ?_
        try simp only [Act.put, xzA]
        refine wpAnyIn_take (i := 3) (oi := ⟨some 13, .move (.tmp 4), 3, "owned.go:32", #[], none⟩) (v := .int .i64 (k : Int)) rfl rfl (by kernel_rfl) (by kernel_rfl) (by kernel_rfl) (fun _ _ _ h => h) ⟨Or.inl ⟨by rfl, by intro w; go_simp⟩, fun _ => rfl⟩ ?_
        try simp only [Act.put, xzA]
        refine wpAnyIn_ready (rs := [0, 2]) (by kernel_rfl) (by simp) (AllReadyIn.cons (o := ⟨some 10, .load 136 (.tmp 2), 136, "owned.go:32", #[], none⟩) rfl (fun K hK => ?_) (AllReadyIn.cons (o := ⟨some 12, .load 23 (.tmp 1), 23, "owned.go:32", #[], none⟩) rfl (fun K hK => ?_) AllReadyIn.nil))
        · go_simp
          (try (refine hK _ _ ?_; clear hK K))
          try simp only [Act.put, xzA]
          refine wpAnyIn_ready (rs := [2]) (by kernel_rfl) (by simp) (AllReadyIn.cons (o := ⟨some 12, .load 23 (.tmp 1), 23, "owned.go:32", #[], none⟩) rfl (fun K hK => ?_) AllReadyIn.nil)
          go_simp
          (try (refine hK _ _ ?_; clear hK K))
          try simp only [Act.put, xzA]
          refine wpAnyIn_ready (rs := [4]) (by kernel_rfl) (by simp) (AllReadyIn.cons (o := ⟨some 14, .call { callee := .value (.func 93), args := #[.tmp 12, .tmp 13], argTypes := #[23, 3] }, 30, "owned.go:32", #[⟨2, .data⟩, ⟨3, .data⟩], none⟩) rfl (fun K hK => ?_) AllReadyIn.nil)
          go_simp
          gi_wp2
          refine ⟨trivial, (fun h => by cases h), CallsIn.mono (callsIn_wide.2 (HA.out _ HQ1.out)) ?_⟩
          rintro x w2 ⟨rfl, hb⟩
          have HQ2 := hid (HOn.out _ _ HQ1.out hb)
          clear hb
          have z2 := (HJ.out _ HQ2.out).2.2
          clear y1 y2
          gi_wp2
          (try (refine hK _ _ ?_; clear hK K))
          try simp only [Act.put, xzA]
          refine wpAnyIn_ready (rs := [5]) (by kernel_rfl) (by simp) (AllReadyIn.cons (o := ⟨some 15, .call { callee := .value (.tmp 10), args := #[.tmp 11, .tmp 14], argTypes := #[3, 30] }, 4, "owned.go:32", #[⟨0, .data⟩, ⟨1, .data⟩, ⟨4, .data⟩, ⟨4, .chain⟩], none⟩) rfl (fun K hK => ?_) AllReadyIn.nil)
          go_simp
          gi_wp2
          refine ⟨trivial, (fun h => by cases h), CallsIn.mono (callsIn_wide.2 (HSo.out _ HQ2.out)) ?_⟩
          rintro x w3 ⟨rfl, hb⟩
          have HQ3 := hid (HOn.out _ _ HQ2.out hb)
          clear hb z2
          gi_wp2
          (try (refine hK _ _ ?_; clear hK K))
          try simp only [Act.put, xzA]
          refine wpAnyIn_take (i := 6) (oi := ⟨some 16, .move (.tmp 15), 4, "owned.go:32", #[⟨5, .data⟩, ⟨5, .chain⟩], none⟩) (v := .bool true) rfl rfl (by kernel_rfl) (by kernel_rfl) (by kernel_rfl) (fun _ _ _ h => h) ⟨Or.inl ⟨by rfl, by intro w; go_simp⟩, fun _ => rfl⟩ ?_
          try simp only [Act.put, xzA]
          refine wpAnyIn_take (i := 7) (oi := ⟨some 17, .move (.tmp 0), 156, "owned.go:32", #[⟨6, .guard⟩], some (6, true)⟩) (v := .func (.yield l) #[] #[]) rfl rfl (by kernel_rfl) (by kernel_rfl) (by kernel_rfl) (fun _ _ _ h => h) ⟨Or.inl ⟨by rfl, by intro w; go_simp⟩, fun _ => rfl⟩ ?_
          try simp only [Act.put, xzA]
          refine wpAnyIn_take (i := 8) (oi := ⟨some 18, .move (.tmp 4), 3, "owned.go:32", #[⟨6, .guard⟩], some (6, true)⟩) (v := .int .i64 (k : Int)) rfl rfl (by kernel_rfl) (by kernel_rfl) (by kernel_rfl) (fun _ _ _ h => h) ⟨Or.inl ⟨by rfl, by intro w; go_simp⟩, fun _ => rfl⟩ ?_
          try simp only [Act.put, xzA]
          refine wpAnyIn_ready (rs := [9]) (by kernel_rfl) (by simp) (AllReadyIn.cons (o := ⟨some 19, .call { callee := .value (.tmp 17), args := #[.tmp 18], argTypes := #[3] }, 4, "owned.go:32", #[⟨7, .data⟩, ⟨8, .data⟩, ⟨6, .chain⟩, ⟨6, .guard⟩], some (6, true)⟩) rfl (fun K hK => ?_) AllReadyIn.nil)
          obtain ⟨fn, tmps, assign, body, hy, hR⟩ := HYk.out _ hp HQ3.out
          have HR := hid hR
          clear hR
          go_simp
          gi_wp2
          refine ⟨(fun h => by cases h), RoundIn.mono HR.out ?_⟩
          rintro x w4 ⟨rfl, hJ4⟩
          have HQ4 := hid hJ4
          clear hJ4 HR hy
          gi_wp2
          (try (refine hK _ _ ?_; clear hK K))
          try simp only [Act.put, xzA]
          refine wpAnyIn_take (i := 10) (oi := ⟨some 20, .unOp .not 4 (.tmp 19), 4, "owned.go:32", #[⟨9, .data⟩, ⟨6, .guard⟩], some (6, true)⟩) (v := .bool false) rfl rfl (by kernel_rfl) (by kernel_rfl) (by kernel_rfl) (fun _ _ _ h => h) ⟨Or.inl ⟨by rfl, by intro w; go_simp⟩, fun _ => rfl⟩ ?_
          try simp only [Act.put, xzA]
          refine wpAnyIn_take (i := 11) (oi := ⟨some 21, .pick (.tmp 16) (.tmp 20) (.const (.bool false)), 4, "owned.go:32", #[⟨6, .data⟩, ⟨10, .data⟩], none⟩) (v := .bool false) rfl rfl (by kernel_rfl) (by kernel_rfl) (by kernel_rfl) (fun _ _ _ h => h) ⟨Or.inl ⟨by rfl, by intro w; go_simp⟩, fun _ => rfl⟩ ?_
          try simp only [Act.put, xzA]
          refine wpAnyIn_done (by kernel_rfl) ?_ _
          gi_wp2
          go_roundw
          case rel => exact ⟨k + 1, HK.out, by simp, HQ4⟩
          case measure => have := HK.out; simp [intOf] <;> omega
        · go_simp
          (try (refine hK _ _ ?_; clear hK K))
          try simp only [Act.put, xzA]
          refine wpAnyIn_ready (rs := [0, 4]) (by kernel_rfl) (by simp) (AllReadyIn.cons (o := ⟨some 10, .load 136 (.tmp 2), 136, "owned.go:32", #[], none⟩) rfl (fun K hK => ?_) (AllReadyIn.cons (o := ⟨some 14, .call { callee := .value (.func 93), args := #[.tmp 12, .tmp 13], argTypes := #[23, 3] }, 30, "owned.go:32", #[⟨2, .data⟩, ⟨3, .data⟩], none⟩) rfl (fun K hK => ?_) AllReadyIn.nil))
          · go_simp
            (try (refine hK _ _ ?_; clear hK K))
            try simp only [Act.put, xzA]
            refine wpAnyIn_ready (rs := [4]) (by kernel_rfl) (by simp) (AllReadyIn.cons (o := ⟨some 14, .call { callee := .value (.func 93), args := #[.tmp 12, .tmp 13], argTypes := #[23, 3] }, 30, "owned.go:32", #[⟨2, .data⟩, ⟨3, .data⟩], none⟩) rfl (fun K hK => ?_) AllReadyIn.nil)
            go_simp
            gi_wp2
            refine ⟨trivial, (fun h => by cases h), CallsIn.mono (callsIn_wide.2 (HA.out _ HQ1.out)) ?_⟩
            rintro x w2 ⟨rfl, hb⟩
            have HQ2 := hid (HOn.out _ _ HQ1.out hb)
            clear hb
            have z2 := (HJ.out _ HQ2.out).2.2
            clear y1 y2
            gi_wp2
            (try (refine hK _ _ ?_; clear hK K))
            try simp only [Act.put, xzA]
            refine wpAnyIn_ready (rs := [5]) (by kernel_rfl) (by simp) (AllReadyIn.cons (o := ⟨some 15, .call { callee := .value (.tmp 10), args := #[.tmp 11, .tmp 14], argTypes := #[3, 30] }, 4, "owned.go:32", #[⟨0, .data⟩, ⟨1, .data⟩, ⟨4, .data⟩, ⟨4, .chain⟩], none⟩) rfl (fun K hK => ?_) AllReadyIn.nil)
            go_simp
            gi_wp2
            refine ⟨trivial, (fun h => by cases h), CallsIn.mono (callsIn_wide.2 (HSo.out _ HQ2.out)) ?_⟩
            rintro x w3 ⟨rfl, hb⟩
            have HQ3 := hid (HOn.out _ _ HQ2.out hb)
            clear hb z2
            gi_wp2
            (try (refine hK _ _ ?_; clear hK K))
            try simp only [Act.put, xzA]
            refine wpAnyIn_take (i := 6) (oi := ⟨some 16, .move (.tmp 15), 4, "owned.go:32", #[⟨5, .data⟩, ⟨5, .chain⟩], none⟩) (v := .bool true) rfl rfl (by kernel_rfl) (by kernel_rfl) (by kernel_rfl) (fun _ _ _ h => h) ⟨Or.inl ⟨by rfl, by intro w; go_simp⟩, fun _ => rfl⟩ ?_
            try simp only [Act.put, xzA]
            refine wpAnyIn_take (i := 7) (oi := ⟨some 17, .move (.tmp 0), 156, "owned.go:32", #[⟨6, .guard⟩], some (6, true)⟩) (v := .func (.yield l) #[] #[]) rfl rfl (by kernel_rfl) (by kernel_rfl) (by kernel_rfl) (fun _ _ _ h => h) ⟨Or.inl ⟨by rfl, by intro w; go_simp⟩, fun _ => rfl⟩ ?_
            try simp only [Act.put, xzA]
            refine wpAnyIn_take (i := 8) (oi := ⟨some 18, .move (.tmp 4), 3, "owned.go:32", #[⟨6, .guard⟩], some (6, true)⟩) (v := .int .i64 (k : Int)) rfl rfl (by kernel_rfl) (by kernel_rfl) (by kernel_rfl) (fun _ _ _ h => h) ⟨Or.inl ⟨by rfl, by intro w; go_simp⟩, fun _ => rfl⟩ ?_
            try simp only [Act.put, xzA]
            refine wpAnyIn_ready (rs := [9]) (by kernel_rfl) (by simp) (AllReadyIn.cons (o := ⟨some 19, .call { callee := .value (.tmp 17), args := #[.tmp 18], argTypes := #[3] }, 4, "owned.go:32", #[⟨7, .data⟩, ⟨8, .data⟩, ⟨6, .chain⟩, ⟨6, .guard⟩], some (6, true)⟩) rfl (fun K hK => ?_) AllReadyIn.nil)
            obtain ⟨fn, tmps, assign, body, hy, hR⟩ := HYk.out _ hp HQ3.out
            have HR := hid hR
            clear hR
            go_simp
            gi_wp2
            refine ⟨(fun h => by cases h), RoundIn.mono HR.out ?_⟩
            rintro x w4 ⟨rfl, hJ4⟩
            have HQ4 := hid hJ4
            clear hJ4 HR hy
            gi_wp2
            (try (refine hK _ _ ?_; clear hK K))
            try simp only [Act.put, xzA]
            refine wpAnyIn_take (i := 10) (oi := ⟨some 20, .unOp .not 4 (.tmp 19), 4, "owned.go:32", #[⟨9, .data⟩, ⟨6, .guard⟩], some (6, true)⟩) (v := .bool false) rfl rfl (by kernel_rfl) (by kernel_rfl) (by kernel_rfl) (fun _ _ _ h => h) ⟨Or.inl ⟨by rfl, by intro w; go_simp⟩, fun _ => rfl⟩ ?_
            try simp only [Act.put, xzA]
            refine wpAnyIn_take (i := 11) (oi := ⟨some 21, .pick (.tmp 16) (.tmp 20) (.const (.bool false)), 4, "owned.go:32", #[⟨6, .data⟩, ⟨10, .data⟩], none⟩) (v := .bool false) rfl rfl (by kernel_rfl) (by kernel_rfl) (by kernel_rfl) (fun _ _ _ h => h) ⟨Or.inl ⟨by rfl, by intro w; go_simp⟩, fun _ => rfl⟩ ?_
            try simp only [Act.put, xzA]
            refine wpAnyIn_done (by kernel_rfl) ?_ _
            gi_wp2
            go_roundw
            case rel => exact ⟨k + 1, HK.out, by simp, HQ4⟩
            case measure => have := HK.out; simp [intOf] <;> omega
          · skip
            go_simp
            gi_wp2
            refine ⟨trivial, (fun h => by cases h), CallsIn.mono (callsIn_wide.2 (HA.out _ HQ1.out)) ?_⟩
            rintro x w2 ⟨rfl, hb⟩
            have HQ2 := hid (HOn.out _ _ HQ1.out hb)
            clear hb
            have z2 := (HJ.out _ HQ2.out).2.2
            clear y1 y2
            gi_wp2
            (try (refine hK _ _ ?_; clear hK K))
            try simp only [Act.put, xzA]
            refine wpAnyIn_ready (rs := [0]) (by kernel_rfl) (by simp) (AllReadyIn.cons (o := ⟨some 10, .load 136 (.tmp 2), 136, "owned.go:32", #[], none⟩) rfl (fun K hK => ?_) AllReadyIn.nil)
            go_simp
            (try (refine hK _ _ ?_; clear hK K))
            try simp only [Act.put, xzA]
            refine wpAnyIn_ready (rs := [5]) (by kernel_rfl) (by simp) (AllReadyIn.cons (o := ⟨some 15, .call { callee := .value (.tmp 10), args := #[.tmp 11, .tmp 14], argTypes := #[3, 30] }, 4, "owned.go:32", #[⟨0, .data⟩, ⟨1, .data⟩, ⟨4, .data⟩, ⟨4, .chain⟩], none⟩) rfl (fun K hK => ?_) AllReadyIn.nil)
            go_simp
            gi_wp2
            refine ⟨trivial, (fun h => by cases h), CallsIn.mono (callsIn_wide.2 (HSo.out _ HQ2.out)) ?_⟩
            rintro x w3 ⟨rfl, hb⟩
            have HQ3 := hid (HOn.out _ _ HQ2.out hb)
            clear hb z2
            gi_wp2
            (try (refine hK _ _ ?_; clear hK K))
            try simp only [Act.put, xzA]
            refine wpAnyIn_take (i := 6) (oi := ⟨some 16, .move (.tmp 15), 4, "owned.go:32", #[⟨5, .data⟩, ⟨5, .chain⟩], none⟩) (v := .bool true) rfl rfl (by kernel_rfl) (by kernel_rfl) (by kernel_rfl) (fun _ _ _ h => h) ⟨Or.inl ⟨by rfl, by intro w; go_simp⟩, fun _ => rfl⟩ ?_
            try simp only [Act.put, xzA]
            refine wpAnyIn_take (i := 7) (oi := ⟨some 17, .move (.tmp 0), 156, "owned.go:32", #[⟨6, .guard⟩], some (6, true)⟩) (v := .func (.yield l) #[] #[]) rfl rfl (by kernel_rfl) (by kernel_rfl) (by kernel_rfl) (fun _ _ _ h => h) ⟨Or.inl ⟨by rfl, by intro w; go_simp⟩, fun _ => rfl⟩ ?_
            try simp only [Act.put, xzA]
            refine wpAnyIn_take (i := 8) (oi := ⟨some 18, .move (.tmp 4), 3, "owned.go:32", #[⟨6, .guard⟩], some (6, true)⟩) (v := .int .i64 (k : Int)) rfl rfl (by kernel_rfl) (by kernel_rfl) (by kernel_rfl) (fun _ _ _ h => h) ⟨Or.inl ⟨by rfl, by intro w; go_simp⟩, fun _ => rfl⟩ ?_
            try simp only [Act.put, xzA]
            refine wpAnyIn_ready (rs := [9]) (by kernel_rfl) (by simp) (AllReadyIn.cons (o := ⟨some 19, .call { callee := .value (.tmp 17), args := #[.tmp 18], argTypes := #[3] }, 4, "owned.go:32", #[⟨7, .data⟩, ⟨8, .data⟩, ⟨6, .chain⟩, ⟨6, .guard⟩], some (6, true)⟩) rfl (fun K hK => ?_) AllReadyIn.nil)
            obtain ⟨fn, tmps, assign, body, hy, hR⟩ := HYk.out _ hp HQ3.out
            have HR := hid hR
            clear hR
            go_simp
            gi_wp2
            refine ⟨(fun h => by cases h), RoundIn.mono HR.out ?_⟩
            rintro x w4 ⟨rfl, hJ4⟩
            have HQ4 := hid hJ4
            clear hJ4 HR hy
            gi_wp2
            (try (refine hK _ _ ?_; clear hK K))
            try simp only [Act.put, xzA]
            refine wpAnyIn_take (i := 10) (oi := ⟨some 20, .unOp .not 4 (.tmp 19), 4, "owned.go:32", #[⟨9, .data⟩, ⟨6, .guard⟩], some (6, true)⟩) (v := .bool false) rfl rfl (by kernel_rfl) (by kernel_rfl) (by kernel_rfl) (fun _ _ _ h => h) ⟨Or.inl ⟨by rfl, by intro w; go_simp⟩, fun _ => rfl⟩ ?_
            try simp only [Act.put, xzA]
            refine wpAnyIn_take (i := 11) (oi := ⟨some 21, .pick (.tmp 16) (.tmp 20) (.const (.bool false)), 4, "owned.go:32", #[⟨6, .data⟩, ⟨10, .data⟩], none⟩) (v := .bool false) rfl rfl (by kernel_rfl) (by kernel_rfl) (by kernel_rfl) (fun _ _ _ h => h) ⟨Or.inl ⟨by rfl, by intro w; go_simp⟩, fun _ => rfl⟩ ?_
            try simp only [Act.put, xzA]
            refine wpAnyIn_done (by kernel_rfl) ?_ _
            gi_wp2
            go_roundw
            case rel => exact ⟨k + 1, HK.out, by simp, HQ4⟩
            case measure => have := HK.out; simp [intOf] <;> omega
    · have hkw : k = d.m.ns := by omega
      subst hkw
      gi_wp2
      go_end0
      exact ⟨⟨_, rfl⟩, HQ.out⟩
end Go.Proofs.YtdfnbcbnmiohnaaGreatDoor
namespace Go.Proofs.YtdfnbcbnmiohnaaGreatDoor
open Go.RowKit Go.Shelf
set_option maxHeartbeats 2000000
set_option maxRecDepth 100000
attribute [local go_sem] Oper.semAt_some
theorem cntN_le (f : Nat → Bool) (k : Nat) : cntN f k ≤ k := by
  induction k with
  | zero => exact Nat.le_refl _
  | succ k ih => rw [cntN]; split <;> omega
structure FJ (w W : World) (p : Dp) (d : DS) (gc bd bs L D : Nat) (r : Loop) (so : Value) (c : Int) : Prop where
  db : DB W p d
  but : Below w.heap.size w W
  cd : Ob W bd (box (.pointer (some ⟨p.g, 0, none⟩)) 23)
  cs : Ob W bs (box so 136)
  l : Ob W L (.loop r)
  d : Ob W D (.deferred (some []))
  cnt : Ob W gc (box (.int .i64 c) 3)
theorem FJ.on {w W W' : World} {p : Dp} {d : DS} {gc bd bs L D : Nat} {r : Loop} {so : Value} {c : Int} (h : FJ w W p d gc bd bs L D r so c) (hb : Below W.heap.size W W') : FJ w W' p d gc bd bs L D r so c :=
  ⟨h.db.on hb, below_on h.but hb, h.cd.on hb, h.cs.on hb, h.l.on hb, h.d.on hb, h.cnt.on hb⟩
theorem free_in (n : Nat) (w : World) (p : Dp) (d : DS) (h : DB w p d) :
    CallsIn .wide n Tryz.prog 32 #[.pointer (some ⟨p.g, 0, none⟩)] w fun x w' => x = .returned (.int .i64 (d.free : Int)) ∧ Below w.heap.size w w' := by
  have n64 := h.ok.n64
  have HD := hid (h.on (below_one w (.cells #[.int .i64 0] 3)))
  have HC : Hid (Ob (w.alloc (.cells #[.int .i64 0] 3)) w.heap.size (box (.int .i64 0) 3)) := hid (heap_alloc_new _ _)
  have HB := hid (below_one w (.cells #[.int .i64 0] 3))
  have HLt := hid h.lt
  clear h
  refine callsIn_of_wp_marks Tryz.func32 rfl trivial ?_ rfl
  simp only [Tryz.ntmps32, List.size_toArray, List.length_cons, List.length_nil, Nat.reduceAdd, Nat.reduceSub, Array.replicate_succ, Array.replicate_zero, List.push_toArray, List.append_toArray, List.nil_append, List.cons_append]
  gi_wp2
  generalize hX : w.alloc _ = X at *
  clear hX
  refine ⟨trivial, (fun h => by cases h), CallsIn.mono (callsIn_wide.2 (pagesf_any _ _ _ _)) ?_⟩
  rintro x w3 ⟨bd, bs, rfl, hcd, hcs, ld, ls, hb3⟩
  have hxs := HB.out.size
  have hgX := HC.out.lt
  have HD3 := hid (HD.out.on hb3)
  have HC3 := hid (HC.out.on hb3)
  have HB3 := hid (below_on HB.out hb3)
  have HCD := hid hcd
  have HCS := hid hcs
  clear hb3 hcd hcs HD HC HB
  gi_wp2
  generalize hgc : w.heap.size = gc at HC3 hgX ⊢
  have HGC := hid hgc
  clear hgc
  refine range_out rfl rfl (gf := 118) (lb := #[.pointer (some ⟨bd, 0, none⟩), .pointer (some ⟨bs, 0, none⟩)]) rfl trivial (enters_of Tryz.func118 (by kernel_rfl) rfl) ?_
  intro fn hfn
  generalize hr0 : recOf fn _ _ _ _ _ = r0
  have hW1 : Below w3.heap.size w3 ((w3.alloc (.deferred (some []))).alloc (.loop r0)) := below_on (below_one _ _) (below_one _ _)
  have hD : Ob ((w3.alloc (.deferred (some []))).alloc (.loop r0)) w3.heap.size (.deferred (some [])) := Ob.on (heap_alloc_new w3 _) (below_one _ _)
  have hL : Ob ((w3.alloc (.deferred (some []))).alloc (.loop r0)) (w3.heap.size + 1) (.loop r0) := by
    have := heap_alloc_new (w3.alloc (.deferred (some []))) (.loop r0)
    rw [World.size_alloc] at this
    exact this
  generalize (w3.alloc (.deferred (some []))).alloc (.loop r0) = W1 at *
  have hs3 := HB3.out.size
  have hJ0 : FJ w W1 p d gc bd bs (w3.heap.size + 1) w3.heap.size r0 (.func (.func 73) #[] #[]) ((cntN (fun k => isF (d.at k)) 0 : Nat) : Int) := ⟨HD3.out.on hW1, below_on HB3.out hW1, HCD.out.on hW1, HCS.out.on hW1, hL, hD, HC3.out.on hW1⟩
  refine CallsIn.mono (pagesF_in (n - 1) (w3.heap.size + 1) bd bs p d (fun k => isF (d.at k)) (fun k W => FJ w W p d gc bd bs (w3.heap.size + 1) w3.heap.size r0 (.func (.func 73) #[] #[]) ((cntN (fun k => isF (d.at k)) k : Nat) : Int)) ?hJ ?hOn ?hSo ?hY ?hN W1 hJ0) ?post
  case hJ => exact fun k W hj => ⟨hj.db, hj.cd.cell, hj.cs.cell⟩
  case hOn => exact fun k W W' hj hb => hj.on hb
  case hSo => exact fun k W _ _ => isFree_any W _ _
  case hN =>
    intro k W _ hp hj
    rw [cntN, hp]
    exact hj
  case post =>
    rintro e W2 ⟨⟨v, rfl⟩, hj⟩
    refine ⟨⟨v, rfl⟩, hj.l, ?_⟩
    have hne : gc ≠ w3.heap.size + 1 := hj.cnt.ne hj.l (fun h => by cases h)
    have hv3 : Ob (W2.putObj (w3.heap.size + 1) (.loop { r0 with state := .exhausted })) gc (box (.int .i64 (d.free : Int)) 3) := (World.putObj_heap_other hne).trans hj.cnt
    have hd3 : Ob (W2.putObj (w3.heap.size + 1) (.loop { r0 with state := .exhausted })) w3.heap.size (.deferred (some [])) := (World.putObj_heap_other (by omega)).trans hj.d
    have hb4 : Below w.heap.size w (W2.putObj (w3.heap.size + 1) (.loop { r0 with state := .exhausted })) := hj.but.trans ((putObj_but W2 (w3.heap.size + 1) (.loop { r0 with state := .exhausted })).below (by simp; omega) hj.but.size)
    generalize W2.putObj (w3.heap.size + 1) (.loop { r0 with state := .exhausted }) = W3 at *
    have y0 := hv3.cell
    have hb5 : Below w.heap.size w (W3.putObj w3.heap.size (.deferred none)) := hb4.trans ((putObj_but W3 w3.heap.size (.deferred none)).below (by simp; omega) hb4.size)
    gi_wp2
    refine ⟨by simp, .inl ⟨_, _, rfl, run_takeDeferred hd3, ?_⟩⟩
    exact ⟨_, results_tmp rfl _ _ _, rfl, hb5⟩
  case hY =>
    intro k W hk hp hj
    refine yield_b (r := r0) hj.l (by rw [← hr0]; rfl) (by rw [← hr0]; rfl) (by rw [← hr0]; rfl) ?_
    rw [← congrArg Loop.assign hr0, ← congrArg Loop.body hr0, ← congrArg Loop.params hr0, ← congrArg Loop.tmps hr0]
    dsimp only [recOf]
    have hcl := cntN_le (fun k => isF (d.at k)) k
    have HE : Hid (((cntN (fun k => isF (d.at k)) (k + 1) : Nat) : Int) = ((cntN (fun k => isF (d.at k)) k : Nat) : Int) + 1) := hid (by rw [cntN, if_pos hp]; push_cast; rfl)
    generalize cntN (fun k => isF (d.at k)) (k + 1) = c1 at *
    generalize cntN (fun k => isF (d.at k)) k = c0 at *
    have hwr : wrap64 ((c0 : Int) + 1) = (c0 : Int) + 1 := by unfold wrap64; omega
    gi_wp2
    refine ⟨hj.l, ?_⟩
    have hne : gc ≠ w3.heap.size + 1 := hj.cnt.ne hj.l (fun h => by cases h)
    have hLY := hj.l.put (.loop (busyOf r0))
    have hpb := putObj_but W (w3.heap.size + 1) (.loop (busyOf r0))
    have hvY : Ob (W.putObj (w3.heap.size + 1) (.loop (busyOf r0))) gc (box (.int .i64 (c0 : Int)) 3) := (World.putObj_heap_other hne).trans hj.cnt
    generalize W.putObj (w3.heap.size + 1) (.loop (busyOf r0)) = Y at *
    have y0 := hvY.cell
    have yf := hvY.free
    gi_wp2
    have hG : ButL [w3.heap.size + 1, gc] W (Y.setCell ⟨gc, 0, none⟩ (.int .i64 ((c0 : Int) + 1))) := (hpb.mono (by simp)).trans (.setCell _ _ _ _ (by simp))
    have hL6 : Ob (Y.setCell ⟨gc, 0, none⟩ (.int .i64 ((c0 : Int) + 1))) (w3.heap.size + 1) (.loop (busyOf r0)) := (heap_setCell_other Y ⟨gc, 0, none⟩ _ _ (fun e => hne e.symm)).trans hLY
    have hg6 : Ob (Y.setCell ⟨gc, 0, none⟩ (.int .i64 ((c0 : Int) + 1))) gc (box (.int .i64 ((c0 : Int) + 1)) 3) := Cel.setCell (t := 3) (cs := [.int .i64 (c0 : Int)]) (g := gc) (w := Y) hvY 0 _
    generalize Y.setCell ⟨gc, 0, none⟩ (.int .i64 ((c0 : Int) + 1)) = Z at *
    have hG7 : ButL [w3.heap.size + 1, gc] W (Z.putObj (w3.heap.size + 1) (.loop r0)) := hG.trans ((putObj_but Z (w3.heap.size + 1) (.loop r0)).mono (by simp))
    have hlow : ∀ q ∈ [w3.heap.size + 1, gc], w.heap.size ≤ q := by
      have := HGC.out
      simp; omega
    refine ⟨hL6, ?_⟩
    have hoff : ∀ q ∈ p.all, q ∉ [w3.heap.size + 1, gc] := fun q hq hm => by have := hlow q hm; have := HLt.out q hq; omega
    have nd : bd ∉ [w3.heap.size + 1, gc] := by
      have h1 : bd ≠ w3.heap.size + 1 := hj.cd.ne hj.l (fun h => by cases h)
      have h2 : bd ≠ gc := by omega
      simp [h1, h2]
    have ns : bs ∉ [w3.heap.size + 1, gc] := by
      have h1 : bs ≠ w3.heap.size + 1 := hj.cs.ne hj.l (fun h => by cases h)
      have h2 : bs ≠ gc := by omega
      simp [h1, h2]
    have nD : w3.heap.size ∉ [w3.heap.size + 1, gc] := by
      have h2 : w3.heap.size ≠ gc := fun e => (hj.cnt.ne hj.d (fun h => by cases h)) e.symm
      simp [h2]
    rw [HE.out]
    exact ⟨hj.db.frame hG7 hoff, hj.but.trans (hG7.below (B := w.heap.size) hlow hj.but.size), hj.cd.but hG7 nd, hj.cs.but hG7 ns, hL6.put (.loop r0), hj.d.but hG7 nD, (World.putObj_heap_other hne).trans hg6⟩
theorem free_any (w : World) (p : Dp) (d : DS) (h : DB w p d) :
    Calls Tryz.prog 32 #[ptr p.g] w fun x w' => x = .returned (.int .i64 (d.free : Int)) ∧ Below w.heap.size w w' := callsIn_wide.1 (free_in 0 w p d h)
end Go.Proofs.YtdfnbcbnmiohnaaGreatDoor
