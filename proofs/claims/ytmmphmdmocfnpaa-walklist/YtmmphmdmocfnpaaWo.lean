/- WalkList 7. -/
import Derived.Test.YtmmphmdmocfnpaaWp
import Derived.Test.YtmmphmdmocfnpaaKr
namespace Go.Proofs.Ytmmphmdmocfnpaa
open Go.RowKit
set_option maxHeartbeats 16000000
set_option maxRecDepth 100000
theorem list7_any (W : World) (ao : Option Addr) (n cp b off : Nat) (L : Nat → Mg) (hL : MgAt W ao n b off L) (hn : (n : Int) ≤ 4611686018427387904) (oo : Option Addr) (on oc ob of : Nat) (F : Nat → Int) (hF : IntsAt W oo on ob of F) (hon : (on : Int) ≤ 4611686018427387904) (va : Int) (v0 : 0 ≤ va) (v1 : va < 4294967296) :
    Calls Try.prog 7 #[.slice ao n cp, .slice oo on oc, .int .u32 va] W fun e W' => e = .returned (.bool true) ∧ Below W.heap.size W W' := by
  have HMp := hid (mappedl_any W ao n cp b off L hL hn)
  obtain ⟨K, hK⟩ : ∃ K, min n 60 = K := ⟨_, rfl⟩
  rw [hK] at HMp
  have HKn : Hid (K ≤ n ∧ K ≤ 60) := hid (by omega)
  have HLs := hid (fun x fa c h => list_ok x fa (mpd L K) (mpd_U L _) (mpd_ns L _).1 c h)
  have HCn := hid (cnt_all L K)
  have HSo := hid (lst_sorted (mpd L K) 0 256 (Nat.le_refl _))
  have HAd := hid (fun j hj o => adr_all L K j hj o)
  have HFa := hid (fun va h0 h1 h2 h => far_all L K va h0 h1 h2 h)
  have HMg := hid hL
  have HIn := hid hF
  have HU := hid (mpd_U L K)
  have HAdr := hid (fun x k (hk : k < K) o o0 o1 => address_any x (L k) (hL.r k (by omega)) o o0 o1)
  have HSd := hid (fun x k (hk : k < K) => said_any x (L k) (hL.r k (by omega)))
  clear hL hF
  generalize hA : (mpd L K).lst 0 256 = A at *
  clear hA
  obtain ⟨na, hna⟩ : ∃ na, A.length = na := ⟨_, rfl⟩
  have HN := hid hna
  have na1 : (na : Int) ≤ 60 := by have := HCn.out; have := cnt_le L K K; have := HKn.out; omega
  have HLi := hid (fun x lo lc (h : RowAt x lo A) v q (hm : (v, q) ∈ A) => listed_any x A lo lc h (by omega) v q hm HSo.out.1)
  rw [hna] at HLs HLi HCn
  clear hna
  unfold ptr at *
  go_enter Try.func7, Try.ntmps7
  go_upto_region 2 with (go_at_call 24; refine HMp.out.mono ?_; rintro e w1 ⟨fa, rfl, hm⟩; have K0 := hid (KR.begin hm); clear hm)
  clear HMp
  generalize (mpd L K).c = c0 at *
  go_upto_region 4 with fail
  go_wp2_with fail
  refine (HLs.out _ fa c0 K0.out.a).mono ?_
  rintro e w2 ⟨v, c1, rfl, ho, hr⟩
  rw [← HN.out] at ho
  have K1 := hid (K0.out.addZ (K0.out.rd hr) ho)
  clear ho hr K0 HLs
  obtain ⟨lo, lc, hvf, hrow⟩ := RowAt.of (K1.out.own (v, A) (by simp))
  simp only at hvf
  rw [HN.out] at hvf
  subst hvf
  clear hrow
  have HRow : Hid (∀ x c, KR W x fa ((mpd L K).wc c) [(.slice lo na lc, A)] [] (.slice none 0 0) [] (.slice none 0 0) [] → RowAt x lo A) := hid (fun x c h => by
    obtain ⟨lo', lc', e, hrow⟩ := RowAt.of (h.own (.slice lo na lc, A) (by simp))
    simp only [Value.slice.injEq] at e
    rw [e.1]
    exact hrow)
  have K2 : Hid (KR W w2 fa ((mpd L K).wc c1) [(.slice lo na lc, A)] [] (.slice none 0 0) [] (.slice none 0 0) []) := hid K1.out
  clear K1
  go_wp2_with fail
  go_loopw [11, 12] (fun ct i wr => ∃ (j : Nat) (c : Int), ct = .int .i64 ((cnt L K j : Nat) : Int) ∧ j ≤ K ∧ i = .int .i64 (j : Int) ∧ Hid (KR W wr fa ((mpd L K).wc c) [(.slice lo na lc, A)] [] (.slice none 0 0) [] (.slice none 0 0) [])) (fun _ i _ => K - (intOf i).toNat)
  case atStart => exact ⟨0, c1, rfl, Nat.zero_le _, rfl, K2⟩
  case round =>
    obtain ⟨j, c, rfl, hj, rfl, HQ⟩ := hrel
    clear K2
    by_cases hlt : j < K
    · have q1 : (j : Int) < (n : Int) := by have := HKn.out; omega
      have q2 : (j : Int) < 60 := by have := HKn.out; omega
      have HJ := hid hlt
      have cn1 : ((cnt L K j : Nat) : Int) ≤ 60 := by have := cnt_le L K j; omega
      obtain ⟨hao, _⟩ := HMg.out.ao (by omega)
      subst hao
      clear hlt hj
      by_cases hon0 : 0 < on
      · have p1 : (0 : Int) < (on : Int) := by omega
        obtain ⟨hoo, _⟩ := HIn.out.ao hon0
        subst hoo
        have hjm : j % on < on := Nat.mod_lt _ hon0
        have HFr := hid (HIn.out.r (j % on) hjm)
        have ci := HIn.out.cell HQ.out.below (j % on) hjm
        have em : ((j : Int).tmod (on : Int)) = ((j % on : Nat) : Int) := by rw [Int.tmod_eq_emod_of_nonneg (by omega)]; rfl
        have HON := hid hon0
        clear hon0
        generalize hjo : j % on = jo at *
        clear hjo
        have jo1 : (jo : Int) < (on : Int) := by omega
        obtain ⟨d0, d1, d2, d3, d4, d5⟩ := HMg.out.cells HQ.out.below j (by have := HKn.out; have := HJ.out; omega)
        go_upto_region 14 with fail
        clear ci em hjm
        go_upto_region 15 with (go_at_call 36; refine (HAdr.out _ j HJ.out (F jo) HFr.out.1 HFr.out.2).mono ?_; rintro e w3 ⟨rfl, hb⟩; have K3 := hid (HQ.out.on hb); clear hb HQ d0 d1 d2 d3 d4 d5; obtain ⟨d0, d1, d2, d3, d4, d5⟩ := HMg.out.cells K3.out.below j (by have := HKn.out; have := HJ.out; omega))
        go_upto_region 16 with (go_at_call 37; refine (HSd.out _ j HJ.out).mono ?_; rintro e w4 ⟨rfl, hb⟩; unfold Mp.v; have K4 := hid ((K3.out.on hb).on (below_one _ (.cells #[.bool (L j).sd.s, .int .i64 (L j).sd.p, .bool (L j).sd.wr, .bool (L j).sd.ex] 35))); have HC4 := hid (Cel.new w4 35 (mc (L j).sd)); have HG4 : Hid (W.heap.size ≤ w4.heap.size) := hid (K3.out.on hb).below.size; clear hb K3 d0 d1 d2 d3 d4 d5)
        generalize hX4 : World.alloc _ _ = x4 at *
        have HX4 := hid hX4
        clear hX4
        generalize w4.heap.size = g15 at *
        have HC5 : Hid (Cel x4 g15 35 (mc (L j).sd)) := hid (by rw [← HX4.out]; exact HC4.out)
        clear HC4 HX4
        go_wp2_with fail
        go_loopw [16, 17] (fun ag k wr => ∃ t : Nat, ag = .bool (wnt L j t).1 ∧ t ≤ K - (j + 1) ∧ k = .int .i64 ((j + 1 + t : Nat) : Int) ∧ Hid (KR W wr fa ((mpd L K).wc c) [(.slice lo na lc, A)] [] (.slice none 0 0) [] (.slice none 0 0) [] ∧ Cel wr g15 35 (mc (wnt L j t).2.sd))) (fun _ k _ => K - (intOf k).toNat)
        case atStart => exact ⟨0, rfl, Nat.zero_le _, by simp, hid ⟨K4.out, HC5.out⟩⟩
        case round =>
          obtain ⟨t, rfl, ht, rfl, HT⟩ := hrel
          clear K4 HC5
          obtain ⟨kk, hkk⟩ : ∃ kk, j + 1 + t = kk := ⟨_, rfl⟩
          have HKK := hid hkk
          rw [hkk]
          clear hkk
          by_cases hlt : kk < K
          · have r1 : (kk : Int) < (n : Int) := by have := HKn.out; omega
            have r2 : (kk : Int) < 60 := by have := HKn.out; omega
            have HJ2 := hid hlt
            have HT2 : Hid (t < K - (j + 1)) := hid (by have := HKK.out; omega)
            clear hlt ht
            go_upto_region 20 with fail
            have HTD := hid (And.intro (HT.out.1.on (Below.refl _ _).drew) (HT.out.2.on (Below.refl _ _).drew))
            clear HT
            have hkn : kk < n := by have := HKn.out; have := HJ2.out; omega
            have hjn : j < n := by have := HKn.out; have := HJ.out; omega
            have HA1 := hid (fun x => HAdr.out x kk HJ2.out 0 (by decide) (by decide))
            have HA2 := hid (fun x => HAdr.out x j HJ.out 0 (by decide) (by decide))
            have HCk := hid (fun x (h : Below W.heap.size W x) => HMg.out.cells h kk hkn)
            have HCj := hid (fun x (h : Below W.heap.size W x) => HMg.out.cells h j hjn)
            have HSm : Hid (wnt L j (t + 1) = if adr (L kk) 0 = adr (L j) 0 then (true, L kk) else wnt L j t) := hid (by rw [wnt, HKK.out])
            clear hkn hjn
            by_cases hs : adr (L kk) 0 = adr (L j) 0
            · rw [if_pos hs] at HSm
              refine wp_region_held_drew (S := fun x => Below W.heap.size W x) (by kernel_rfl) HTD.out.1.below (fun hHeld => ?_)
              refine wpAnyH_take (i := 0) (oi := { dst := some 81, op := Op.move (Operand.tmp 0), type := 56, pos := "outright.go:117", after := #[], guard := none }) (v := .slice (some ⟨b, off, none⟩) n cp) rfl (by kernel_rfl) (by kernel_rfl) (by kernel_rfl) (fun _ _ _ h => h) (Or.inl ⟨by rfl, by intro w hSw; go_simp⟩) (by assumption) ?_
              simp only [Act.put, List.setIfInBounds_toArray, List.set_cons_zero, List.set_cons_succ]
              refine wpAnyH_take (i := 1) (oi := { dst := some 82, op := Op.move (Operand.tmp 17), type := 3, pos := "outright.go:117", after := #[], guard := none }) (v := .int .i64 (kk : Int)) rfl (by kernel_rfl) (by kernel_rfl) (by kernel_rfl) (fun _ _ _ h => h) (Or.inl ⟨by rfl, by intro w hSw; go_simp⟩) (by assumption) ?_
              simp only [Act.put, List.setIfInBounds_toArray, List.set_cons_zero, List.set_cons_succ]
              refine wpAnyH_take (i := 2) (oi := { dst := some 83, op := Op.indexAddr 56 (Operand.tmp 81) (Operand.tmp 82), type := 0, pos := "outright.go:117", after := #[{ on := 0, ground := Ground.data }, { on := 1, ground := Ground.data }], guard := none }) (v := .pointer (some ⟨b, off + kk * 6, none⟩)) rfl (by kernel_rfl) (by kernel_rfl) (by kernel_rfl) (fun _ _ _ h => h) (Or.inl ⟨by rfl, by intro w hSw; go_simp⟩) (by assumption) ?_
              simp only [Act.put, List.setIfInBounds_toArray, List.set_cons_zero, List.set_cons_succ]
              refine wpAnyH_take (i := 3) (oi := { dst := some 84, op := Op.load 90 (Operand.tmp 83), type := 90, pos := "outright.go:117", after := #[{ on := 2, ground := Ground.data }], guard := none }) (v := .agg #[.int .i64 (L kk).i, .int .i64 (L kk).j, .bool (L kk).s, .int .i64 (L kk).p, .bool (L kk).wr, .bool (L kk).ex]) rfl (by kernel_rfl) (by kernel_rfl) (by kernel_rfl) (fun _ _ _ h => h) (Or.inl ⟨by rfl, by intro w hSw; obtain ⟨d0, d1, d2, d3, d4, d5⟩ := HCk.out _ hSw; go_simp⟩) (by assumption) ?_
              simp only [Act.put, List.setIfInBounds_toArray, List.set_cons_zero, List.set_cons_succ]
              refine wpAnyH_take (i := 5) (oi := { dst := some 86, op := Op.move (Operand.tmp 0), type := 56, pos := "outright.go:117", after := #[], guard := none }) (v := .slice (some ⟨b, off, none⟩) n cp) rfl (by kernel_rfl) (by kernel_rfl) (by kernel_rfl) (fun _ _ _ h => h) (Or.inl ⟨by rfl, by intro w hSw; go_simp⟩) (by assumption) ?_
              simp only [Act.put, List.setIfInBounds_toArray, List.set_cons_zero, List.set_cons_succ]
              refine wpAnyH_take (i := 6) (oi := { dst := some 87, op := Op.move (Operand.tmp 12), type := 3, pos := "outright.go:117", after := #[], guard := none }) (v := .int .i64 (j : Int)) rfl (by kernel_rfl) (by kernel_rfl) (by kernel_rfl) (fun _ _ _ h => h) (Or.inl ⟨by rfl, by intro w hSw; go_simp⟩) (by assumption) ?_
              simp only [Act.put, List.setIfInBounds_toArray, List.set_cons_zero, List.set_cons_succ]
              refine wpAnyH_take (i := 7) (oi := { dst := some 88, op := Op.indexAddr 56 (Operand.tmp 86) (Operand.tmp 87), type := 0, pos := "outright.go:117", after := #[{ on := 5, ground := Ground.data }, { on := 6, ground := Ground.data }], guard := none }) (v := .pointer (some ⟨b, off + j * 6, none⟩)) rfl (by kernel_rfl) (by kernel_rfl) (by kernel_rfl) (fun _ _ _ h => h) (Or.inl ⟨by rfl, by intro w hSw; go_simp⟩) (by assumption) ?_
              simp only [Act.put, List.setIfInBounds_toArray, List.set_cons_zero, List.set_cons_succ]
              refine wpAnyH_take (i := 8) (oi := { dst := some 89, op := Op.load 90 (Operand.tmp 88), type := 90, pos := "outright.go:117", after := #[{ on := 7, ground := Ground.data }], guard := none }) (v := .agg #[.int .i64 (L j).i, .int .i64 (L j).j, .bool (L j).s, .int .i64 (L j).p, .bool (L j).wr, .bool (L j).ex]) rfl (by kernel_rfl) (by kernel_rfl) (by kernel_rfl) (fun _ _ _ h => h) (Or.inl ⟨by rfl, by intro w hSw; obtain ⟨d0, d1, d2, d3, d4, d5⟩ := HCj.out _ hSw; go_simp⟩) (by assumption) ?_
              simp only [Act.put, List.setIfInBounds_toArray, List.set_cons_zero, List.set_cons_succ]
              refine wpAnyH_ready (rs := [4]) (by kernel_rfl) (by simp) (AllReadyH.cons (o := { dst := some 85, op := Op.call { callee := Callee.value (Operand.func 36), args := #[Operand.tmp 84, Operand.const (Value.int IntKind.i64 0)], argTypes := #[90, 3] }, type := 22, pos := "outright.go:117", after := #[{ on := 3, ground := Ground.data }], guard := none }) rfl (fun KQ hK => ?_) AllReadyH.nil)
              go_simp
              refine (HA1.out _).mono ?_
              rintro e w5 ⟨rfl, hb⟩
              have H5 := hid (And.intro (HTD.out.1.on hb) (HTD.out.2.on hb))
              clear hb
              go_wp2_with fail
              refine hK.out _ _ H5.out.1.below (fun hHeld => ?_)
              clear hK KQ
              try simp only [Act.put, List.setIfInBounds_toArray, List.set_cons_zero, List.set_cons_succ]
              refine wpAnyH_ready (rs := [9]) (by kernel_rfl) (by simp) (AllReadyH.cons (o := { dst := some 90, op := Op.call { callee := Callee.value (Operand.func 36), args := #[Operand.tmp 89, Operand.const (Value.int IntKind.i64 0)], argTypes := #[90, 3] }, type := 22, pos := "outright.go:117", after := #[{ on := 8, ground := Ground.data }, { on := 4, ground := Ground.chain }], guard := none }) rfl (fun KQ hK => ?_) AllReadyH.nil)
              go_simp
              refine (HA2.out _).mono ?_
              rintro e w6 ⟨rfl, hb⟩
              have H6 := hid (And.intro (H5.out.1.on hb) (H5.out.2.on hb))
              clear hb
              go_wp2_with fail
              refine hK.out _ _ H6.out.1.below (fun hHeld => ?_)
              clear hK KQ
              try simp only [Act.put, List.setIfInBounds_toArray, List.set_cons_zero, List.set_cons_succ]
              refine wpAnyH_take (i := 10) (oi := { dst := some 91, op := Op.binOp BinOp.eql 22 (Operand.tmp 85) (Operand.tmp 90) 22, type := 4, pos := "outright.go:117", after := #[{ on := 4, ground := Ground.data }, { on := 9, ground := Ground.data }], guard := none }) (v := .bool true) rfl (by kernel_rfl) (by kernel_rfl) (by kernel_rfl) (fun _ _ _ h => h) (Or.inl ⟨by rfl, by intro w hSw; go_simp⟩) (by assumption) ?_
              simp only [Act.put, List.setIfInBounds_toArray, List.set_cons_zero, List.set_cons_succ]
              refine wpAnyH_done (by kernel_rfl) ?_ _
              have K7 := hid (And.intro (And.intro H6.out.1 H6.out.2) (HCk.out _ H6.out.1.below))
              clear H5 H6 HTD
              obtain ⟨d0, d1, d2, d3, d4, d5⟩ := K7.out.2
              go_upto_region 22 with fail
              go_wp2_with (go_at_call 37; refine (HSd.out _ kk HJ2.out).mono ?_; rintro e w8 ⟨rfl, hb⟩; unfold Mp.v; have K8 := hid (And.intro (K7.out.1.1.on hb) (K7.out.1.2.on hb)); clear hb K7 d0 d1 d2 d3 d4 d5; have f0 := K8.out.2.free 0; have f1 := K8.out.2.free 1; have f2 := K8.out.2.free 2; have f3 := K8.out.2.free 3; have a0 := K8.out.2.cell 0; have a1 := K8.out.2.cell 1; have a2 := K8.out.2.cell 2; have a3 := K8.out.2.cell 3; simp only [mc, List.getElem?_cons_zero, List.getElem?_cons_succ] at a0 a1 a2 a3)
              have HCn9 := hid ((((K8.out.2.setCell 0 (.bool (L kk).sd.s)).setCell 1 (.int .i64 (L kk).sd.p)).setCell 2 (.bool (L kk).sd.wr)).setCell 3 (.bool (L kk).sd.ex))
              have HB9 := hid ((((ButL.setCell (G := [g15]) w8 g15 0 (.bool (L kk).sd.s) (by simp)).trans (.setCell _ g15 1 (.int .i64 (L kk).sd.p) (by simp))).trans (.setCell _ g15 2 (.bool (L kk).sd.wr) (by simp))).trans (.setCell _ g15 3 (.bool (L kk).sd.ex) (by simp)))
              have HK9 := hid (K8.out.1.box K8.out.2 HG4.out HB9.out)
              go_roundw
              case measure => have := HJ2.out; simp [intOf] <;> omega
              case rel => exact ⟨t + 1, by rw [HSm.out], by have := HT2.out; omega, by have := HKK.out; simp only [Value.int.injEq, true_and]; omega, hid ⟨HK9.out, by rw [HSm.out]; exact HCn9.out⟩⟩
            · rw [if_neg hs] at HSm
              have hs' : (adr (L kk) 0 == adr (L j) 0) = false := by simpa using hs
              refine wp_region_held_drew (S := fun x => Below W.heap.size W x) (by kernel_rfl) HTD.out.1.below (fun hHeld => ?_)
              refine wpAnyH_take (i := 0) (oi := { dst := some 81, op := Op.move (Operand.tmp 0), type := 56, pos := "outright.go:117", after := #[], guard := none }) (v := .slice (some ⟨b, off, none⟩) n cp) rfl (by kernel_rfl) (by kernel_rfl) (by kernel_rfl) (fun _ _ _ h => h) (Or.inl ⟨by rfl, by intro w hSw; go_simp⟩) (by assumption) ?_
              simp only [Act.put, List.setIfInBounds_toArray, List.set_cons_zero, List.set_cons_succ]
              refine wpAnyH_take (i := 1) (oi := { dst := some 82, op := Op.move (Operand.tmp 17), type := 3, pos := "outright.go:117", after := #[], guard := none }) (v := .int .i64 (kk : Int)) rfl (by kernel_rfl) (by kernel_rfl) (by kernel_rfl) (fun _ _ _ h => h) (Or.inl ⟨by rfl, by intro w hSw; go_simp⟩) (by assumption) ?_
              simp only [Act.put, List.setIfInBounds_toArray, List.set_cons_zero, List.set_cons_succ]
              refine wpAnyH_take (i := 2) (oi := { dst := some 83, op := Op.indexAddr 56 (Operand.tmp 81) (Operand.tmp 82), type := 0, pos := "outright.go:117", after := #[{ on := 0, ground := Ground.data }, { on := 1, ground := Ground.data }], guard := none }) (v := .pointer (some ⟨b, off + kk * 6, none⟩)) rfl (by kernel_rfl) (by kernel_rfl) (by kernel_rfl) (fun _ _ _ h => h) (Or.inl ⟨by rfl, by intro w hSw; go_simp⟩) (by assumption) ?_
              simp only [Act.put, List.setIfInBounds_toArray, List.set_cons_zero, List.set_cons_succ]
              refine wpAnyH_take (i := 3) (oi := { dst := some 84, op := Op.load 90 (Operand.tmp 83), type := 90, pos := "outright.go:117", after := #[{ on := 2, ground := Ground.data }], guard := none }) (v := .agg #[.int .i64 (L kk).i, .int .i64 (L kk).j, .bool (L kk).s, .int .i64 (L kk).p, .bool (L kk).wr, .bool (L kk).ex]) rfl (by kernel_rfl) (by kernel_rfl) (by kernel_rfl) (fun _ _ _ h => h) (Or.inl ⟨by rfl, by intro w hSw; obtain ⟨d0, d1, d2, d3, d4, d5⟩ := HCk.out _ hSw; go_simp⟩) (by assumption) ?_
              simp only [Act.put, List.setIfInBounds_toArray, List.set_cons_zero, List.set_cons_succ]
              refine wpAnyH_take (i := 5) (oi := { dst := some 86, op := Op.move (Operand.tmp 0), type := 56, pos := "outright.go:117", after := #[], guard := none }) (v := .slice (some ⟨b, off, none⟩) n cp) rfl (by kernel_rfl) (by kernel_rfl) (by kernel_rfl) (fun _ _ _ h => h) (Or.inl ⟨by rfl, by intro w hSw; go_simp⟩) (by assumption) ?_
              simp only [Act.put, List.setIfInBounds_toArray, List.set_cons_zero, List.set_cons_succ]
              refine wpAnyH_take (i := 6) (oi := { dst := some 87, op := Op.move (Operand.tmp 12), type := 3, pos := "outright.go:117", after := #[], guard := none }) (v := .int .i64 (j : Int)) rfl (by kernel_rfl) (by kernel_rfl) (by kernel_rfl) (fun _ _ _ h => h) (Or.inl ⟨by rfl, by intro w hSw; go_simp⟩) (by assumption) ?_
              simp only [Act.put, List.setIfInBounds_toArray, List.set_cons_zero, List.set_cons_succ]
              refine wpAnyH_take (i := 7) (oi := { dst := some 88, op := Op.indexAddr 56 (Operand.tmp 86) (Operand.tmp 87), type := 0, pos := "outright.go:117", after := #[{ on := 5, ground := Ground.data }, { on := 6, ground := Ground.data }], guard := none }) (v := .pointer (some ⟨b, off + j * 6, none⟩)) rfl (by kernel_rfl) (by kernel_rfl) (by kernel_rfl) (fun _ _ _ h => h) (Or.inl ⟨by rfl, by intro w hSw; go_simp⟩) (by assumption) ?_
              simp only [Act.put, List.setIfInBounds_toArray, List.set_cons_zero, List.set_cons_succ]
              refine wpAnyH_take (i := 8) (oi := { dst := some 89, op := Op.load 90 (Operand.tmp 88), type := 90, pos := "outright.go:117", after := #[{ on := 7, ground := Ground.data }], guard := none }) (v := .agg #[.int .i64 (L j).i, .int .i64 (L j).j, .bool (L j).s, .int .i64 (L j).p, .bool (L j).wr, .bool (L j).ex]) rfl (by kernel_rfl) (by kernel_rfl) (by kernel_rfl) (fun _ _ _ h => h) (Or.inl ⟨by rfl, by intro w hSw; obtain ⟨d0, d1, d2, d3, d4, d5⟩ := HCj.out _ hSw; go_simp⟩) (by assumption) ?_
              simp only [Act.put, List.setIfInBounds_toArray, List.set_cons_zero, List.set_cons_succ]
              refine wpAnyH_ready (rs := [4]) (by kernel_rfl) (by simp) (AllReadyH.cons (o := { dst := some 85, op := Op.call { callee := Callee.value (Operand.func 36), args := #[Operand.tmp 84, Operand.const (Value.int IntKind.i64 0)], argTypes := #[90, 3] }, type := 22, pos := "outright.go:117", after := #[{ on := 3, ground := Ground.data }], guard := none }) rfl (fun KQ hK => ?_) AllReadyH.nil)
              go_simp
              refine (HA1.out _).mono ?_
              rintro e w5 ⟨rfl, hb⟩
              have H5 := hid (And.intro (HTD.out.1.on hb) (HTD.out.2.on hb))
              clear hb
              go_wp2_with fail
              refine hK.out _ _ H5.out.1.below (fun hHeld => ?_)
              clear hK KQ
              try simp only [Act.put, List.setIfInBounds_toArray, List.set_cons_zero, List.set_cons_succ]
              refine wpAnyH_ready (rs := [9]) (by kernel_rfl) (by simp) (AllReadyH.cons (o := { dst := some 90, op := Op.call { callee := Callee.value (Operand.func 36), args := #[Operand.tmp 89, Operand.const (Value.int IntKind.i64 0)], argTypes := #[90, 3] }, type := 22, pos := "outright.go:117", after := #[{ on := 8, ground := Ground.data }, { on := 4, ground := Ground.chain }], guard := none }) rfl (fun KQ hK => ?_) AllReadyH.nil)
              go_simp
              refine (HA2.out _).mono ?_
              rintro e w6 ⟨rfl, hb⟩
              have H6 := hid (And.intro (H5.out.1.on hb) (H5.out.2.on hb))
              clear hb
              go_wp2_with fail
              refine hK.out _ _ H6.out.1.below (fun hHeld => ?_)
              clear hK KQ
              try simp only [Act.put, List.setIfInBounds_toArray, List.set_cons_zero, List.set_cons_succ]
              refine wpAnyH_take (i := 10) (oi := { dst := some 91, op := Op.binOp BinOp.eql 22 (Operand.tmp 85) (Operand.tmp 90) 22, type := 4, pos := "outright.go:117", after := #[{ on := 4, ground := Ground.data }, { on := 9, ground := Ground.data }], guard := none }) (v := .bool false) rfl (by kernel_rfl) (by kernel_rfl) (by kernel_rfl) (fun _ _ _ h => h) (Or.inl ⟨by rfl, by intro w hSw; go_simp⟩) (by assumption) ?_
              simp only [Act.put, List.setIfInBounds_toArray, List.set_cons_zero, List.set_cons_succ]
              refine wpAnyH_done (by kernel_rfl) ?_ _
              go_wp2_with fail
              go_roundw
              case measure => have := HJ2.out; simp [intOf] <;> omega
              case rel => exact ⟨t + 1, by rw [HSm.out], by have := HT2.out; omega, by have := HKK.out; simp only [Value.int.injEq, true_and]; omega, hid ⟨H6.out.1, by rw [HSm.out]; exact H6.out.2⟩⟩
          · have htn : t = K - (j + 1) := by have := HKK.out; have := HJ.out; omega
            have hkk2 : kk = K := by have := HKK.out; have := HJ.out; omega
            subst hkk2
            subst htn
            clear hlt ht
            have HAl := hid (HAd.out j HJ.out (F jo))
            have HPa := hid (adr_parts (L j) (F jo))
            have HCs := hid (cnt_succ L kk j)
            generalize hwf : (wnt L j (kk - (j + 1))).1 = flag at *
            generalize hwq : (wnt L j (kk - (j + 1))).2.sd = q at *
            clear hwf hwq
            generalize adr (L j) (F jo) = a at *
            obtain ⟨qs, qp, qw, qx⟩ := q
            have ra : 0 ≤ a ∧ a < 1073741824 := ⟨HPa.out.1, HPa.out.2.1⟩
            have sa : (a - a % 4096) % 4294967296 = a - a % 4096 := by omega
            have sb : 0 ≤ a - a % 4096 := by omega
            by_cases hx : (kk : Int) < (n : Int)
            · have hk : (kk : Int) = 60 := by have := HKn.out; omega
              have hx2 : (60 : Int) < (n : Int) := by omega
              clear hx
              rw [hk]
              cases flag
              · have HCt : Hid (cnt L kk (j + 1) = cnt L kk j + 1) := hid (by rw [HCs.out]; rfl)
                go_upto_region 25 with fail
                have HW := hid (walk_any wr fa _ HT.out.1.a (HU.out.wc c) 0 a ra.1 (by omega))
                obtain ⟨c5, hc5⟩ := MS.wkS_wc ((mpd L kk).wc c) 0 a
                rw [hc5, MS.wc_wc, show ((mpd L kk).wc c).wk 0 a = (mpd L kk).wk 0 a from rfl, show ((mpd L kk).wc c).wkE 0 a = (mpd L kk).wkE 0 a from rfl, HAl.out.1, HAl.out.2.1] at HW
                clear hc5
                unfold Mp.v ptr at HW
                simp only at HW
                go_upto_region 26 with (go_at_call 31; refine HW.out.mono ?_; rintro e w5 ⟨rfl, hr⟩; have K5 := hid ((HT.out.1.rd hr).on (below_one _ (.cells #[.bool qs, .int .i64 qp, .bool qw, .bool qx] 35))); have HC5 := hid ((HT.out.2.rd HT.out.1.a hr (by decide) (by decide) (by decide)).on (below_one _ (.cells #[.bool qs, .int .i64 qp, .bool qw, .bool qx] 35))); have HD5 := hid (Cel.new w5 35 [.bool qs, .int .i64 qp, .bool qw, .bool qx]); clear hr)
                generalize hX5 : World.alloc _ _ = x5 at *
                clear hX5 HW HT
                generalize w5.heap.size = g18 at *
                simp only [mc] at HC5
                have a0 := HC5.out.cell 0
                have a1 := HC5.out.cell 1
                have a2 := HC5.out.cell 2
                have a3 := HC5.out.cell 3
                have b0 := HD5.out.cell 0
                have b1 := HD5.out.cell 1
                have b2 := HD5.out.cell 2
                have b3 := HD5.out.cell 3
                simp only [List.getElem?_cons_zero, List.getElem?_cons_succ] at a0 a1 a2 a3 b0 b1 b2 b3
                have HAw := hid (allowed_any x5 fa (mpd L kk) c5 K5.out.a HU.out a ra.1 (by omega) ⟨qs, qp, qw, qx⟩ (F jo) HFr.out.1 HFr.out.2 HAl.out.1 HAl.out.2.1 HPa.out.2.2.2.2.2.1)
                unfold Mp.v ptr at HAw
                simp only at HAw
                have HLj := hid (fun x h => HLi.out x lo lc h (a - a % 4096) ⟨qs, qp, qw, qx⟩ HAl.out.2.2)
                unfold Mp.v at HLj
                simp only at HLj
                go_wp2_with (first | (go_at_call 38; refine HAw.out.mono ?_; rintro e w6 ⟨rfl, c6, hr⟩; have K6 := hid (K5.out.rd hr); have HC6 := hid (HC5.out.rd K5.out.a hr (by decide) (by decide) (by decide)); clear hr a0 a1 a2 a3 b0 b1 b2 b3; have a0 := HC6.out.cell 0; have a1 := HC6.out.cell 1; have a2 := HC6.out.cell 2; have a3 := HC6.out.cell 3; simp only [List.getElem?_cons_zero, List.getElem?_cons_succ] at a0 a1 a2 a3) | (go_at_call 39; refine (HLj.out _ (HRow.out _ _ K6.out)).mono ?_; rintro e w7 ⟨rfl, hb⟩; have K7 := hid (K6.out.on hb); clear hb))
                go_roundw
                case measure => have := HJ.out; simp [intOf] <;> omega
                case rel => exact ⟨j + 1, c6, by rw [HCt.out]; simp, by have := HJ.out; omega, by simp, K7⟩
              · have HCt : Hid (cnt L kk (j + 1) = cnt L kk j) := hid (by rw [HCs.out]; rfl)
                go_upto_region 25 with fail
                have HW := hid (walk_any wr fa _ HT.out.1.a (HU.out.wc c) 0 a ra.1 (by omega))
                obtain ⟨c5, hc5⟩ := MS.wkS_wc ((mpd L kk).wc c) 0 a
                rw [hc5, MS.wc_wc, show ((mpd L kk).wc c).wk 0 a = (mpd L kk).wk 0 a from rfl, show ((mpd L kk).wc c).wkE 0 a = (mpd L kk).wkE 0 a from rfl, HAl.out.1, HAl.out.2.1] at HW
                clear hc5
                unfold Mp.v ptr at HW
                simp only at HW
                go_upto_region 26 with (go_at_call 31; refine HW.out.mono ?_; rintro e w5 ⟨rfl, hr⟩; have K5 := hid ((HT.out.1.rd hr).on (below_one _ (.cells #[.bool qs, .int .i64 qp, .bool qw, .bool qx] 35))); have HC5 := hid ((HT.out.2.rd HT.out.1.a hr (by decide) (by decide) (by decide)).on (below_one _ (.cells #[.bool qs, .int .i64 qp, .bool qw, .bool qx] 35))); have HD5 := hid (Cel.new w5 35 [.bool qs, .int .i64 qp, .bool qw, .bool qx]); clear hr)
                generalize hX5 : World.alloc _ _ = x5 at *
                clear hX5 HW HT
                generalize w5.heap.size = g18 at *
                simp only [mc] at HC5
                have a0 := HC5.out.cell 0
                have a1 := HC5.out.cell 1
                have a2 := HC5.out.cell 2
                have a3 := HC5.out.cell 3
                have b0 := HD5.out.cell 0
                have b1 := HD5.out.cell 1
                have b2 := HD5.out.cell 2
                have b3 := HD5.out.cell 3
                simp only [List.getElem?_cons_zero, List.getElem?_cons_succ] at a0 a1 a2 a3 b0 b1 b2 b3
                have HAw := hid (allowed_any x5 fa (mpd L kk) c5 K5.out.a HU.out a ra.1 (by omega) ⟨qs, qp, qw, qx⟩ (F jo) HFr.out.1 HFr.out.2 HAl.out.1 HAl.out.2.1 HPa.out.2.2.2.2.2.1)
                unfold Mp.v ptr at HAw
                simp only at HAw
                have HLj := hid (fun x h => HLi.out x lo lc h (a - a % 4096) ⟨qs, qp, qw, qx⟩ HAl.out.2.2)
                unfold Mp.v at HLj
                simp only at HLj
                go_wp2_with (first | (go_at_call 38; refine HAw.out.mono ?_; rintro e w6 ⟨rfl, c6, hr⟩; have K6 := hid (K5.out.rd hr); have HC6 := hid (HC5.out.rd K5.out.a hr (by decide) (by decide) (by decide)); clear hr a0 a1 a2 a3 b0 b1 b2 b3; have a0 := HC6.out.cell 0; have a1 := HC6.out.cell 1; have a2 := HC6.out.cell 2; have a3 := HC6.out.cell 3; simp only [List.getElem?_cons_zero, List.getElem?_cons_succ] at a0 a1 a2 a3) | (go_at_call 39; refine (HLj.out _ (HRow.out _ _ K6.out)).mono ?_; rintro e w7 ⟨rfl, hb⟩; have K7 := hid (K6.out.on hb); clear hb))
                go_roundw
                case measure => have := HJ.out; simp [intOf] <;> omega
                case rel => exact ⟨j + 1, c6, by rw [HCt.out], by have := HJ.out; omega, by simp, K7⟩
            · have hx' : (n : Int) ≤ (kk : Int) := by omega
              clear hx
              cases flag
              · have HCt : Hid (cnt L kk (j + 1) = cnt L kk j + 1) := hid (by rw [HCs.out]; rfl)
                go_upto_region 25 with fail
                have HW := hid (walk_any wr fa _ HT.out.1.a (HU.out.wc c) 0 a ra.1 (by omega))
                obtain ⟨c5, hc5⟩ := MS.wkS_wc ((mpd L kk).wc c) 0 a
                rw [hc5, MS.wc_wc, show ((mpd L kk).wc c).wk 0 a = (mpd L kk).wk 0 a from rfl, show ((mpd L kk).wc c).wkE 0 a = (mpd L kk).wkE 0 a from rfl, HAl.out.1, HAl.out.2.1] at HW
                clear hc5
                unfold Mp.v ptr at HW
                simp only at HW
                go_upto_region 26 with (go_at_call 31; refine HW.out.mono ?_; rintro e w5 ⟨rfl, hr⟩; have K5 := hid ((HT.out.1.rd hr).on (below_one _ (.cells #[.bool qs, .int .i64 qp, .bool qw, .bool qx] 35))); have HC5 := hid ((HT.out.2.rd HT.out.1.a hr (by decide) (by decide) (by decide)).on (below_one _ (.cells #[.bool qs, .int .i64 qp, .bool qw, .bool qx] 35))); have HD5 := hid (Cel.new w5 35 [.bool qs, .int .i64 qp, .bool qw, .bool qx]); clear hr)
                generalize hX5 : World.alloc _ _ = x5 at *
                clear hX5 HW HT
                generalize w5.heap.size = g18 at *
                simp only [mc] at HC5
                have a0 := HC5.out.cell 0
                have a1 := HC5.out.cell 1
                have a2 := HC5.out.cell 2
                have a3 := HC5.out.cell 3
                have b0 := HD5.out.cell 0
                have b1 := HD5.out.cell 1
                have b2 := HD5.out.cell 2
                have b3 := HD5.out.cell 3
                simp only [List.getElem?_cons_zero, List.getElem?_cons_succ] at a0 a1 a2 a3 b0 b1 b2 b3
                have HAw := hid (allowed_any x5 fa (mpd L kk) c5 K5.out.a HU.out a ra.1 (by omega) ⟨qs, qp, qw, qx⟩ (F jo) HFr.out.1 HFr.out.2 HAl.out.1 HAl.out.2.1 HPa.out.2.2.2.2.2.1)
                unfold Mp.v ptr at HAw
                simp only at HAw
                have HLj := hid (fun x h => HLi.out x lo lc h (a - a % 4096) ⟨qs, qp, qw, qx⟩ HAl.out.2.2)
                unfold Mp.v at HLj
                simp only at HLj
                go_wp2_with (first | (go_at_call 38; refine HAw.out.mono ?_; rintro e w6 ⟨rfl, c6, hr⟩; have K6 := hid (K5.out.rd hr); have HC6 := hid (HC5.out.rd K5.out.a hr (by decide) (by decide) (by decide)); clear hr a0 a1 a2 a3 b0 b1 b2 b3; have a0 := HC6.out.cell 0; have a1 := HC6.out.cell 1; have a2 := HC6.out.cell 2; have a3 := HC6.out.cell 3; simp only [List.getElem?_cons_zero, List.getElem?_cons_succ] at a0 a1 a2 a3) | (go_at_call 39; refine (HLj.out _ (HRow.out _ _ K6.out)).mono ?_; rintro e w7 ⟨rfl, hb⟩; have K7 := hid (K6.out.on hb); clear hb))
                go_roundw
                case measure => have := HJ.out; simp [intOf] <;> omega
                case rel => exact ⟨j + 1, c6, by rw [HCt.out]; simp, by have := HJ.out; omega, by simp, K7⟩
              · have HCt : Hid (cnt L kk (j + 1) = cnt L kk j) := hid (by rw [HCs.out]; rfl)
                go_upto_region 25 with fail
                have HW := hid (walk_any wr fa _ HT.out.1.a (HU.out.wc c) 0 a ra.1 (by omega))
                obtain ⟨c5, hc5⟩ := MS.wkS_wc ((mpd L kk).wc c) 0 a
                rw [hc5, MS.wc_wc, show ((mpd L kk).wc c).wk 0 a = (mpd L kk).wk 0 a from rfl, show ((mpd L kk).wc c).wkE 0 a = (mpd L kk).wkE 0 a from rfl, HAl.out.1, HAl.out.2.1] at HW
                clear hc5
                unfold Mp.v ptr at HW
                simp only at HW
                go_upto_region 26 with (go_at_call 31; refine HW.out.mono ?_; rintro e w5 ⟨rfl, hr⟩; have K5 := hid ((HT.out.1.rd hr).on (below_one _ (.cells #[.bool qs, .int .i64 qp, .bool qw, .bool qx] 35))); have HC5 := hid ((HT.out.2.rd HT.out.1.a hr (by decide) (by decide) (by decide)).on (below_one _ (.cells #[.bool qs, .int .i64 qp, .bool qw, .bool qx] 35))); have HD5 := hid (Cel.new w5 35 [.bool qs, .int .i64 qp, .bool qw, .bool qx]); clear hr)
                generalize hX5 : World.alloc _ _ = x5 at *
                clear hX5 HW HT
                generalize w5.heap.size = g18 at *
                simp only [mc] at HC5
                have a0 := HC5.out.cell 0
                have a1 := HC5.out.cell 1
                have a2 := HC5.out.cell 2
                have a3 := HC5.out.cell 3
                have b0 := HD5.out.cell 0
                have b1 := HD5.out.cell 1
                have b2 := HD5.out.cell 2
                have b3 := HD5.out.cell 3
                simp only [List.getElem?_cons_zero, List.getElem?_cons_succ] at a0 a1 a2 a3 b0 b1 b2 b3
                have HAw := hid (allowed_any x5 fa (mpd L kk) c5 K5.out.a HU.out a ra.1 (by omega) ⟨qs, qp, qw, qx⟩ (F jo) HFr.out.1 HFr.out.2 HAl.out.1 HAl.out.2.1 HPa.out.2.2.2.2.2.1)
                unfold Mp.v ptr at HAw
                simp only at HAw
                have HLj := hid (fun x h => HLi.out x lo lc h (a - a % 4096) ⟨qs, qp, qw, qx⟩ HAl.out.2.2)
                unfold Mp.v at HLj
                simp only at HLj
                go_wp2_with (first | (go_at_call 38; refine HAw.out.mono ?_; rintro e w6 ⟨rfl, c6, hr⟩; have K6 := hid (K5.out.rd hr); have HC6 := hid (HC5.out.rd K5.out.a hr (by decide) (by decide) (by decide)); clear hr a0 a1 a2 a3 b0 b1 b2 b3; have a0 := HC6.out.cell 0; have a1 := HC6.out.cell 1; have a2 := HC6.out.cell 2; have a3 := HC6.out.cell 3; simp only [List.getElem?_cons_zero, List.getElem?_cons_succ] at a0 a1 a2 a3) | (go_at_call 39; refine (HLj.out _ (HRow.out _ _ K6.out)).mono ?_; rintro e w7 ⟨rfl, hb⟩; have K7 := hid (K6.out.on hb); clear hb))
                go_roundw
                case measure => have := HJ.out; simp [intOf] <;> omega
                case rel => exact ⟨j + 1, c6, by rw [HCt.out], by have := HJ.out; omega, by simp, K7⟩
      · have on0 : on = 0 := by omega
        subst on0
        have HFr : Hid (-9223372036854775808 ≤ (0 : Int) ∧ (0 : Int) ≤ 9223372036854775807) := hid (by decide)
        rw [show ((0 : Nat) : Int) = 0 from rfl] at *
        clear hon0
        obtain ⟨d0, d1, d2, d3, d4, d5⟩ := HMg.out.cells HQ.out.below j (by have := HKn.out; have := HJ.out; omega)
        go_upto_region 14 with fail
        go_upto_region 15 with (go_at_call 36; refine (HAdr.out _ j HJ.out 0 HFr.out.1 HFr.out.2).mono ?_; rintro e w3 ⟨rfl, hb⟩; have K3 := hid (HQ.out.on hb); clear hb HQ d0 d1 d2 d3 d4 d5; obtain ⟨d0, d1, d2, d3, d4, d5⟩ := HMg.out.cells K3.out.below j (by have := HKn.out; have := HJ.out; omega))
        go_upto_region 16 with (go_at_call 37; refine (HSd.out _ j HJ.out).mono ?_; rintro e w4 ⟨rfl, hb⟩; unfold Mp.v; have K4 := hid ((K3.out.on hb).on (below_one _ (.cells #[.bool (L j).sd.s, .int .i64 (L j).sd.p, .bool (L j).sd.wr, .bool (L j).sd.ex] 35))); have HC4 := hid (Cel.new w4 35 (mc (L j).sd)); have HG4 : Hid (W.heap.size ≤ w4.heap.size) := hid (K3.out.on hb).below.size; clear hb K3 d0 d1 d2 d3 d4 d5)
        generalize hX4 : World.alloc _ _ = x4 at *
        have HX4 := hid hX4
        clear hX4
        generalize w4.heap.size = g15 at *
        have HC5 : Hid (Cel x4 g15 35 (mc (L j).sd)) := hid (by rw [← HX4.out]; exact HC4.out)
        clear HC4 HX4
        go_wp2_with fail
        go_loopw [16, 17] (fun ag k wr => ∃ t : Nat, ag = .bool (wnt L j t).1 ∧ t ≤ K - (j + 1) ∧ k = .int .i64 ((j + 1 + t : Nat) : Int) ∧ Hid (KR W wr fa ((mpd L K).wc c) [(.slice lo na lc, A)] [] (.slice none 0 0) [] (.slice none 0 0) [] ∧ Cel wr g15 35 (mc (wnt L j t).2.sd))) (fun _ k _ => K - (intOf k).toNat)
        case atStart => exact ⟨0, rfl, Nat.zero_le _, by simp, hid ⟨K4.out, HC5.out⟩⟩
        case round =>
          obtain ⟨t, rfl, ht, rfl, HT⟩ := hrel
          clear K4 HC5
          obtain ⟨kk, hkk⟩ : ∃ kk, j + 1 + t = kk := ⟨_, rfl⟩
          have HKK := hid hkk
          rw [hkk]
          clear hkk
          by_cases hlt : kk < K
          · have r1 : (kk : Int) < (n : Int) := by have := HKn.out; omega
            have r2 : (kk : Int) < 60 := by have := HKn.out; omega
            have HJ2 := hid hlt
            have HT2 : Hid (t < K - (j + 1)) := hid (by have := HKK.out; omega)
            clear hlt ht
            go_upto_region 20 with fail
            have HTD := hid (And.intro (HT.out.1.on (Below.refl _ _).drew) (HT.out.2.on (Below.refl _ _).drew))
            clear HT
            have hkn : kk < n := by have := HKn.out; have := HJ2.out; omega
            have hjn : j < n := by have := HKn.out; have := HJ.out; omega
            have HA1 := hid (fun x => HAdr.out x kk HJ2.out 0 (by decide) (by decide))
            have HA2 := hid (fun x => HAdr.out x j HJ.out 0 (by decide) (by decide))
            have HCk := hid (fun x (h : Below W.heap.size W x) => HMg.out.cells h kk hkn)
            have HCj := hid (fun x (h : Below W.heap.size W x) => HMg.out.cells h j hjn)
            have HSm : Hid (wnt L j (t + 1) = if adr (L kk) 0 = adr (L j) 0 then (true, L kk) else wnt L j t) := hid (by rw [wnt, HKK.out])
            clear hkn hjn
            by_cases hs : adr (L kk) 0 = adr (L j) 0
            · rw [if_pos hs] at HSm
              refine wp_region_held_drew (S := fun x => Below W.heap.size W x) (by kernel_rfl) HTD.out.1.below (fun hHeld => ?_)
              refine wpAnyH_take (i := 0) (oi := { dst := some 81, op := Op.move (Operand.tmp 0), type := 56, pos := "outright.go:117", after := #[], guard := none }) (v := .slice (some ⟨b, off, none⟩) n cp) rfl (by kernel_rfl) (by kernel_rfl) (by kernel_rfl) (fun _ _ _ h => h) (Or.inl ⟨by rfl, by intro w hSw; go_simp⟩) (by assumption) ?_
              simp only [Act.put, List.setIfInBounds_toArray, List.set_cons_zero, List.set_cons_succ]
              refine wpAnyH_take (i := 1) (oi := { dst := some 82, op := Op.move (Operand.tmp 17), type := 3, pos := "outright.go:117", after := #[], guard := none }) (v := .int .i64 (kk : Int)) rfl (by kernel_rfl) (by kernel_rfl) (by kernel_rfl) (fun _ _ _ h => h) (Or.inl ⟨by rfl, by intro w hSw; go_simp⟩) (by assumption) ?_
              simp only [Act.put, List.setIfInBounds_toArray, List.set_cons_zero, List.set_cons_succ]
              refine wpAnyH_take (i := 2) (oi := { dst := some 83, op := Op.indexAddr 56 (Operand.tmp 81) (Operand.tmp 82), type := 0, pos := "outright.go:117", after := #[{ on := 0, ground := Ground.data }, { on := 1, ground := Ground.data }], guard := none }) (v := .pointer (some ⟨b, off + kk * 6, none⟩)) rfl (by kernel_rfl) (by kernel_rfl) (by kernel_rfl) (fun _ _ _ h => h) (Or.inl ⟨by rfl, by intro w hSw; go_simp⟩) (by assumption) ?_
              simp only [Act.put, List.setIfInBounds_toArray, List.set_cons_zero, List.set_cons_succ]
              refine wpAnyH_take (i := 3) (oi := { dst := some 84, op := Op.load 90 (Operand.tmp 83), type := 90, pos := "outright.go:117", after := #[{ on := 2, ground := Ground.data }], guard := none }) (v := .agg #[.int .i64 (L kk).i, .int .i64 (L kk).j, .bool (L kk).s, .int .i64 (L kk).p, .bool (L kk).wr, .bool (L kk).ex]) rfl (by kernel_rfl) (by kernel_rfl) (by kernel_rfl) (fun _ _ _ h => h) (Or.inl ⟨by rfl, by intro w hSw; obtain ⟨d0, d1, d2, d3, d4, d5⟩ := HCk.out _ hSw; go_simp⟩) (by assumption) ?_
              simp only [Act.put, List.setIfInBounds_toArray, List.set_cons_zero, List.set_cons_succ]
              refine wpAnyH_take (i := 5) (oi := { dst := some 86, op := Op.move (Operand.tmp 0), type := 56, pos := "outright.go:117", after := #[], guard := none }) (v := .slice (some ⟨b, off, none⟩) n cp) rfl (by kernel_rfl) (by kernel_rfl) (by kernel_rfl) (fun _ _ _ h => h) (Or.inl ⟨by rfl, by intro w hSw; go_simp⟩) (by assumption) ?_
              simp only [Act.put, List.setIfInBounds_toArray, List.set_cons_zero, List.set_cons_succ]
              refine wpAnyH_take (i := 6) (oi := { dst := some 87, op := Op.move (Operand.tmp 12), type := 3, pos := "outright.go:117", after := #[], guard := none }) (v := .int .i64 (j : Int)) rfl (by kernel_rfl) (by kernel_rfl) (by kernel_rfl) (fun _ _ _ h => h) (Or.inl ⟨by rfl, by intro w hSw; go_simp⟩) (by assumption) ?_
              simp only [Act.put, List.setIfInBounds_toArray, List.set_cons_zero, List.set_cons_succ]
              refine wpAnyH_take (i := 7) (oi := { dst := some 88, op := Op.indexAddr 56 (Operand.tmp 86) (Operand.tmp 87), type := 0, pos := "outright.go:117", after := #[{ on := 5, ground := Ground.data }, { on := 6, ground := Ground.data }], guard := none }) (v := .pointer (some ⟨b, off + j * 6, none⟩)) rfl (by kernel_rfl) (by kernel_rfl) (by kernel_rfl) (fun _ _ _ h => h) (Or.inl ⟨by rfl, by intro w hSw; go_simp⟩) (by assumption) ?_
              simp only [Act.put, List.setIfInBounds_toArray, List.set_cons_zero, List.set_cons_succ]
              refine wpAnyH_take (i := 8) (oi := { dst := some 89, op := Op.load 90 (Operand.tmp 88), type := 90, pos := "outright.go:117", after := #[{ on := 7, ground := Ground.data }], guard := none }) (v := .agg #[.int .i64 (L j).i, .int .i64 (L j).j, .bool (L j).s, .int .i64 (L j).p, .bool (L j).wr, .bool (L j).ex]) rfl (by kernel_rfl) (by kernel_rfl) (by kernel_rfl) (fun _ _ _ h => h) (Or.inl ⟨by rfl, by intro w hSw; obtain ⟨d0, d1, d2, d3, d4, d5⟩ := HCj.out _ hSw; go_simp⟩) (by assumption) ?_
              simp only [Act.put, List.setIfInBounds_toArray, List.set_cons_zero, List.set_cons_succ]
              refine wpAnyH_ready (rs := [4]) (by kernel_rfl) (by simp) (AllReadyH.cons (o := { dst := some 85, op := Op.call { callee := Callee.value (Operand.func 36), args := #[Operand.tmp 84, Operand.const (Value.int IntKind.i64 0)], argTypes := #[90, 3] }, type := 22, pos := "outright.go:117", after := #[{ on := 3, ground := Ground.data }], guard := none }) rfl (fun KQ hK => ?_) AllReadyH.nil)
              go_simp
              refine (HA1.out _).mono ?_
              rintro e w5 ⟨rfl, hb⟩
              have H5 := hid (And.intro (HTD.out.1.on hb) (HTD.out.2.on hb))
              clear hb
              go_wp2_with fail
              refine hK.out _ _ H5.out.1.below (fun hHeld => ?_)
              clear hK KQ
              try simp only [Act.put, List.setIfInBounds_toArray, List.set_cons_zero, List.set_cons_succ]
              refine wpAnyH_ready (rs := [9]) (by kernel_rfl) (by simp) (AllReadyH.cons (o := { dst := some 90, op := Op.call { callee := Callee.value (Operand.func 36), args := #[Operand.tmp 89, Operand.const (Value.int IntKind.i64 0)], argTypes := #[90, 3] }, type := 22, pos := "outright.go:117", after := #[{ on := 8, ground := Ground.data }, { on := 4, ground := Ground.chain }], guard := none }) rfl (fun KQ hK => ?_) AllReadyH.nil)
              go_simp
              refine (HA2.out _).mono ?_
              rintro e w6 ⟨rfl, hb⟩
              have H6 := hid (And.intro (H5.out.1.on hb) (H5.out.2.on hb))
              clear hb
              go_wp2_with fail
              refine hK.out _ _ H6.out.1.below (fun hHeld => ?_)
              clear hK KQ
              try simp only [Act.put, List.setIfInBounds_toArray, List.set_cons_zero, List.set_cons_succ]
              refine wpAnyH_take (i := 10) (oi := { dst := some 91, op := Op.binOp BinOp.eql 22 (Operand.tmp 85) (Operand.tmp 90) 22, type := 4, pos := "outright.go:117", after := #[{ on := 4, ground := Ground.data }, { on := 9, ground := Ground.data }], guard := none }) (v := .bool true) rfl (by kernel_rfl) (by kernel_rfl) (by kernel_rfl) (fun _ _ _ h => h) (Or.inl ⟨by rfl, by intro w hSw; go_simp⟩) (by assumption) ?_
              simp only [Act.put, List.setIfInBounds_toArray, List.set_cons_zero, List.set_cons_succ]
              refine wpAnyH_done (by kernel_rfl) ?_ _
              have K7 := hid (And.intro (And.intro H6.out.1 H6.out.2) (HCk.out _ H6.out.1.below))
              clear H5 H6 HTD
              obtain ⟨d0, d1, d2, d3, d4, d5⟩ := K7.out.2
              go_upto_region 22 with fail
              go_wp2_with (go_at_call 37; refine (HSd.out _ kk HJ2.out).mono ?_; rintro e w8 ⟨rfl, hb⟩; unfold Mp.v; have K8 := hid (And.intro (K7.out.1.1.on hb) (K7.out.1.2.on hb)); clear hb K7 d0 d1 d2 d3 d4 d5; have f0 := K8.out.2.free 0; have f1 := K8.out.2.free 1; have f2 := K8.out.2.free 2; have f3 := K8.out.2.free 3; have a0 := K8.out.2.cell 0; have a1 := K8.out.2.cell 1; have a2 := K8.out.2.cell 2; have a3 := K8.out.2.cell 3; simp only [mc, List.getElem?_cons_zero, List.getElem?_cons_succ] at a0 a1 a2 a3)
              have HCn9 := hid ((((K8.out.2.setCell 0 (.bool (L kk).sd.s)).setCell 1 (.int .i64 (L kk).sd.p)).setCell 2 (.bool (L kk).sd.wr)).setCell 3 (.bool (L kk).sd.ex))
              have HB9 := hid ((((ButL.setCell (G := [g15]) w8 g15 0 (.bool (L kk).sd.s) (by simp)).trans (.setCell _ g15 1 (.int .i64 (L kk).sd.p) (by simp))).trans (.setCell _ g15 2 (.bool (L kk).sd.wr) (by simp))).trans (.setCell _ g15 3 (.bool (L kk).sd.ex) (by simp)))
              have HK9 := hid (K8.out.1.box K8.out.2 HG4.out HB9.out)
              go_roundw
              case measure => have := HJ2.out; simp [intOf] <;> omega
              case rel => exact ⟨t + 1, by rw [HSm.out], by have := HT2.out; omega, by have := HKK.out; simp only [Value.int.injEq, true_and]; omega, hid ⟨HK9.out, by rw [HSm.out]; exact HCn9.out⟩⟩
            · rw [if_neg hs] at HSm
              have hs' : (adr (L kk) 0 == adr (L j) 0) = false := by simpa using hs
              refine wp_region_held_drew (S := fun x => Below W.heap.size W x) (by kernel_rfl) HTD.out.1.below (fun hHeld => ?_)
              refine wpAnyH_take (i := 0) (oi := { dst := some 81, op := Op.move (Operand.tmp 0), type := 56, pos := "outright.go:117", after := #[], guard := none }) (v := .slice (some ⟨b, off, none⟩) n cp) rfl (by kernel_rfl) (by kernel_rfl) (by kernel_rfl) (fun _ _ _ h => h) (Or.inl ⟨by rfl, by intro w hSw; go_simp⟩) (by assumption) ?_
              simp only [Act.put, List.setIfInBounds_toArray, List.set_cons_zero, List.set_cons_succ]
              refine wpAnyH_take (i := 1) (oi := { dst := some 82, op := Op.move (Operand.tmp 17), type := 3, pos := "outright.go:117", after := #[], guard := none }) (v := .int .i64 (kk : Int)) rfl (by kernel_rfl) (by kernel_rfl) (by kernel_rfl) (fun _ _ _ h => h) (Or.inl ⟨by rfl, by intro w hSw; go_simp⟩) (by assumption) ?_
              simp only [Act.put, List.setIfInBounds_toArray, List.set_cons_zero, List.set_cons_succ]
              refine wpAnyH_take (i := 2) (oi := { dst := some 83, op := Op.indexAddr 56 (Operand.tmp 81) (Operand.tmp 82), type := 0, pos := "outright.go:117", after := #[{ on := 0, ground := Ground.data }, { on := 1, ground := Ground.data }], guard := none }) (v := .pointer (some ⟨b, off + kk * 6, none⟩)) rfl (by kernel_rfl) (by kernel_rfl) (by kernel_rfl) (fun _ _ _ h => h) (Or.inl ⟨by rfl, by intro w hSw; go_simp⟩) (by assumption) ?_
              simp only [Act.put, List.setIfInBounds_toArray, List.set_cons_zero, List.set_cons_succ]
              refine wpAnyH_take (i := 3) (oi := { dst := some 84, op := Op.load 90 (Operand.tmp 83), type := 90, pos := "outright.go:117", after := #[{ on := 2, ground := Ground.data }], guard := none }) (v := .agg #[.int .i64 (L kk).i, .int .i64 (L kk).j, .bool (L kk).s, .int .i64 (L kk).p, .bool (L kk).wr, .bool (L kk).ex]) rfl (by kernel_rfl) (by kernel_rfl) (by kernel_rfl) (fun _ _ _ h => h) (Or.inl ⟨by rfl, by intro w hSw; obtain ⟨d0, d1, d2, d3, d4, d5⟩ := HCk.out _ hSw; go_simp⟩) (by assumption) ?_
              simp only [Act.put, List.setIfInBounds_toArray, List.set_cons_zero, List.set_cons_succ]
              refine wpAnyH_take (i := 5) (oi := { dst := some 86, op := Op.move (Operand.tmp 0), type := 56, pos := "outright.go:117", after := #[], guard := none }) (v := .slice (some ⟨b, off, none⟩) n cp) rfl (by kernel_rfl) (by kernel_rfl) (by kernel_rfl) (fun _ _ _ h => h) (Or.inl ⟨by rfl, by intro w hSw; go_simp⟩) (by assumption) ?_
              simp only [Act.put, List.setIfInBounds_toArray, List.set_cons_zero, List.set_cons_succ]
              refine wpAnyH_take (i := 6) (oi := { dst := some 87, op := Op.move (Operand.tmp 12), type := 3, pos := "outright.go:117", after := #[], guard := none }) (v := .int .i64 (j : Int)) rfl (by kernel_rfl) (by kernel_rfl) (by kernel_rfl) (fun _ _ _ h => h) (Or.inl ⟨by rfl, by intro w hSw; go_simp⟩) (by assumption) ?_
              simp only [Act.put, List.setIfInBounds_toArray, List.set_cons_zero, List.set_cons_succ]
              refine wpAnyH_take (i := 7) (oi := { dst := some 88, op := Op.indexAddr 56 (Operand.tmp 86) (Operand.tmp 87), type := 0, pos := "outright.go:117", after := #[{ on := 5, ground := Ground.data }, { on := 6, ground := Ground.data }], guard := none }) (v := .pointer (some ⟨b, off + j * 6, none⟩)) rfl (by kernel_rfl) (by kernel_rfl) (by kernel_rfl) (fun _ _ _ h => h) (Or.inl ⟨by rfl, by intro w hSw; go_simp⟩) (by assumption) ?_
              simp only [Act.put, List.setIfInBounds_toArray, List.set_cons_zero, List.set_cons_succ]
              refine wpAnyH_take (i := 8) (oi := { dst := some 89, op := Op.load 90 (Operand.tmp 88), type := 90, pos := "outright.go:117", after := #[{ on := 7, ground := Ground.data }], guard := none }) (v := .agg #[.int .i64 (L j).i, .int .i64 (L j).j, .bool (L j).s, .int .i64 (L j).p, .bool (L j).wr, .bool (L j).ex]) rfl (by kernel_rfl) (by kernel_rfl) (by kernel_rfl) (fun _ _ _ h => h) (Or.inl ⟨by rfl, by intro w hSw; obtain ⟨d0, d1, d2, d3, d4, d5⟩ := HCj.out _ hSw; go_simp⟩) (by assumption) ?_
              simp only [Act.put, List.setIfInBounds_toArray, List.set_cons_zero, List.set_cons_succ]
              refine wpAnyH_ready (rs := [4]) (by kernel_rfl) (by simp) (AllReadyH.cons (o := { dst := some 85, op := Op.call { callee := Callee.value (Operand.func 36), args := #[Operand.tmp 84, Operand.const (Value.int IntKind.i64 0)], argTypes := #[90, 3] }, type := 22, pos := "outright.go:117", after := #[{ on := 3, ground := Ground.data }], guard := none }) rfl (fun KQ hK => ?_) AllReadyH.nil)
              go_simp
              refine (HA1.out _).mono ?_
              rintro e w5 ⟨rfl, hb⟩
              have H5 := hid (And.intro (HTD.out.1.on hb) (HTD.out.2.on hb))
              clear hb
              go_wp2_with fail
              refine hK.out _ _ H5.out.1.below (fun hHeld => ?_)
              clear hK KQ
              try simp only [Act.put, List.setIfInBounds_toArray, List.set_cons_zero, List.set_cons_succ]
              refine wpAnyH_ready (rs := [9]) (by kernel_rfl) (by simp) (AllReadyH.cons (o := { dst := some 90, op := Op.call { callee := Callee.value (Operand.func 36), args := #[Operand.tmp 89, Operand.const (Value.int IntKind.i64 0)], argTypes := #[90, 3] }, type := 22, pos := "outright.go:117", after := #[{ on := 8, ground := Ground.data }, { on := 4, ground := Ground.chain }], guard := none }) rfl (fun KQ hK => ?_) AllReadyH.nil)
              go_simp
              refine (HA2.out _).mono ?_
              rintro e w6 ⟨rfl, hb⟩
              have H6 := hid (And.intro (H5.out.1.on hb) (H5.out.2.on hb))
              clear hb
              go_wp2_with fail
              refine hK.out _ _ H6.out.1.below (fun hHeld => ?_)
              clear hK KQ
              try simp only [Act.put, List.setIfInBounds_toArray, List.set_cons_zero, List.set_cons_succ]
              refine wpAnyH_take (i := 10) (oi := { dst := some 91, op := Op.binOp BinOp.eql 22 (Operand.tmp 85) (Operand.tmp 90) 22, type := 4, pos := "outright.go:117", after := #[{ on := 4, ground := Ground.data }, { on := 9, ground := Ground.data }], guard := none }) (v := .bool false) rfl (by kernel_rfl) (by kernel_rfl) (by kernel_rfl) (fun _ _ _ h => h) (Or.inl ⟨by rfl, by intro w hSw; go_simp⟩) (by assumption) ?_
              simp only [Act.put, List.setIfInBounds_toArray, List.set_cons_zero, List.set_cons_succ]
              refine wpAnyH_done (by kernel_rfl) ?_ _
              go_wp2_with fail
              go_roundw
              case measure => have := HJ2.out; simp [intOf] <;> omega
              case rel => exact ⟨t + 1, by rw [HSm.out], by have := HT2.out; omega, by have := HKK.out; simp only [Value.int.injEq, true_and]; omega, hid ⟨H6.out.1, by rw [HSm.out]; exact H6.out.2⟩⟩
          · have htn : t = K - (j + 1) := by have := HKK.out; have := HJ.out; omega
            have hkk2 : kk = K := by have := HKK.out; have := HJ.out; omega
            subst hkk2
            subst htn
            clear hlt ht
            have HAl := hid (HAd.out j HJ.out 0)
            have HPa := hid (adr_parts (L j) 0)
            have HCs := hid (cnt_succ L kk j)
            generalize hwf : (wnt L j (kk - (j + 1))).1 = flag at *
            generalize hwq : (wnt L j (kk - (j + 1))).2.sd = q at *
            clear hwf hwq
            generalize adr (L j) 0 = a at *
            obtain ⟨qs, qp, qw, qx⟩ := q
            have ra : 0 ≤ a ∧ a < 1073741824 := ⟨HPa.out.1, HPa.out.2.1⟩
            have sa : (a - a % 4096) % 4294967296 = a - a % 4096 := by omega
            have sb : 0 ≤ a - a % 4096 := by omega
            by_cases hx : (kk : Int) < (n : Int)
            · have hk : (kk : Int) = 60 := by have := HKn.out; omega
              have hx2 : (60 : Int) < (n : Int) := by omega
              clear hx
              rw [hk]
              cases flag
              · have HCt : Hid (cnt L kk (j + 1) = cnt L kk j + 1) := hid (by rw [HCs.out]; rfl)
                go_upto_region 25 with fail
                have HW := hid (walk_any wr fa _ HT.out.1.a (HU.out.wc c) 0 a ra.1 (by omega))
                obtain ⟨c5, hc5⟩ := MS.wkS_wc ((mpd L kk).wc c) 0 a
                rw [hc5, MS.wc_wc, show ((mpd L kk).wc c).wk 0 a = (mpd L kk).wk 0 a from rfl, show ((mpd L kk).wc c).wkE 0 a = (mpd L kk).wkE 0 a from rfl, HAl.out.1, HAl.out.2.1] at HW
                clear hc5
                unfold Mp.v ptr at HW
                simp only at HW
                go_upto_region 26 with (go_at_call 31; refine HW.out.mono ?_; rintro e w5 ⟨rfl, hr⟩; have K5 := hid ((HT.out.1.rd hr).on (below_one _ (.cells #[.bool qs, .int .i64 qp, .bool qw, .bool qx] 35))); have HC5 := hid ((HT.out.2.rd HT.out.1.a hr (by decide) (by decide) (by decide)).on (below_one _ (.cells #[.bool qs, .int .i64 qp, .bool qw, .bool qx] 35))); have HD5 := hid (Cel.new w5 35 [.bool qs, .int .i64 qp, .bool qw, .bool qx]); clear hr)
                generalize hX5 : World.alloc _ _ = x5 at *
                clear hX5 HW HT
                generalize w5.heap.size = g18 at *
                simp only [mc] at HC5
                have a0 := HC5.out.cell 0
                have a1 := HC5.out.cell 1
                have a2 := HC5.out.cell 2
                have a3 := HC5.out.cell 3
                have b0 := HD5.out.cell 0
                have b1 := HD5.out.cell 1
                have b2 := HD5.out.cell 2
                have b3 := HD5.out.cell 3
                simp only [List.getElem?_cons_zero, List.getElem?_cons_succ] at a0 a1 a2 a3 b0 b1 b2 b3
                have HAw := hid (allowed_any x5 fa (mpd L kk) c5 K5.out.a HU.out a ra.1 (by omega) ⟨qs, qp, qw, qx⟩ 0 HFr.out.1 HFr.out.2 HAl.out.1 HAl.out.2.1 HPa.out.2.2.2.2.2.1)
                unfold Mp.v ptr at HAw
                simp only at HAw
                have HLj := hid (fun x h => HLi.out x lo lc h (a - a % 4096) ⟨qs, qp, qw, qx⟩ HAl.out.2.2)
                unfold Mp.v at HLj
                simp only at HLj
                go_wp2_with (first | (go_at_call 38; refine HAw.out.mono ?_; rintro e w6 ⟨rfl, c6, hr⟩; have K6 := hid (K5.out.rd hr); have HC6 := hid (HC5.out.rd K5.out.a hr (by decide) (by decide) (by decide)); clear hr a0 a1 a2 a3 b0 b1 b2 b3; have a0 := HC6.out.cell 0; have a1 := HC6.out.cell 1; have a2 := HC6.out.cell 2; have a3 := HC6.out.cell 3; simp only [List.getElem?_cons_zero, List.getElem?_cons_succ] at a0 a1 a2 a3) | (go_at_call 39; refine (HLj.out _ (HRow.out _ _ K6.out)).mono ?_; rintro e w7 ⟨rfl, hb⟩; have K7 := hid (K6.out.on hb); clear hb))
                go_roundw
                case measure => have := HJ.out; simp [intOf] <;> omega
                case rel => exact ⟨j + 1, c6, by rw [HCt.out]; simp, by have := HJ.out; omega, by simp, K7⟩
              · have HCt : Hid (cnt L kk (j + 1) = cnt L kk j) := hid (by rw [HCs.out]; rfl)
                go_upto_region 25 with fail
                have HW := hid (walk_any wr fa _ HT.out.1.a (HU.out.wc c) 0 a ra.1 (by omega))
                obtain ⟨c5, hc5⟩ := MS.wkS_wc ((mpd L kk).wc c) 0 a
                rw [hc5, MS.wc_wc, show ((mpd L kk).wc c).wk 0 a = (mpd L kk).wk 0 a from rfl, show ((mpd L kk).wc c).wkE 0 a = (mpd L kk).wkE 0 a from rfl, HAl.out.1, HAl.out.2.1] at HW
                clear hc5
                unfold Mp.v ptr at HW
                simp only at HW
                go_upto_region 26 with (go_at_call 31; refine HW.out.mono ?_; rintro e w5 ⟨rfl, hr⟩; have K5 := hid ((HT.out.1.rd hr).on (below_one _ (.cells #[.bool qs, .int .i64 qp, .bool qw, .bool qx] 35))); have HC5 := hid ((HT.out.2.rd HT.out.1.a hr (by decide) (by decide) (by decide)).on (below_one _ (.cells #[.bool qs, .int .i64 qp, .bool qw, .bool qx] 35))); have HD5 := hid (Cel.new w5 35 [.bool qs, .int .i64 qp, .bool qw, .bool qx]); clear hr)
                generalize hX5 : World.alloc _ _ = x5 at *
                clear hX5 HW HT
                generalize w5.heap.size = g18 at *
                simp only [mc] at HC5
                have a0 := HC5.out.cell 0
                have a1 := HC5.out.cell 1
                have a2 := HC5.out.cell 2
                have a3 := HC5.out.cell 3
                have b0 := HD5.out.cell 0
                have b1 := HD5.out.cell 1
                have b2 := HD5.out.cell 2
                have b3 := HD5.out.cell 3
                simp only [List.getElem?_cons_zero, List.getElem?_cons_succ] at a0 a1 a2 a3 b0 b1 b2 b3
                have HAw := hid (allowed_any x5 fa (mpd L kk) c5 K5.out.a HU.out a ra.1 (by omega) ⟨qs, qp, qw, qx⟩ 0 HFr.out.1 HFr.out.2 HAl.out.1 HAl.out.2.1 HPa.out.2.2.2.2.2.1)
                unfold Mp.v ptr at HAw
                simp only at HAw
                have HLj := hid (fun x h => HLi.out x lo lc h (a - a % 4096) ⟨qs, qp, qw, qx⟩ HAl.out.2.2)
                unfold Mp.v at HLj
                simp only at HLj
                go_wp2_with (first | (go_at_call 38; refine HAw.out.mono ?_; rintro e w6 ⟨rfl, c6, hr⟩; have K6 := hid (K5.out.rd hr); have HC6 := hid (HC5.out.rd K5.out.a hr (by decide) (by decide) (by decide)); clear hr a0 a1 a2 a3 b0 b1 b2 b3; have a0 := HC6.out.cell 0; have a1 := HC6.out.cell 1; have a2 := HC6.out.cell 2; have a3 := HC6.out.cell 3; simp only [List.getElem?_cons_zero, List.getElem?_cons_succ] at a0 a1 a2 a3) | (go_at_call 39; refine (HLj.out _ (HRow.out _ _ K6.out)).mono ?_; rintro e w7 ⟨rfl, hb⟩; have K7 := hid (K6.out.on hb); clear hb))
                go_roundw
                case measure => have := HJ.out; simp [intOf] <;> omega
                case rel => exact ⟨j + 1, c6, by rw [HCt.out], by have := HJ.out; omega, by simp, K7⟩
            · have hx' : (n : Int) ≤ (kk : Int) := by omega
              clear hx
              cases flag
              · have HCt : Hid (cnt L kk (j + 1) = cnt L kk j + 1) := hid (by rw [HCs.out]; rfl)
                go_upto_region 25 with fail
                have HW := hid (walk_any wr fa _ HT.out.1.a (HU.out.wc c) 0 a ra.1 (by omega))
                obtain ⟨c5, hc5⟩ := MS.wkS_wc ((mpd L kk).wc c) 0 a
                rw [hc5, MS.wc_wc, show ((mpd L kk).wc c).wk 0 a = (mpd L kk).wk 0 a from rfl, show ((mpd L kk).wc c).wkE 0 a = (mpd L kk).wkE 0 a from rfl, HAl.out.1, HAl.out.2.1] at HW
                clear hc5
                unfold Mp.v ptr at HW
                simp only at HW
                go_upto_region 26 with (go_at_call 31; refine HW.out.mono ?_; rintro e w5 ⟨rfl, hr⟩; have K5 := hid ((HT.out.1.rd hr).on (below_one _ (.cells #[.bool qs, .int .i64 qp, .bool qw, .bool qx] 35))); have HC5 := hid ((HT.out.2.rd HT.out.1.a hr (by decide) (by decide) (by decide)).on (below_one _ (.cells #[.bool qs, .int .i64 qp, .bool qw, .bool qx] 35))); have HD5 := hid (Cel.new w5 35 [.bool qs, .int .i64 qp, .bool qw, .bool qx]); clear hr)
                generalize hX5 : World.alloc _ _ = x5 at *
                clear hX5 HW HT
                generalize w5.heap.size = g18 at *
                simp only [mc] at HC5
                have a0 := HC5.out.cell 0
                have a1 := HC5.out.cell 1
                have a2 := HC5.out.cell 2
                have a3 := HC5.out.cell 3
                have b0 := HD5.out.cell 0
                have b1 := HD5.out.cell 1
                have b2 := HD5.out.cell 2
                have b3 := HD5.out.cell 3
                simp only [List.getElem?_cons_zero, List.getElem?_cons_succ] at a0 a1 a2 a3 b0 b1 b2 b3
                have HAw := hid (allowed_any x5 fa (mpd L kk) c5 K5.out.a HU.out a ra.1 (by omega) ⟨qs, qp, qw, qx⟩ 0 HFr.out.1 HFr.out.2 HAl.out.1 HAl.out.2.1 HPa.out.2.2.2.2.2.1)
                unfold Mp.v ptr at HAw
                simp only at HAw
                have HLj := hid (fun x h => HLi.out x lo lc h (a - a % 4096) ⟨qs, qp, qw, qx⟩ HAl.out.2.2)
                unfold Mp.v at HLj
                simp only at HLj
                go_wp2_with (first | (go_at_call 38; refine HAw.out.mono ?_; rintro e w6 ⟨rfl, c6, hr⟩; have K6 := hid (K5.out.rd hr); have HC6 := hid (HC5.out.rd K5.out.a hr (by decide) (by decide) (by decide)); clear hr a0 a1 a2 a3 b0 b1 b2 b3; have a0 := HC6.out.cell 0; have a1 := HC6.out.cell 1; have a2 := HC6.out.cell 2; have a3 := HC6.out.cell 3; simp only [List.getElem?_cons_zero, List.getElem?_cons_succ] at a0 a1 a2 a3) | (go_at_call 39; refine (HLj.out _ (HRow.out _ _ K6.out)).mono ?_; rintro e w7 ⟨rfl, hb⟩; have K7 := hid (K6.out.on hb); clear hb))
                go_roundw
                case measure => have := HJ.out; simp [intOf] <;> omega
                case rel => exact ⟨j + 1, c6, by rw [HCt.out]; simp, by have := HJ.out; omega, by simp, K7⟩
              · have HCt : Hid (cnt L kk (j + 1) = cnt L kk j) := hid (by rw [HCs.out]; rfl)
                go_upto_region 25 with fail
                have HW := hid (walk_any wr fa _ HT.out.1.a (HU.out.wc c) 0 a ra.1 (by omega))
                obtain ⟨c5, hc5⟩ := MS.wkS_wc ((mpd L kk).wc c) 0 a
                rw [hc5, MS.wc_wc, show ((mpd L kk).wc c).wk 0 a = (mpd L kk).wk 0 a from rfl, show ((mpd L kk).wc c).wkE 0 a = (mpd L kk).wkE 0 a from rfl, HAl.out.1, HAl.out.2.1] at HW
                clear hc5
                unfold Mp.v ptr at HW
                simp only at HW
                go_upto_region 26 with (go_at_call 31; refine HW.out.mono ?_; rintro e w5 ⟨rfl, hr⟩; have K5 := hid ((HT.out.1.rd hr).on (below_one _ (.cells #[.bool qs, .int .i64 qp, .bool qw, .bool qx] 35))); have HC5 := hid ((HT.out.2.rd HT.out.1.a hr (by decide) (by decide) (by decide)).on (below_one _ (.cells #[.bool qs, .int .i64 qp, .bool qw, .bool qx] 35))); have HD5 := hid (Cel.new w5 35 [.bool qs, .int .i64 qp, .bool qw, .bool qx]); clear hr)
                generalize hX5 : World.alloc _ _ = x5 at *
                clear hX5 HW HT
                generalize w5.heap.size = g18 at *
                simp only [mc] at HC5
                have a0 := HC5.out.cell 0
                have a1 := HC5.out.cell 1
                have a2 := HC5.out.cell 2
                have a3 := HC5.out.cell 3
                have b0 := HD5.out.cell 0
                have b1 := HD5.out.cell 1
                have b2 := HD5.out.cell 2
                have b3 := HD5.out.cell 3
                simp only [List.getElem?_cons_zero, List.getElem?_cons_succ] at a0 a1 a2 a3 b0 b1 b2 b3
                have HAw := hid (allowed_any x5 fa (mpd L kk) c5 K5.out.a HU.out a ra.1 (by omega) ⟨qs, qp, qw, qx⟩ 0 HFr.out.1 HFr.out.2 HAl.out.1 HAl.out.2.1 HPa.out.2.2.2.2.2.1)
                unfold Mp.v ptr at HAw
                simp only at HAw
                have HLj := hid (fun x h => HLi.out x lo lc h (a - a % 4096) ⟨qs, qp, qw, qx⟩ HAl.out.2.2)
                unfold Mp.v at HLj
                simp only at HLj
                go_wp2_with (first | (go_at_call 38; refine HAw.out.mono ?_; rintro e w6 ⟨rfl, c6, hr⟩; have K6 := hid (K5.out.rd hr); have HC6 := hid (HC5.out.rd K5.out.a hr (by decide) (by decide) (by decide)); clear hr a0 a1 a2 a3 b0 b1 b2 b3; have a0 := HC6.out.cell 0; have a1 := HC6.out.cell 1; have a2 := HC6.out.cell 2; have a3 := HC6.out.cell 3; simp only [List.getElem?_cons_zero, List.getElem?_cons_succ] at a0 a1 a2 a3) | (go_at_call 39; refine (HLj.out _ (HRow.out _ _ K6.out)).mono ?_; rintro e w7 ⟨rfl, hb⟩; have K7 := hid (K6.out.on hb); clear hb))
                go_roundw
                case measure => have := HJ.out; simp [intOf] <;> omega
                case rel => exact ⟨j + 1, c6, by rw [HCt.out], by have := HJ.out; omega, by simp, K7⟩
    · have hjK : j = K := by omega
      subst hjK
      clear hlt hj
      have hcn : ((cnt L j j : Nat) : Int) = (na : Int) := by rw [HCn.out]
      rw [hcn]
      by_cases hx : (j : Int) < (n : Int)
      · have hk : (j : Int) = 60 := by have := HKn.out; omega
        have hx2 : (60 : Int) < (n : Int) := by omega
        clear hx
        rw [hk] at *
        clear hk
        go_upto_region 30 with fail
        go_wp2_with fail
        go_loopw [20] (fun i wr => ∃ t : Nat, 1 ≤ t ∧ (t ≤ na ∨ t = 1) ∧ i = .int .i64 (t : Int) ∧ Hid (KR W wr fa ((mpd L j).wc c) [(.slice lo na lc, A)] [] (.slice none 0 0) [] (.slice none 0 0) [])) (fun i _ => na + 1 - (intOf i).toNat)
        case atStart => exact ⟨1, Nat.le_refl _, .inr rfl, rfl, HQ⟩
        case round =>
          obtain ⟨t, t1, t2, rfl, HT⟩ := hrel
          clear HQ
          by_cases htl : t < na
          · have s1 : (t : Int) < (na : Int) := by omega
            obtain ⟨y, hy⟩ : ∃ y, A[t]? = some y := ⟨A[t]'(by rw [HN.out]; exact htl), List.getElem?_eq_getElem _⟩
            obtain ⟨z, hz⟩ : ∃ z, A[t - 1]? = some z := ⟨A[t - 1]'(by rw [HN.out]; omega), List.getElem?_eq_getElem _⟩
            have hyz : z.1 < y.1 := by
              have h := List.pairwise_iff_getElem.1 HSo.out.1 (t - 1) t (by rw [HN.out]; omega) (by rw [HN.out]; exact htl) (by omega)
              rw [(List.getElem?_eq_some_iff.1 hy).2, (List.getElem?_eq_some_iff.1 hz).2] at h
              exact h
            have hle : (decide (y.1 ≤ z.1)) = false := by simp; omega
            go_upto_region 33 with fail
            have HD := hid (HT.out.on (Below.refl _ _).drew)
            obtain ⟨g, hg, _⟩ := HRow.out _ _ HT.out t y hy
            subst hg
            have HCy : Hid (∀ x, KR W x fa ((mpd L j).wc c) [(.slice (some ⟨g, 0, none⟩) na lc, A)] [] (.slice none 0 0) [] (.slice none 0 0) [] → x.cell? ⟨g, t * 5, none⟩ = some (.int .u32 y.1) ∧ x.cell? ⟨g, (t - 1) * 5, none⟩ = some (.int .u32 z.1)) := hid (fun x h => by
              obtain ⟨g1, e1, _, h1, _⟩ := HRow.out _ _ h t y hy
              obtain ⟨g2, e2, _, h2, _⟩ := HRow.out _ _ h (t - 1) z hz
              cases e1
              cases e2
              exact ⟨h1, h2⟩)
            clear hy hz
            have et : (t : Int) - 1 = ((t - 1 : Nat) : Int) := by omega
            have et2 : ((t - 1 : Nat) : Int) < (na : Int) := by omega
            generalize hs1 : t - 1 = u at *
            clear hs1
            generalize y.1 = yv at *
            generalize z.1 = zv at *
            refine wp_region_held_drew (S := fun x => KR W x fa ((mpd L j).wc c) [(.slice (some ⟨g, 0, none⟩) na lc, A)] [] (.slice none 0 0) [] (.slice none 0 0) []) (by kernel_rfl) HD.out (fun hHeld => ?_)
            refine wpAnyH_take (i := 0) (oi := { dst := some 142, op := Op.move (Operand.tmp 9), type := 60, pos := "outright.go:134", after := #[], guard := none }) (v := .slice (some ⟨g, 0, none⟩) na lc) rfl (by kernel_rfl) (by kernel_rfl) (by kernel_rfl) (fun _ _ _ h => h) (Or.inl ⟨by rfl, by intro w hSw; go_simp⟩) (by assumption) ?_
            simp only [Act.put, List.setIfInBounds_toArray, List.set_cons_zero, List.set_cons_succ]
            refine wpAnyH_take (i := 1) (oi := { dst := some 143, op := Op.move (Operand.tmp 20), type := 3, pos := "outright.go:134", after := #[], guard := none }) (v := .int .i64 (t : Int)) rfl (by kernel_rfl) (by kernel_rfl) (by kernel_rfl) (fun _ _ _ h => h) (Or.inl ⟨by rfl, by intro w hSw; go_simp⟩) (by assumption) ?_
            simp only [Act.put, List.setIfInBounds_toArray, List.set_cons_zero, List.set_cons_succ]
            refine wpAnyH_take (i := 2) (oi := { dst := some 144, op := Op.indexAddr 60 (Operand.tmp 142) (Operand.tmp 143), type := 0, pos := "outright.go:134", after := #[{ on := 0, ground := Ground.data }, { on := 1, ground := Ground.data }], guard := none }) (v := .pointer (some ⟨g, t * 5, none⟩)) rfl (by kernel_rfl) (by kernel_rfl) (by kernel_rfl) (fun _ _ _ h => h) (Or.inl ⟨by rfl, by intro w hSw; go_simp⟩) (by assumption) ?_
            simp only [Act.put, List.setIfInBounds_toArray, List.set_cons_zero, List.set_cons_succ]
            refine wpAnyH_take (i := 3) (oi := { dst := some 145, op := Op.fieldAddr 67 (Operand.tmp 144) 0, type := 0, pos := "outright.go:134", after := #[{ on := 2, ground := Ground.data }], guard := none }) (v := .pointer (some ⟨g, t * 5, none⟩)) rfl (by kernel_rfl) (by kernel_rfl) (by kernel_rfl) (fun _ _ _ h => h) (Or.inl ⟨by rfl, by intro w hSw; go_simp⟩) (by assumption) ?_
            simp only [Act.put, List.setIfInBounds_toArray, List.set_cons_zero, List.set_cons_succ]
            refine wpAnyH_take (i := 4) (oi := { dst := some 146, op := Op.load 22 (Operand.tmp 145), type := 22, pos := "outright.go:134", after := #[{ on := 3, ground := Ground.data }], guard := none }) (v := .int .u32 yv) rfl (by kernel_rfl) (by kernel_rfl) (by kernel_rfl) (fun _ _ _ h => h) (Or.inl ⟨by rfl, by intro w hSw; have h0 := (HCy.out _ hSw).1; go_simp⟩) (by assumption) ?_
            simp only [Act.put, List.setIfInBounds_toArray, List.set_cons_zero, List.set_cons_succ]
            refine wpAnyH_take (i := 5) (oi := { dst := some 147, op := Op.move (Operand.tmp 9), type := 60, pos := "outright.go:134", after := #[], guard := none }) (v := .slice (some ⟨g, 0, none⟩) na lc) rfl (by kernel_rfl) (by kernel_rfl) (by kernel_rfl) (fun _ _ _ h => h) (Or.inl ⟨by rfl, by intro w hSw; go_simp⟩) (by assumption) ?_
            simp only [Act.put, List.setIfInBounds_toArray, List.set_cons_zero, List.set_cons_succ]
            refine wpAnyH_take (i := 6) (oi := { dst := some 148, op := Op.move (Operand.tmp 20), type := 3, pos := "outright.go:134", after := #[], guard := none }) (v := .int .i64 (t : Int)) rfl (by kernel_rfl) (by kernel_rfl) (by kernel_rfl) (fun _ _ _ h => h) (Or.inl ⟨by rfl, by intro w hSw; go_simp⟩) (by assumption) ?_
            simp only [Act.put, List.setIfInBounds_toArray, List.set_cons_zero, List.set_cons_succ]
            refine wpAnyH_take (i := 7) (oi := { dst := some 149, op := Op.binOp BinOp.sub 3 (Operand.tmp 148) (Operand.const (Value.int IntKind.i64 1)) 3, type := 3, pos := "outright.go:134", after := #[{ on := 6, ground := Ground.data }], guard := none }) (v := .int .i64 (u : Int)) rfl (by kernel_rfl) (by kernel_rfl) (by kernel_rfl) (fun _ _ _ h => h) (Or.inl ⟨by rfl, by intro w hSw; go_simp; rw [IntKind.wrap_i64]; omega⟩) (by assumption) ?_
            simp only [Act.put, List.setIfInBounds_toArray, List.set_cons_zero, List.set_cons_succ]
            refine wpAnyH_take (i := 8) (oi := { dst := some 150, op := Op.indexAddr 60 (Operand.tmp 147) (Operand.tmp 149), type := 0, pos := "outright.go:134", after := #[{ on := 5, ground := Ground.data }, { on := 7, ground := Ground.data }], guard := none }) (v := .pointer (some ⟨g, u * 5, none⟩)) rfl (by kernel_rfl) (by kernel_rfl) (by kernel_rfl) (fun _ _ _ h => h) (Or.inl ⟨by rfl, by intro w hSw; go_simp⟩) (by assumption) ?_
            simp only [Act.put, List.setIfInBounds_toArray, List.set_cons_zero, List.set_cons_succ]
            refine wpAnyH_take (i := 9) (oi := { dst := some 151, op := Op.fieldAddr 67 (Operand.tmp 150) 0, type := 0, pos := "outright.go:134", after := #[{ on := 8, ground := Ground.data }], guard := none }) (v := .pointer (some ⟨g, u * 5, none⟩)) rfl (by kernel_rfl) (by kernel_rfl) (by kernel_rfl) (fun _ _ _ h => h) (Or.inl ⟨by rfl, by intro w hSw; go_simp⟩) (by assumption) ?_
            simp only [Act.put, List.setIfInBounds_toArray, List.set_cons_zero, List.set_cons_succ]
            refine wpAnyH_take (i := 10) (oi := { dst := some 152, op := Op.load 22 (Operand.tmp 151), type := 22, pos := "outright.go:134", after := #[{ on := 9, ground := Ground.data }], guard := none }) (v := .int .u32 zv) rfl (by kernel_rfl) (by kernel_rfl) (by kernel_rfl) (fun _ _ _ h => h) (Or.inl ⟨by rfl, by intro w hSw; have h0 := (HCy.out _ hSw).2; go_simp⟩) (by assumption) ?_
            simp only [Act.put, List.setIfInBounds_toArray, List.set_cons_zero, List.set_cons_succ]
            refine wpAnyH_take (i := 11) (oi := { dst := some 153, op := Op.binOp BinOp.leq 22 (Operand.tmp 146) (Operand.tmp 152) 22, type := 4, pos := "outright.go:134", after := #[{ on := 4, ground := Ground.data }, { on := 10, ground := Ground.data }], guard := none }) (v := .bool false) rfl (by kernel_rfl) (by kernel_rfl) (by kernel_rfl) (fun _ _ _ h => h) (Or.inl ⟨by rfl, by intro w hSw; go_simp⟩) (by assumption) ?_
            simp only [Act.put, List.setIfInBounds_toArray, List.set_cons_zero, List.set_cons_succ]
            refine wpAnyH_done (by kernel_rfl) ?_ _
            go_wp2_with fail
            go_roundw
            case measure => simp [intOf] <;> omega
            case rel => exact ⟨t + 1, by omega, .inl (by omega), by simp, HD⟩
          · have s1 : (na : Int) ≤ (t : Int) := by omega
            clear htl t1 t2
            have b1 : 0 ≤ va % 1073741824 - va % 4 := by omega
            have b2 : va % 1073741824 - va % 4 < 1073741824 := by omega
            have b3 : (va % 1073741824 - va % 4) % 4 = 0 := by omega
            go_upto_region 37 with fail
            clear v0 v1 s1
            generalize va % 1073741824 - va % 4 = vb at *
            have b6 : (vb - vb % 4096) % 4294967296 = vb - vb % 4096 := by omega
            have b7 : 0 ≤ vb - vb % 4096 := by omega
            go_wp2_with fail
            go_loopw [21] (fun i wr => ∃ e : Nat, e ≤ na ∧ i = .int .i64 (e : Int) ∧ Hid (KR W wr fa ((mpd L j).wc c) [(.slice lo na lc, A)] [] (.slice none 0 0) [] (.slice none 0 0) [] ∧ ∀ k z, k < e → A[k]? = some z → z.1 ≠ vb - vb % 4096)) (fun i _ => na - (intOf i).toNat)
            case atStart => exact ⟨0, Nat.zero_le _, rfl, hid ⟨HT.out, fun k z h => absurd h (by omega)⟩⟩
            case round =>
              obtain ⟨e, he, rfl, HE⟩ := hrel
              clear HT
              by_cases hel : e < na
              · have s2 : (e : Int) < (na : Int) := by omega
                obtain ⟨y, hy⟩ : ∃ y, A[e]? = some y := ⟨A[e]'(by rw [HN.out]; exact hel), List.getElem?_eq_getElem _⟩
                have HEB := hid HE.out.1.below
                obtain ⟨g, hg, _, c0, _⟩ := HRow.out _ _ HE.out.1 e y hy
                subst hg
                have HY := hid hy
                clear hy
                by_cases hyv : y.1 = vb - vb % 4096
                · rw [hyv] at c0
                  go_wp2_with fail
                  go_ret
                  exact ⟨rfl, HEB.out⟩
                · have hyb : (y.1 == vb - vb % 4096) = false := by simpa using hyv
                  have HYv := hid hyv
                  clear hyv
                  have HZ : Hid (∀ k z, k < e + 1 → A[k]? = some z → z.1 ≠ vb - vb % 4096) := hid (fun k z hk hz => by
                    by_cases ek : k = e
                    · subst ek
                      rw [HY.out] at hz
                      cases hz
                      exact HYv.out
                    · exact HE.out.2 k z (by omega) hz)
                  go_wp2_with fail
                  go_roundw
                  case measure => simp [intOf] <;> omega
                  case rel => exact ⟨e + 1, by omega, by simp, hid ⟨HE.out.1, HZ.out⟩⟩
              · have hen : e = na := by omega
                subst hen
                have HFr := hid (HFa.out vb b1 b2 b3 (fun z hz => by
                  obtain ⟨k, hk⟩ := List.getElem?_of_mem hz
                  exact HE.out.2 k z (by have := (List.getElem?_eq_some_iff.1 hk).1; have := HN.out; omega) hk))
                have HW := hid (walk_any wr fa _ HE.out.1.a (HU.out.wc c) 0 vb b1 (by omega))
                obtain ⟨c5, hc5⟩ := MS.wkS_wc ((mpd L j).wc c) 0 vb
                rw [hc5, MS.wc_wc, show ((mpd L j).wc c).wk 0 vb = (mpd L j).wk 0 vb from rfl, show ((mpd L j).wc c).wkE 0 vb = (mpd L j).wkE 0 vb from rfl, HFr.out.1, HFr.out.2] at HW
                clear hc5
                unfold Mp.v Mp.z ptr at HW
                simp only at HW
                go_wp2_with (go_at_call 31; refine HW.out.mono ?_; rintro e9 w9 ⟨rfl, hr⟩; have K9 := hid (HE.out.1.rd hr); clear hr)
                go_ret
                exact ⟨rfl, below_on K9.out.below (below_one _ _)⟩
      · have hx' : (n : Int) ≤ (j : Int) := by omega
        clear hx
        go_upto_region 30 with fail
        go_wp2_with fail
        go_loopw [20] (fun i wr => ∃ t : Nat, 1 ≤ t ∧ (t ≤ na ∨ t = 1) ∧ i = .int .i64 (t : Int) ∧ Hid (KR W wr fa ((mpd L j).wc c) [(.slice lo na lc, A)] [] (.slice none 0 0) [] (.slice none 0 0) [])) (fun i _ => na + 1 - (intOf i).toNat)
        case atStart => exact ⟨1, Nat.le_refl _, .inr rfl, rfl, HQ⟩
        case round =>
          obtain ⟨t, t1, t2, rfl, HT⟩ := hrel
          clear HQ
          by_cases htl : t < na
          · have s1 : (t : Int) < (na : Int) := by omega
            obtain ⟨y, hy⟩ : ∃ y, A[t]? = some y := ⟨A[t]'(by rw [HN.out]; exact htl), List.getElem?_eq_getElem _⟩
            obtain ⟨z, hz⟩ : ∃ z, A[t - 1]? = some z := ⟨A[t - 1]'(by rw [HN.out]; omega), List.getElem?_eq_getElem _⟩
            have hyz : z.1 < y.1 := by
              have h := List.pairwise_iff_getElem.1 HSo.out.1 (t - 1) t (by rw [HN.out]; omega) (by rw [HN.out]; exact htl) (by omega)
              rw [(List.getElem?_eq_some_iff.1 hy).2, (List.getElem?_eq_some_iff.1 hz).2] at h
              exact h
            have hle : (decide (y.1 ≤ z.1)) = false := by simp; omega
            go_upto_region 33 with fail
            have HD := hid (HT.out.on (Below.refl _ _).drew)
            obtain ⟨g, hg, _⟩ := HRow.out _ _ HT.out t y hy
            subst hg
            have HCy : Hid (∀ x, KR W x fa ((mpd L j).wc c) [(.slice (some ⟨g, 0, none⟩) na lc, A)] [] (.slice none 0 0) [] (.slice none 0 0) [] → x.cell? ⟨g, t * 5, none⟩ = some (.int .u32 y.1) ∧ x.cell? ⟨g, (t - 1) * 5, none⟩ = some (.int .u32 z.1)) := hid (fun x h => by
              obtain ⟨g1, e1, _, h1, _⟩ := HRow.out _ _ h t y hy
              obtain ⟨g2, e2, _, h2, _⟩ := HRow.out _ _ h (t - 1) z hz
              cases e1
              cases e2
              exact ⟨h1, h2⟩)
            clear hy hz
            have et : (t : Int) - 1 = ((t - 1 : Nat) : Int) := by omega
            have et2 : ((t - 1 : Nat) : Int) < (na : Int) := by omega
            generalize hs1 : t - 1 = u at *
            clear hs1
            generalize y.1 = yv at *
            generalize z.1 = zv at *
            refine wp_region_held_drew (S := fun x => KR W x fa ((mpd L j).wc c) [(.slice (some ⟨g, 0, none⟩) na lc, A)] [] (.slice none 0 0) [] (.slice none 0 0) []) (by kernel_rfl) HD.out (fun hHeld => ?_)
            refine wpAnyH_take (i := 0) (oi := { dst := some 142, op := Op.move (Operand.tmp 9), type := 60, pos := "outright.go:134", after := #[], guard := none }) (v := .slice (some ⟨g, 0, none⟩) na lc) rfl (by kernel_rfl) (by kernel_rfl) (by kernel_rfl) (fun _ _ _ h => h) (Or.inl ⟨by rfl, by intro w hSw; go_simp⟩) (by assumption) ?_
            simp only [Act.put, List.setIfInBounds_toArray, List.set_cons_zero, List.set_cons_succ]
            refine wpAnyH_take (i := 1) (oi := { dst := some 143, op := Op.move (Operand.tmp 20), type := 3, pos := "outright.go:134", after := #[], guard := none }) (v := .int .i64 (t : Int)) rfl (by kernel_rfl) (by kernel_rfl) (by kernel_rfl) (fun _ _ _ h => h) (Or.inl ⟨by rfl, by intro w hSw; go_simp⟩) (by assumption) ?_
            simp only [Act.put, List.setIfInBounds_toArray, List.set_cons_zero, List.set_cons_succ]
            refine wpAnyH_take (i := 2) (oi := { dst := some 144, op := Op.indexAddr 60 (Operand.tmp 142) (Operand.tmp 143), type := 0, pos := "outright.go:134", after := #[{ on := 0, ground := Ground.data }, { on := 1, ground := Ground.data }], guard := none }) (v := .pointer (some ⟨g, t * 5, none⟩)) rfl (by kernel_rfl) (by kernel_rfl) (by kernel_rfl) (fun _ _ _ h => h) (Or.inl ⟨by rfl, by intro w hSw; go_simp⟩) (by assumption) ?_
            simp only [Act.put, List.setIfInBounds_toArray, List.set_cons_zero, List.set_cons_succ]
            refine wpAnyH_take (i := 3) (oi := { dst := some 145, op := Op.fieldAddr 67 (Operand.tmp 144) 0, type := 0, pos := "outright.go:134", after := #[{ on := 2, ground := Ground.data }], guard := none }) (v := .pointer (some ⟨g, t * 5, none⟩)) rfl (by kernel_rfl) (by kernel_rfl) (by kernel_rfl) (fun _ _ _ h => h) (Or.inl ⟨by rfl, by intro w hSw; go_simp⟩) (by assumption) ?_
            simp only [Act.put, List.setIfInBounds_toArray, List.set_cons_zero, List.set_cons_succ]
            refine wpAnyH_take (i := 4) (oi := { dst := some 146, op := Op.load 22 (Operand.tmp 145), type := 22, pos := "outright.go:134", after := #[{ on := 3, ground := Ground.data }], guard := none }) (v := .int .u32 yv) rfl (by kernel_rfl) (by kernel_rfl) (by kernel_rfl) (fun _ _ _ h => h) (Or.inl ⟨by rfl, by intro w hSw; have h0 := (HCy.out _ hSw).1; go_simp⟩) (by assumption) ?_
            simp only [Act.put, List.setIfInBounds_toArray, List.set_cons_zero, List.set_cons_succ]
            refine wpAnyH_take (i := 5) (oi := { dst := some 147, op := Op.move (Operand.tmp 9), type := 60, pos := "outright.go:134", after := #[], guard := none }) (v := .slice (some ⟨g, 0, none⟩) na lc) rfl (by kernel_rfl) (by kernel_rfl) (by kernel_rfl) (fun _ _ _ h => h) (Or.inl ⟨by rfl, by intro w hSw; go_simp⟩) (by assumption) ?_
            simp only [Act.put, List.setIfInBounds_toArray, List.set_cons_zero, List.set_cons_succ]
            refine wpAnyH_take (i := 6) (oi := { dst := some 148, op := Op.move (Operand.tmp 20), type := 3, pos := "outright.go:134", after := #[], guard := none }) (v := .int .i64 (t : Int)) rfl (by kernel_rfl) (by kernel_rfl) (by kernel_rfl) (fun _ _ _ h => h) (Or.inl ⟨by rfl, by intro w hSw; go_simp⟩) (by assumption) ?_
            simp only [Act.put, List.setIfInBounds_toArray, List.set_cons_zero, List.set_cons_succ]
            refine wpAnyH_take (i := 7) (oi := { dst := some 149, op := Op.binOp BinOp.sub 3 (Operand.tmp 148) (Operand.const (Value.int IntKind.i64 1)) 3, type := 3, pos := "outright.go:134", after := #[{ on := 6, ground := Ground.data }], guard := none }) (v := .int .i64 (u : Int)) rfl (by kernel_rfl) (by kernel_rfl) (by kernel_rfl) (fun _ _ _ h => h) (Or.inl ⟨by rfl, by intro w hSw; go_simp; rw [IntKind.wrap_i64]; omega⟩) (by assumption) ?_
            simp only [Act.put, List.setIfInBounds_toArray, List.set_cons_zero, List.set_cons_succ]
            refine wpAnyH_take (i := 8) (oi := { dst := some 150, op := Op.indexAddr 60 (Operand.tmp 147) (Operand.tmp 149), type := 0, pos := "outright.go:134", after := #[{ on := 5, ground := Ground.data }, { on := 7, ground := Ground.data }], guard := none }) (v := .pointer (some ⟨g, u * 5, none⟩)) rfl (by kernel_rfl) (by kernel_rfl) (by kernel_rfl) (fun _ _ _ h => h) (Or.inl ⟨by rfl, by intro w hSw; go_simp⟩) (by assumption) ?_
            simp only [Act.put, List.setIfInBounds_toArray, List.set_cons_zero, List.set_cons_succ]
            refine wpAnyH_take (i := 9) (oi := { dst := some 151, op := Op.fieldAddr 67 (Operand.tmp 150) 0, type := 0, pos := "outright.go:134", after := #[{ on := 8, ground := Ground.data }], guard := none }) (v := .pointer (some ⟨g, u * 5, none⟩)) rfl (by kernel_rfl) (by kernel_rfl) (by kernel_rfl) (fun _ _ _ h => h) (Or.inl ⟨by rfl, by intro w hSw; go_simp⟩) (by assumption) ?_
            simp only [Act.put, List.setIfInBounds_toArray, List.set_cons_zero, List.set_cons_succ]
            refine wpAnyH_take (i := 10) (oi := { dst := some 152, op := Op.load 22 (Operand.tmp 151), type := 22, pos := "outright.go:134", after := #[{ on := 9, ground := Ground.data }], guard := none }) (v := .int .u32 zv) rfl (by kernel_rfl) (by kernel_rfl) (by kernel_rfl) (fun _ _ _ h => h) (Or.inl ⟨by rfl, by intro w hSw; have h0 := (HCy.out _ hSw).2; go_simp⟩) (by assumption) ?_
            simp only [Act.put, List.setIfInBounds_toArray, List.set_cons_zero, List.set_cons_succ]
            refine wpAnyH_take (i := 11) (oi := { dst := some 153, op := Op.binOp BinOp.leq 22 (Operand.tmp 146) (Operand.tmp 152) 22, type := 4, pos := "outright.go:134", after := #[{ on := 4, ground := Ground.data }, { on := 10, ground := Ground.data }], guard := none }) (v := .bool false) rfl (by kernel_rfl) (by kernel_rfl) (by kernel_rfl) (fun _ _ _ h => h) (Or.inl ⟨by rfl, by intro w hSw; go_simp⟩) (by assumption) ?_
            simp only [Act.put, List.setIfInBounds_toArray, List.set_cons_zero, List.set_cons_succ]
            refine wpAnyH_done (by kernel_rfl) ?_ _
            go_wp2_with fail
            go_roundw
            case measure => simp [intOf] <;> omega
            case rel => exact ⟨t + 1, by omega, .inl (by omega), by simp, HD⟩
          · have s1 : (na : Int) ≤ (t : Int) := by omega
            clear htl t1 t2
            have b1 : 0 ≤ va % 1073741824 - va % 4 := by omega
            have b2 : va % 1073741824 - va % 4 < 1073741824 := by omega
            have b3 : (va % 1073741824 - va % 4) % 4 = 0 := by omega
            go_upto_region 37 with fail
            clear v0 v1 s1
            generalize va % 1073741824 - va % 4 = vb at *
            have b6 : (vb - vb % 4096) % 4294967296 = vb - vb % 4096 := by omega
            have b7 : 0 ≤ vb - vb % 4096 := by omega
            go_wp2_with fail
            go_loopw [21] (fun i wr => ∃ e : Nat, e ≤ na ∧ i = .int .i64 (e : Int) ∧ Hid (KR W wr fa ((mpd L j).wc c) [(.slice lo na lc, A)] [] (.slice none 0 0) [] (.slice none 0 0) [] ∧ ∀ k z, k < e → A[k]? = some z → z.1 ≠ vb - vb % 4096)) (fun i _ => na - (intOf i).toNat)
            case atStart => exact ⟨0, Nat.zero_le _, rfl, hid ⟨HT.out, fun k z h => absurd h (by omega)⟩⟩
            case round =>
              obtain ⟨e, he, rfl, HE⟩ := hrel
              clear HT
              by_cases hel : e < na
              · have s2 : (e : Int) < (na : Int) := by omega
                obtain ⟨y, hy⟩ : ∃ y, A[e]? = some y := ⟨A[e]'(by rw [HN.out]; exact hel), List.getElem?_eq_getElem _⟩
                have HEB := hid HE.out.1.below
                obtain ⟨g, hg, _, c0, _⟩ := HRow.out _ _ HE.out.1 e y hy
                subst hg
                have HY := hid hy
                clear hy
                by_cases hyv : y.1 = vb - vb % 4096
                · rw [hyv] at c0
                  go_wp2_with fail
                  go_ret
                  exact ⟨rfl, HEB.out⟩
                · have hyb : (y.1 == vb - vb % 4096) = false := by simpa using hyv
                  have HYv := hid hyv
                  clear hyv
                  have HZ : Hid (∀ k z, k < e + 1 → A[k]? = some z → z.1 ≠ vb - vb % 4096) := hid (fun k z hk hz => by
                    by_cases ek : k = e
                    · subst ek
                      rw [HY.out] at hz
                      cases hz
                      exact HYv.out
                    · exact HE.out.2 k z (by omega) hz)
                  go_wp2_with fail
                  go_roundw
                  case measure => simp [intOf] <;> omega
                  case rel => exact ⟨e + 1, by omega, by simp, hid ⟨HE.out.1, HZ.out⟩⟩
              · have hen : e = na := by omega
                subst hen
                have HFr := hid (HFa.out vb b1 b2 b3 (fun z hz => by
                  obtain ⟨k, hk⟩ := List.getElem?_of_mem hz
                  exact HE.out.2 k z (by have := (List.getElem?_eq_some_iff.1 hk).1; have := HN.out; omega) hk))
                have HW := hid (walk_any wr fa _ HE.out.1.a (HU.out.wc c) 0 vb b1 (by omega))
                obtain ⟨c5, hc5⟩ := MS.wkS_wc ((mpd L j).wc c) 0 vb
                rw [hc5, MS.wc_wc, show ((mpd L j).wc c).wk 0 vb = (mpd L j).wk 0 vb from rfl, show ((mpd L j).wc c).wkE 0 vb = (mpd L j).wkE 0 vb from rfl, HFr.out.1, HFr.out.2] at HW
                clear hc5
                unfold Mp.v Mp.z ptr at HW
                simp only at HW
                go_wp2_with (go_at_call 31; refine HW.out.mono ?_; rintro e9 w9 ⟨rfl, hr⟩; have K9 := hid (HE.out.1.rd hr); clear hr)
                go_ret
                exact ⟨rfl, below_on K9.out.below (below_one _ _)⟩
end Go.Proofs.Ytmmphmdmocfnpaa
