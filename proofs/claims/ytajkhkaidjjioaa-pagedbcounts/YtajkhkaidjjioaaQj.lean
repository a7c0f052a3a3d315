/- PagedbCounts 5. -/
import Derived.Test.YtajkhkaidjjioaaQi
import Derived.Test.YtajkhkaidjjioaaPd
namespace Go.Proofs.Ytajkhkaidjjioaa
open Go.RowKit
set_option maxHeartbeats 4000000
set_option maxRecDepth 100000
/-- The database, its clone, the clone of its memory, the call. -/
structure CT (W x : World) (p : Dp) (d : DS) (po : Dp) (e : DS) (f : Fp) (m : MS) (L : List (Nat × TypeId × List Value)) : Prop where
  md : MD W x [(p, d), (po, e)] L
  mm : Mem x f m
  off : ∀ k ∈ f.all, k ∉ p.all
theorem CT.on {W x x' : World} {p : Dp} {d : DS} {po : Dp} {e : DS} {f : Fp} {m : MS} {L : List (Nat × TypeId × List Value)} (h : CT W x p d po e f m L) (hb : Below x.heap.size x x') : CT W x' p d po e f m L := ⟨h.md.on hb, h.mm.on hb, h.off⟩
theorem CT.a {W x : World} {p : Dp} {d : DS} {po : Dp} {e : DS} {f : Fp} {m : MS} {L : List (Nat × TypeId × List Value)} (h : CT W x p d po e f m L) : DB x p d := h.md.db 0 _ _ rfl
theorem CT.b {W x : World} {p : Dp} {d : DS} {po : Dp} {e : DS} {f : Fp} {m : MS} {L : List (Nat × TypeId × List Value)} (h : CT W x p d po e f m L) : DB x po e := h.md.db 1 _ _ rfl
theorem CT.step {W x x' : World} {p : Dp} {d d' : DS} {po : Dp} {e : DS} {f : Fp} {m : MS} {L : List (Nat × TypeId × List Value)} (h : CT W x p d po e f m L) (hd : DB x' p d') (hb : ButL p.w x x') : CT W x' p d' po e f m L :=
  ⟨h.md.step 0 rfl hd hb, h.mm.frame hb (fun k hk hm => h.off k hk (Dp.w_all hm)), h.off⟩
theorem MD.one {W x : World} {p : Dp} {d : DS} {po : Dp} {e : DS} {L : List (Nat × TypeId × List Value)} (h : MD W x [(p, d), (po, e)] L) : MD W x [(p, d)] [] := by
  have one : ∀ (i : Nat) (q : Dp) (e' : DS), [(p, d)][i]? = some (q, e') → i = 0 ∧ q = p ∧ e' = d := fun i q e' hi => by
    cases i with
    | zero => simp only [List.getElem?_cons_zero, Option.some.injEq, Prod.mk.injEq] at hi; exact ⟨rfl, hi.1.symm, hi.2.symm⟩
    | succ i => simp at hi
  refine ⟨fun i q e hi => ?_, fun i q e hi => ?_, fun i j q r e e' hi hj hij => ?_, h.below, by simp, by simp, by simp⟩
  · obtain ⟨_, rfl, rfl⟩ := one i q e hi; exact h.db 0 _ _ rfl
  · obtain ⟨_, rfl, rfl⟩ := one i q e hi; exact h.new 0 _ _ rfl
  · have := (one i q e hi).1; have := (one j r e' hj).1; omega
theorem wi_in {a : Int} (h0 : 0 ≤ a) (h1 : a < 8) : wi a 0 8 = a := by unfold wi; omega
theorem counts_any (W : World) (ao : Option Addr) (n c : Nat) (q : Nat → Oq) (hq : OpsAt W ao n q) :
    Calls Try.prog 5 #[.slice ao n c] W fun e W' => e = .returned (.bool true) ∧ Below W.heap.size W W' := by
  have HQ := hid hq
  have HB := hid (fun W => begun_any W)
  have HC := hid (fun w p d (hw : DB w p d) o => call_any w p d hw o)
  have HW := hid (fun w p d (hw : DB w p d) => words_any w p d hw)
  have HCl := hid (fun w p d (hw : DB w p d) => dclone_any w p d hw)
  have HMC := hid (fun w f m (hw : Mem w f m) => clone_any w f m hw)
  have HWr := hid (fun w f m (hw : Mem w f m) a off v => write_any w f m hw true a off v)
  have HMt := hid (fun w f m (hw : Mem w f m) => meter_any w f m hw)
  have HSw : Hid (∀ w ao bo n c c' L, WL w ao n L → WL w bo n L → n ≤ 1000000 → Calls Try.prog 15 #[.slice ao n c, .slice bo n c'] w fun x w' => x = .returned (.bool true) ∧ Below w.heap.size w w') := hid (fun w ao bo n c c' L h h' hn => by have := sameWords_any w ao bo n n c c' L L h h' hn; rwa [show decide (L = L) = true from decide_eq_true rfl] at this)
  have HBi := hid (fun w p d (hw : DB w p d) => births_any w p d hw)
  have HSu := hid (fun w p d (hw : DB w p d) (hI : InvF d.at d.m.ns) (h8 : d.m.ns = 8) => sums_any w p d hw hI h8)
  have HMe := hid (fun w o b (n : Int) => met_any w o b n)
  have HLa := hid (fun w f g m n (hm : Mem w f m) (hn : Mem w g n) p o b bi h => laid_any w f g m n hm hn p o b bi h)
  have HKe := hid (fun w x y p o z h => kept_any w x y p o z h)
  have HAt := hid (fun w p d (hw : DB w p d) a => lat_any w p d hw a)
  have HWi : Hid (∀ (W : World) (x : Int), -9223372036854775808 ≤ x → x ≤ 9223372036854775807 → Calls Try.prog 21 #[.int .i64 x, .int .i64 0, .int .i64 7] W fun e W' => e = .returned (.int .i64 (wi x 0 8)) ∧ W' = W) := hid (fun W x h0 h1 => by have := within_any W x 0 7 (by decide) (by decide) (by decide) h0 h1; exact this)
  have HSd := hid (fun w p q d o (hp : DB w p (d.call o)) (hq : DB w q d) (h : Said d o true) => said30_any w p q d o hp hq h)
  clear hq
  simp only [ptr, Oq.val, fr, En.v] at *
  go_enter Try.func5, Try.ntmps5
  go_upto_region 4 with (go_at_call 7; refine (HB.out _).mono ?_; rintro e w1 ⟨p, P, c1, rfl, hn, hl⟩; have HM := hid (MD.start hn); clear hn hl)
  clear HB
  have HI0 : Hid (InvF (DS.at ⟨⟨8, P, c1⟩, 1, e8⟩) 8) := hid (by
    have e : (DS.at ⟨⟨8, P, c1⟩, 1, e8⟩) = fun _ => En.zero := by funext k; exact rep_at 8 k
    rw [e]; exact InvF.zero 8)
  go_wp2_with fail
  go_loopw [5] (fun i wr => ∃ (j : Nat) (d : DS), j ≤ min n 60 ∧ i = .int .i64 (j : Int) ∧ Hid (MD W wr [(p, d)] [] ∧ d.m.ns = 8 ∧ InvF d.at 8)) (fun i _ => min n 60 - (intOf i).toNat)
  case atStart => exact ⟨0, _, Nat.zero_le _, rfl, hid ⟨HM.out, rfl, HI0.out⟩⟩
  case round =>
    obtain ⟨j, d, hj, rfl, HD⟩ := hrel
    clear HM HI0
    by_cases hlt : j < min n 60
    · have q1 : (j : Int) < (n : Int) := by omega
      have q2 : (j : Int) < 60 := by omega
      have qn : j < n := by omega
      obtain ⟨g, off, rfl, hg, _⟩ := HQ.out.at_ (by omega)
      have HRow := hid ((HQ.out.on HD.out.1.below).row qn)
      have HOk := hid (HQ.out.v j qn)
      have HJ : Hid (j < min n 60) := hid hlt
      clear hlt hj
      generalize q j = o at *
      have HM := hid HD.out.1
      have H8 := hid HD.out.2.1
      have HI := hid HD.out.2.2
      clear HD
      go_upto_region 8 with (first | (refine wpList_load_mid rfl 29 _ rfl g (off + j * 8) rfl _ _ HRow.out under29 rfl (by rw [size29]; rfl) ?_) | (refine wpList_store_st rfl 29 _ _ rfl wr.heap.size o.cs rfl rfl (Cel.new wr 29 [.int .i64 0, .int .i64 0, .int .i64 0, .int .i64 0, .int .i64 0, .bool false, .int .i64 0, .int .u32 0]) size29 rfl rfl ?_; intro w2 hc hb hs; have M2 := hid (HM.out.add hc hb); clear hc hb hs))
      clear HRow HM
      generalize wr.heap.size = g6 at *
      have y0 := (M2.out.get 0 rfl).cell 0
      simp only [Oq.cs, List.getElem?_cons_zero] at y0
      by_cases hk : o.ch = true
      · obtain ⟨k1, k2⟩ := of_decide_eq_true hk
        clear hk
        go_upto_region 10 with fail
        clear y0
        go_upto_region 11 with (go_at_call 12; refine (HMC.out _ p.f _ (M2.out.db 0 _ _ rfl).mem).mono ?_; rintro e w3 ⟨f5, rfl, hn⟩; have HN3 := hid hn; have M3 := hid (M2.out.on hn.below); have HO3 : Hid (∀ k ∈ f5.all, k ∉ p.all) := hid (fun k hk hp => by have := hn.new k hk; have := (M2.out.db 0 _ _ rfl).lt k hp; omega); clear hn)
        go_upto_region 12 with (go_at_call 10; refine (HCl.out _ p _ (M3.out.db 0 _ _ rfl)).mono ?_; rintro e w4 ⟨po, rfl, hn⟩; have C4 : Hid (CT W w4 p d po d f5 d.m [(g6, 29, o.cs)]) := hid ⟨M3.out.push hn, HN3.out.mem.on hn.below, HO3.out⟩; clear hn)
        clear M2 M3 HN3 HO3
        have HF := hid C4.out.a.mem.fl
        have HSaid := hid (said_any o C4.out.a.ok HF.out (by rw [H8.out]; exact HI.out))
        have HInv : Hid ((d.call o).m.ns = 8 ∧ InvF (d.call o).at 8) := hid (by have h := inv_call o C4.out.a.ok (by rw [H8.out]; exact HI.out); rw [H8.out] at h; exact h)
        go_upto_region 13 with (go_at_call 17; refine (HBi.out _ p _ C4.out.a).mono ?_; rintro e w5 ⟨rfl, hw⟩; subst hw)
        go_upto_region 14 with (go_at_call 24; refine (HMt.out _ p.f _ C4.out.a.mem).mono ?_; rintro e w5 ⟨rfl, hw⟩; subst hw)
        go_upto_region 15 with (first | (refine wpList_load_mid rfl 29 _ rfl g6 0 rfl _ _ ((C4.out.md.get 0 rfl).range) under29 rfl (by rw [size29]; rfl) ?_) | (go_at_call 8; refine (HC.out _ p _ C4.out.a o).mono ?_; rintro e w6 ⟨rfl, hd, hb⟩; have C6 := hid (C4.out.step hd hb); clear hd hb))
        clear C4
        obtain ⟨d', hd'⟩ : ∃ d', d' = d.call o := ⟨_, rfl⟩
        have HD' := hid hd'
        rw [← hd'] at C6 HInv
        clear hd'
        obtain ⟨bb, hbb⟩ : ∃ bb, bb = d.b := ⟨_, rfl⟩
        have b0 : 0 ≤ bb := by rw [hbb]; exact C6.out.b.ok.b0
        have b1 : bb ≤ 64 := by rw [hbb]; exact C6.out.b.ok.b1
        rw [← hbb]
        have HBb := hid hbb
        clear hbb
        have Hb' := hid HSaid.out.births
        rw [← HD'.out, ← HBb.out] at Hb'
        have HMt' := hid HSaid.out.met
        rw [← HD'.out] at HMt'
        have HLd' : Hid (∀ pg : Nat, pg < 8 → ∀ off : Nat, off < 1024 → d'.m.word true (pg : Int) (off : Int) = wantL d.m o (d.callE o == 0) bb (pg : Int) (off : Int)) := hid (fun pg hp off ho => by
          have := HSaid.out.laid (pg : Int) (off : Int) (by omega) (by rw [H8.out]; omega) (by omega) (by omega)
          rw [← HD'.out] at this
          rw [this, HBb.out]
          rfl)
        have HKp' : Hid (∀ pg : Nat, pg < 8 → ((pg : Int) = o.a ∨ ((pg : Int) = o.b ∧ o.k = 1)) ∨ ∃ r, d'.ent (pg : Int) = { d.ent (pg : Int) with r := r } ∧ (r = (d.ent (pg : Int)).r ∨ ((pg : Int) = o.b ∧ o.k = 2) ∨ ((pg : Int) = (d.ent (wi o.a 0 8)).o ∧ o.k = 4))) := hid (fun pg hp => by
          rcases HSaid.out.kept pg (by rw [H8.out]; exact hp) with h | ⟨r, h1, h2⟩
          · exact .inl h
          · have ht : d.there (pg : Int) = true := decide_eq_true ⟨by omega, by rw [H8.out]; omega⟩
            have ht' : d'.there (pg : Int) = true := decide_eq_true ⟨by omega, by rw [HInv.out.1]; omega⟩
            rw [← HD'.out] at h1
            refine .inr ⟨r, by rw [ent_at ht, ent_at ht', Int.toNat_natCast]; exact h1, ?_⟩
            rw [ent_at ht, Int.toNat_natCast]
            rcases h2 with h2 | h2 | ⟨h3, h4, h5⟩
            · exact .inl h2
            · exact .inr (.inl h2)
            · refine .inr (.inr ⟨?_, h5⟩)
              obtain ⟨a0, a1⟩ := of_decide_eq_true h3
              rw [H8.out] at a1
              rw [wi_in a0 (by omega)]
              exact h4)
        have HWd' : Hid (d.callE o ≠ 0 → d' = d) := hid (fun h => by rw [HD'.out]; exact call_no h)
        have HSd' : Hid (d.callE o = 0 → Said d o true) := hid (fun h => by have hs := HSaid.out; rwa [h] at hs)
        clear HSaid
        have HSu' := hid (fun w hw => HSu.out w p d' hw (by rw [HInv.out.1]; exact HInv.out.2) HInv.out.1)
        generalize d.callE o = ec at *
        by_cases hz : ec = 0
        · subst hz
          have HS := hid (HSd'.out rfl)
          clear HWd' HSd'
          rw [show ((0 : Int) == 0) = true from rfl] at Hb' HMt' HLd'
          by_cases ho : o.k = 1
          · go_upto_region 16 with fail
            have C7 := hid (C6.out.on (Below.refl _ _).drew)
            clear C6
            refine wp_region_held_drew (S := fun w => Cel w g6 29 o.cs) (by kernel_rfl) (C7.out.md.get 0 rfl) (fun hHeld => ?_)
            refine wpAnyH_take (i := 0) (oi := { dst := some 65, op := Op.move (Operand.tmp 3), type := 23, pos := "outright.go:129", after := #[], guard := none }) (v := .pointer (some ⟨p.g, 0, none⟩)) rfl (by kernel_rfl) (by kernel_rfl) (by kernel_rfl) (fun _ _ _ h => h) (Or.inl ⟨by rfl, by intro w hSw; go_simp⟩) (by assumption) ?_
            simp only [Act.put, List.setIfInBounds_toArray, List.set_cons_zero, List.set_cons_succ]
            refine wpAnyH_ready (rs := [1]) (by kernel_rfl) (by simp) (AllReadyH.cons (o := { dst := some 66, op := Op.call { callee := Callee.value (Operand.func 25), args := #[Operand.tmp 65], argTypes := #[23] }, type := 4, pos := "outright.go:129", after := #[{ on := 0, ground := Ground.data }], guard := none }) rfl (fun KQ hK => ?_) AllReadyH.nil)
            go_simp
            refine (HSu'.out _ C7.out.a).mono ?_
            rintro e w8 ⟨rfl, hb⟩
            have C8 := hid (C7.out.on hb)
            clear hb
            go_wp2_with fail
            refine hK.out _ _ (C8.out.md.get 0 rfl) (fun hHeld => ?_)
            clear hK KQ
            try simp only [Act.put, List.setIfInBounds_toArray, List.set_cons_zero, List.set_cons_succ]
            refine wpAnyH_take (i := 2) (oi := { dst := some 67, op := Op.unOp UnOp.not 4 (Operand.tmp 66), type := 4, pos := "outright.go:129", after := #[{ on := 1, ground := Ground.data }], guard := none }) (v := .bool false) rfl (by kernel_rfl) (by kernel_rfl) (by kernel_rfl) (fun _ _ _ h => h) (Or.inl ⟨by rfl, by intro w hSw; go_simp⟩) (by assumption) ?_
            simp only [Act.put, List.setIfInBounds_toArray, List.set_cons_zero, List.set_cons_succ]
            refine wpAnyH_take (i := 3) (oi := { dst := some 68, op := Op.move (Operand.tmp 67), type := 4, pos := "outright.go:129", after := #[{ on := 2, ground := Ground.data }, { on := 1, ground := Ground.chain }], guard := none }) (v := .bool false) rfl (by kernel_rfl) (by kernel_rfl) (by kernel_rfl) (fun _ _ _ h => h) (Or.inl ⟨by rfl, by intro w hSw; go_simp⟩) (by assumption) ?_
            simp only [Act.put, List.setIfInBounds_toArray, List.set_cons_zero, List.set_cons_succ]
            refine wpAnyH_take (i := 4) (oi := { dst := some 69, op := Op.load 29 (Operand.tmp 6), type := 29, pos := "outright.go:129", after := #[{ on := 3, ground := Ground.guard }], guard := some (3, false) }) (v := .agg o.cs.toArray) rfl (by kernel_rfl) (by kernel_rfl) (by kernel_rfl) (fun _ _ _ h => h) (yieldsIf_load_mid (by rfl) _ _ rfl _ _ rfl _ _ (fun w hSw => hSw.range) under29 rfl (by rw [size29]; rfl)) (by assumption) ?_
            simp only [Act.put, List.setIfInBounds_toArray, List.set_cons_zero, List.set_cons_succ]
            refine wpAnyH_take (i := 5) (oi := { dst := some 70, op := Op.move (Operand.tmp 12), type := 4, pos := "outright.go:129", after := #[{ on := 3, ground := Ground.guard }], guard := some (3, false) }) (v := .bool true) rfl (by kernel_rfl) (by kernel_rfl) (by kernel_rfl) (fun _ _ _ h => h) (Or.inl ⟨by rfl, by intro w hSw; go_simp⟩) (by assumption) ?_
            simp only [Act.put, List.setIfInBounds_toArray, List.set_cons_zero, List.set_cons_succ]
            refine wpAnyH_take (i := 6) (oi := { dst := some 71, op := Op.move (Operand.tmp 4), type := 24, pos := "outright.go:129", after := #[{ on := 3, ground := Ground.guard }], guard := some (3, false) }) (v := .pointer (some ⟨p.f.gm, 0, none⟩)) rfl (by kernel_rfl) (by kernel_rfl) (by kernel_rfl) (fun _ _ _ h => h) (Or.inl ⟨by rfl, by intro w hSw; go_simp⟩) (by assumption) ?_
            simp only [Act.put, List.setIfInBounds_toArray, List.set_cons_zero, List.set_cons_succ]
            refine wpAnyH_take (i := 8) (oi := { dst := some 73, op := Op.move (Operand.tmp 10), type := 2, pos := "outright.go:129", after := #[{ on := 3, ground := Ground.guard }], guard := some (3, false) }) (v := .int .i64 d.m.c) rfl (by kernel_rfl) (by kernel_rfl) (by kernel_rfl) (fun _ _ _ h => h) (Or.inl ⟨by rfl, by intro w hSw; go_simp⟩) (by assumption) ?_
            simp only [Act.put, List.setIfInBounds_toArray, List.set_cons_zero, List.set_cons_succ]
            refine wpAnyH_ready (rs := [7]) (by kernel_rfl) (by simp) (AllReadyH.cons (o := { dst := some 72, op := Op.call { callee := Callee.value (Operand.func 24), args := #[Operand.tmp 71], argTypes := #[24] }, type := 2, pos := "outright.go:129", after := #[{ on := 6, ground := Ground.data }, { on := 3, ground := Ground.chain }, { on := 3, ground := Ground.guard }], guard := some (3, false) }) rfl (fun KQ hK => ?_) AllReadyH.nil)
            go_simp
            refine (HMt.out _ p.f _ C8.out.a.mem).mono ?_
            rintro e w9 ⟨rfl, hw⟩
            subst hw
            go_wp2_with fail
            refine hK.out _ _ (C8.out.md.get 0 rfl) (fun hHeld => ?_)
            clear hK KQ
            try simp only [Act.put, List.setIfInBounds_toArray, List.set_cons_zero, List.set_cons_succ]
            refine wpAnyH_take (i := 9) (oi := { dst := some 74, op := Op.binOp BinOp.sub 2 (Operand.tmp 72) (Operand.tmp 73) 2, type := 2, pos := "outright.go:129", after := #[{ on := 7, ground := Ground.data }, { on := 8, ground := Ground.data }, { on := 3, ground := Ground.guard }], guard := some (3, false) }) (v := .int .i64 (wrap64 (d'.m.c - d.m.c))) rfl (by kernel_rfl) (by kernel_rfl) (by kernel_rfl) (fun _ _ _ h => h) (Or.inl ⟨by rfl, by intro w hSw; go_simp; exact IntWalk.i64_left _⟩) (by assumption) ?_
            simp only [Act.put, List.setIfInBounds_toArray, List.set_cons_zero, List.set_cons_succ]
            refine wpAnyH_ready (rs := [10]) (by kernel_rfl) (by simp) (AllReadyH.cons (o := { dst := some 75, op := Op.call { callee := Callee.value (Operand.func 26), args := #[Operand.tmp 69, Operand.tmp 70, Operand.tmp 74], argTypes := #[29, 4, 2] }, type := 4, pos := "outright.go:129", after := #[{ on := 4, ground := Ground.data }, { on := 5, ground := Ground.data }, { on := 9, ground := Ground.data }, { on := 7, ground := Ground.chain }, { on := 3, ground := Ground.guard }], guard := some (3, false) }) rfl (fun KQ hK => ?_) AllReadyH.nil)
            go_simp
            refine (HMe.out _ o true (wrap64 (d'.m.c - d.m.c))).mono ?_
            rw [HMt'.out]
            rintro e w9 ⟨rfl, hb⟩
            have C9 := hid (C8.out.on hb)
            clear hb
            go_wp2_with fail
            refine hK.out _ _ (C9.out.md.get 0 rfl) (fun hHeld => ?_)
            clear hK KQ
            try simp only [Act.put, List.setIfInBounds_toArray, List.set_cons_zero, List.set_cons_succ]
            refine wpAnyH_take (i := 11) (oi := { dst := some 76, op := Op.unOp UnOp.not 4 (Operand.tmp 75), type := 4, pos := "outright.go:129", after := #[{ on := 10, ground := Ground.data }, { on := 3, ground := Ground.guard }], guard := some (3, false) }) (v := .bool false) rfl (by kernel_rfl) (by kernel_rfl) (by kernel_rfl) (fun _ _ _ h => h) (Or.inl ⟨by rfl, by intro w hSw; go_simp⟩) (by assumption) ?_
            simp only [Act.put, List.setIfInBounds_toArray, List.set_cons_zero, List.set_cons_succ]
            refine wpAnyH_take (i := 12) (oi := { dst := some 77, op := Op.pick (Operand.tmp 68) (Operand.const (Value.bool true)) (Operand.tmp 76), type := 4, pos := "outright.go:129", after := #[{ on := 3, ground := Ground.data }, { on := 11, ground := Ground.data }], guard := none }) (v := .bool false) rfl (by kernel_rfl) (by kernel_rfl) (by kernel_rfl) (fun _ _ _ h => h) (Or.inl ⟨by rfl, by intro w hSw; go_simp⟩) (by assumption) ?_
            simp only [Act.put, List.setIfInBounds_toArray, List.set_cons_zero, List.set_cons_succ]
            refine wpAnyH_done (by kernel_rfl) ?_ _
            clear C7 C8
            have y0 := (C9.out.md.get 0 rfl).cell 0
            simp only [Oq.cs, List.getElem?_cons_zero] at y0
            rw [ho] at y0
            go_upto_region 21 with fail
            clear y0
            have hb2 : d'.b = bb + 1 := by have h := Hb'.out; rw [h]; simp [ho]
            have hw2 : wrap64 (bb + 1) = bb + 1 := by unfold wrap64; omega
            have T0 : Hid True := hid trivial
            have HBi2 := hid (HBi.out _ p _ C9.out.a)
            rw [hb2] at HBi2
            have Hb2 := hid hb2
            clear hb2
            go_upto_region 23 with (first | (go_at_call 17; revert T0; intro T0; refine (HBi2.out).mono ?_; rintro e w10 ⟨rfl, hw⟩; subst hw; clear T0 ; have T1 : Hid True := hid trivial))
            clear T1 HBi2
            go_wp2_with fail
            go_loopw [14] (fun i wr => ∃ pg : Nat, pg ≤ 8 ∧ i = .int .i64 (pg : Int) ∧ Hid (CT W wr p d' po d f5 d.m [(g6, 29, o.cs)])) (fun i _ => 8 - (intOf i).toNat)
            case atStart => exact ⟨0, Nat.zero_le _, rfl, C9⟩
            case round =>
              obtain ⟨pg, hp, rfl, HQ8⟩ := hrel
              clear C9
              by_cases hp8 : pg < 8
              · have p1 : (pg : Int) < 8 := by omega
                have HP : Hid (pg < 8) := hid hp8
                clear hp8 hp
                go_upto_region 26 with fail
                have G0 := hid (HQ8.out.on (Below.refl _ _).drew)
                clear HQ8
                have HKq := hid (HKp'.out pg HP.out)
                generalize hX : d.ent (pg : Int) = X at *
                have HX := hid hX
                clear hX
                generalize hY : d'.ent (pg : Int) = Y at *
                have HY := hid hY
                clear hY
                generalize hZ : d.ent (wi o.a 0 8) = Z at *
                have HZ := hid hZ
                clear hZ
                obtain ⟨zt, zo, zr, zs, zx⟩ := Z
                have hfd : ∀ w : World, (Instr.field 62 (.agg (En.mk zt zo zr zs zx).cs.toArray) 1).run Try.prog w = .ok (.int .i64 zo) w := fun _ => by kernel_rfl
                refine wp_region_held_drew (S := fun w => Cel w g6 29 o.cs) (by kernel_rfl) (G0.out.md.get 0 rfl) (fun hHeld => ?_)
                refine wpAnyH_take (i := 0) (oi := { dst := some 106, op := Op.move (Operand.tmp 4), type := 24, pos := "outright.go:140", after := #[], guard := none }) (v := .pointer (some ⟨p.f.gm, 0, none⟩)) rfl (by kernel_rfl) (by kernel_rfl) (by kernel_rfl) (fun _ _ _ h => h) (Or.inl ⟨by rfl, by intro w hSw; go_simp⟩) (by assumption) ?_
                simp only [Act.put, List.setIfInBounds_toArray, List.set_cons_zero, List.set_cons_succ]
                refine wpAnyH_take (i := 1) (oi := { dst := some 107, op := Op.move (Operand.tmp 7), type := 24, pos := "outright.go:140", after := #[], guard := none }) (v := .pointer (some ⟨f5.gm, 0, none⟩)) rfl (by kernel_rfl) (by kernel_rfl) (by kernel_rfl) (fun _ _ _ h => h) (Or.inl ⟨by rfl, by intro w hSw; go_simp⟩) (by assumption) ?_
                simp only [Act.put, List.setIfInBounds_toArray, List.set_cons_zero, List.set_cons_succ]
                refine wpAnyH_take (i := 2) (oi := { dst := some 108, op := Op.move (Operand.tmp 14), type := 3, pos := "outright.go:140", after := #[], guard := none }) (v := .int .i64 (pg : Int)) rfl (by kernel_rfl) (by kernel_rfl) (by kernel_rfl) (fun _ _ _ h => h) (Or.inl ⟨by rfl, by intro w hSw; go_simp⟩) (by assumption) ?_
                simp only [Act.put, List.setIfInBounds_toArray, List.set_cons_zero, List.set_cons_succ]
                refine wpAnyH_take (i := 3) (oi := { dst := some 109, op := Op.load 29 (Operand.tmp 6), type := 29, pos := "outright.go:140", after := #[], guard := none }) (v := .agg o.cs.toArray) rfl (by kernel_rfl) (by kernel_rfl) (by kernel_rfl) (fun _ _ _ h => h) (yieldsIf_load_mid (by rfl) _ _ rfl _ _ rfl _ _ (fun w hSw => hSw.range) under29 rfl (by rw [size29]; rfl)) (by assumption) ?_
                simp only [Act.put, List.setIfInBounds_toArray, List.set_cons_zero, List.set_cons_succ]
                refine wpAnyH_take (i := 4) (oi := { dst := some 110, op := Op.move (Operand.tmp 12), type := 4, pos := "outright.go:140", after := #[], guard := none }) (v := .bool true) rfl (by kernel_rfl) (by kernel_rfl) (by kernel_rfl) (fun _ _ _ h => h) (Or.inl ⟨by rfl, by intro w hSw; go_simp⟩) (by assumption) ?_
                simp only [Act.put, List.setIfInBounds_toArray, List.set_cons_zero, List.set_cons_succ]
                refine wpAnyH_take (i := 5) (oi := { dst := some 111, op := Op.move (Operand.tmp 9), type := 3, pos := "outright.go:140", after := #[], guard := none }) (v := .int .i64 bb) rfl (by kernel_rfl) (by kernel_rfl) (by kernel_rfl) (fun _ _ _ h => h) (Or.inl ⟨by rfl, by intro w hSw; go_simp⟩) (by assumption) ?_
                simp only [Act.put, List.setIfInBounds_toArray, List.set_cons_zero, List.set_cons_succ]
                refine wpAnyH_ready (rs := [6]) (by kernel_rfl) (by simp) (AllReadyH.cons (o := { dst := some 112, op := Op.call { callee := Callee.value (Operand.func 27), args := #[Operand.tmp 106, Operand.tmp 107, Operand.tmp 108, Operand.tmp 109, Operand.tmp 110, Operand.tmp 111], argTypes := #[24, 24, 3, 29, 4, 3] }, type := 4, pos := "outright.go:140", after := #[{ on := 0, ground := Ground.data }, { on := 1, ground := Ground.data }, { on := 2, ground := Ground.data }, { on := 3, ground := Ground.data }, { on := 4, ground := Ground.data }, { on := 5, ground := Ground.data }], guard := none }) rfl (fun KQ hK => ?_) AllReadyH.nil)
                go_simp
                refine (HLa.out _ p.f f5 _ _ G0.out.a.mem G0.out.mm (pg : Int) o true bb (HLd'.out pg HP.out)).mono ?_
                rintro e w20 ⟨rfl, hb⟩
                have G1 := hid (G0.out.on hb)
                clear hb
                go_wp2_with fail
                refine hK.out _ _ (G1.out.md.get 0 rfl) (fun hHeld => ?_)
                clear hK KQ
                try simp only [Act.put, List.setIfInBounds_toArray, List.set_cons_zero, List.set_cons_succ]
                refine wpAnyH_take (i := 7) (oi := { dst := some 113, op := Op.unOp UnOp.not 4 (Operand.tmp 112), type := 4, pos := "outright.go:140", after := #[{ on := 6, ground := Ground.data }], guard := none }) (v := .bool false) rfl (by kernel_rfl) (by kernel_rfl) (by kernel_rfl) (fun _ _ _ h => h) (Or.inl ⟨by rfl, by intro w hSw; go_simp⟩) (by assumption) ?_
                simp only [Act.put, List.setIfInBounds_toArray, List.set_cons_zero, List.set_cons_succ]
                refine wpAnyH_take (i := 8) (oi := { dst := some 114, op := Op.move (Operand.tmp 113), type := 4, pos := "outright.go:140", after := #[{ on := 7, ground := Ground.data }, { on := 6, ground := Ground.chain }], guard := none }) (v := .bool false) rfl (by kernel_rfl) (by kernel_rfl) (by kernel_rfl) (fun _ _ _ h => h) (Or.inl ⟨by rfl, by intro w hSw; go_simp⟩) (by assumption) ?_
                simp only [Act.put, List.setIfInBounds_toArray, List.set_cons_zero, List.set_cons_succ]
                refine wpAnyH_take (i := 9) (oi := { dst := some 115, op := Op.move (Operand.tmp 8), type := 23, pos := "outright.go:140", after := #[{ on := 8, ground := Ground.guard }], guard := some (8, false) }) (v := .pointer (some ⟨po.g, 0, none⟩)) rfl (by kernel_rfl) (by kernel_rfl) (by kernel_rfl) (fun _ _ _ h => h) (Or.inl ⟨by rfl, by intro w hSw; go_simp⟩) (by assumption) ?_
                simp only [Act.put, List.setIfInBounds_toArray, List.set_cons_zero, List.set_cons_succ]
                refine wpAnyH_take (i := 10) (oi := { dst := some 116, op := Op.move (Operand.tmp 14), type := 3, pos := "outright.go:140", after := #[{ on := 8, ground := Ground.guard }], guard := some (8, false) }) (v := .int .i64 (pg : Int)) rfl (by kernel_rfl) (by kernel_rfl) (by kernel_rfl) (fun _ _ _ h => h) (Or.inl ⟨by rfl, by intro w hSw; go_simp⟩) (by assumption) ?_
                simp only [Act.put, List.setIfInBounds_toArray, List.set_cons_zero, List.set_cons_succ]
                refine wpAnyH_take (i := 12) (oi := { dst := some 118, op := Op.move (Operand.tmp 3), type := 23, pos := "outright.go:140", after := #[{ on := 8, ground := Ground.guard }], guard := some (8, false) }) (v := .pointer (some ⟨p.g, 0, none⟩)) rfl (by kernel_rfl) (by kernel_rfl) (by kernel_rfl) (fun _ _ _ h => h) (Or.inl ⟨by rfl, by intro w hSw; go_simp⟩) (by assumption) ?_
                simp only [Act.put, List.setIfInBounds_toArray, List.set_cons_zero, List.set_cons_succ]
                refine wpAnyH_take (i := 13) (oi := { dst := some 119, op := Op.move (Operand.tmp 14), type := 3, pos := "outright.go:140", after := #[{ on := 8, ground := Ground.guard }], guard := some (8, false) }) (v := .int .i64 (pg : Int)) rfl (by kernel_rfl) (by kernel_rfl) (by kernel_rfl) (fun _ _ _ h => h) (Or.inl ⟨by rfl, by intro w hSw; go_simp⟩) (by assumption) ?_
                simp only [Act.put, List.setIfInBounds_toArray, List.set_cons_zero, List.set_cons_succ]
                refine wpAnyH_take (i := 15) (oi := { dst := some 121, op := Op.move (Operand.tmp 14), type := 3, pos := "outright.go:140", after := #[{ on := 8, ground := Ground.guard }], guard := some (8, false) }) (v := .int .i64 (pg : Int)) rfl (by kernel_rfl) (by kernel_rfl) (by kernel_rfl) (fun _ _ _ h => h) (Or.inl ⟨by rfl, by intro w hSw; go_simp⟩) (by assumption) ?_
                simp only [Act.put, List.setIfInBounds_toArray, List.set_cons_zero, List.set_cons_succ]
                refine wpAnyH_take (i := 16) (oi := { dst := some 122, op := Op.load 29 (Operand.tmp 6), type := 29, pos := "outright.go:140", after := #[{ on := 8, ground := Ground.guard }], guard := some (8, false) }) (v := .agg o.cs.toArray) rfl (by kernel_rfl) (by kernel_rfl) (by kernel_rfl) (fun _ _ _ h => h) (yieldsIf_load_mid (by rfl) _ _ rfl _ _ rfl _ _ (fun w hSw => hSw.range) under29 rfl (by rw [size29]; rfl)) (by assumption) ?_
                simp only [Act.put, List.setIfInBounds_toArray, List.set_cons_zero, List.set_cons_succ]
                refine wpAnyH_take (i := 17) (oi := { dst := some 123, op := Op.move (Operand.tmp 8), type := 23, pos := "outright.go:140", after := #[{ on := 8, ground := Ground.guard }], guard := some (8, false) }) (v := .pointer (some ⟨po.g, 0, none⟩)) rfl (by kernel_rfl) (by kernel_rfl) (by kernel_rfl) (fun _ _ _ h => h) (Or.inl ⟨by rfl, by intro w hSw; go_simp⟩) (by assumption) ?_
                simp only [Act.put, List.setIfInBounds_toArray, List.set_cons_zero, List.set_cons_succ]
                refine wpAnyH_take (i := 18) (oi := { dst := some 124, op := Op.fieldAddr 29 (Operand.tmp 6) 2, type := 0, pos := "outright.go:140", after := #[{ on := 8, ground := Ground.guard }], guard := some (8, false) }) (v := .pointer (some ⟨g6, 2, none⟩)) rfl (by kernel_rfl) (by kernel_rfl) (by kernel_rfl) (fun _ _ _ h => h) (Or.inl ⟨by rfl, by intro w hSw; go_simp⟩) (by assumption) ?_
                simp only [Act.put, List.setIfInBounds_toArray, List.set_cons_zero, List.set_cons_succ]
                refine wpAnyH_take (i := 19) (oi := { dst := some 125, op := Op.load 3 (Operand.tmp 124), type := 3, pos := "outright.go:140", after := #[{ on := 18, ground := Ground.data }, { on := 8, ground := Ground.guard }], guard := some (8, false) }) (v := .int .i64 o.a) rfl (by kernel_rfl) (by kernel_rfl) (by kernel_rfl) (fun _ _ _ h => h) (Or.inl ⟨by rfl, by intro w hSw; have hc := hSw.cell 2; simp only [Oq.cs, List.getElem?_cons_zero, List.getElem?_cons_succ] at hc; go_simp⟩) (by assumption) ?_
                simp only [Act.put, List.setIfInBounds_toArray, List.set_cons_zero, List.set_cons_succ]
                refine wpAnyH_ready (rs := [11]) (by kernel_rfl) (by simp) (AllReadyH.cons (o := { dst := some 117, op := Op.call { callee := Callee.value (Operand.func 29), args := #[Operand.tmp 115, Operand.tmp 116], argTypes := #[23, 3] }, type := 62, pos := "outright.go:140", after := #[{ on := 9, ground := Ground.data }, { on := 10, ground := Ground.data }, { on := 8, ground := Ground.chain }, { on := 8, ground := Ground.guard }], guard := some (8, false) }) rfl (fun KQ hK => ?_) AllReadyH.nil)
                go_simp
                refine (HAt.out _ po _ G1.out.b (pg : Int)).mono ?_
                rw [HX.out]
                rintro e w21 ⟨rfl, hb⟩
                have G2 := hid (G1.out.on hb)
                clear hb
                go_wp2_with fail
                refine hK.out _ _ (G2.out.md.get 0 rfl) (fun hHeld => ?_)
                clear hK KQ
                try simp only [Act.put, List.setIfInBounds_toArray, List.set_cons_zero, List.set_cons_succ]
                refine wpAnyH_ready (rs := [14]) (by kernel_rfl) (by simp) (AllReadyH.cons (o := { dst := some 120, op := Op.call { callee := Callee.value (Operand.func 29), args := #[Operand.tmp 118, Operand.tmp 119], argTypes := #[23, 3] }, type := 62, pos := "outright.go:140", after := #[{ on := 12, ground := Ground.data }, { on := 13, ground := Ground.data }, { on := 11, ground := Ground.chain }, { on := 8, ground := Ground.guard }], guard := some (8, false) }) rfl (fun KQ hK => ?_) AllReadyH.nil)
                go_simp
                refine (HAt.out _ p _ G2.out.a (pg : Int)).mono ?_
                rw [HY.out]
                rintro e w22 ⟨rfl, hb⟩
                have G3 := hid (G2.out.on hb)
                clear hb
                go_wp2_with fail
                refine hK.out _ _ (G3.out.md.get 0 rfl) (fun hHeld => ?_)
                clear hK KQ
                try simp only [Act.put, List.setIfInBounds_toArray, List.set_cons_zero, List.set_cons_succ]
                refine wpAnyH_ready (rs := [20]) (by kernel_rfl) (by simp) (AllReadyH.cons (o := { dst := some 126, op := Op.call { callee := Callee.value (Operand.func 21), args := #[Operand.tmp 125, Operand.const (Value.int IntKind.i64 0), Operand.const (Value.int IntKind.i64 7)], argTypes := #[3, 3, 3] }, type := 3, pos := "outright.go:140", after := #[{ on := 19, ground := Ground.data }, { on := 14, ground := Ground.chain }, { on := 8, ground := Ground.guard }], guard := some (8, false) }) rfl (fun KQ hK => ?_) AllReadyH.nil)
                go_simp
                refine (HWi.out _ o.a HOk.out.a.1 HOk.out.a.2).mono ?_
                rintro e w23 ⟨rfl, hw⟩
                subst hw
                go_wp2_with fail
                refine hK.out _ _ (G3.out.md.get 0 rfl) (fun hHeld => ?_)
                clear hK KQ
                try simp only [Act.put, List.setIfInBounds_toArray, List.set_cons_zero, List.set_cons_succ]
                refine wpAnyH_ready (rs := [21]) (by kernel_rfl) (by simp) (AllReadyH.cons (o := { dst := some 127, op := Op.call { callee := Callee.value (Operand.func 29), args := #[Operand.tmp 123, Operand.tmp 126], argTypes := #[23, 3] }, type := 62, pos := "outright.go:140", after := #[{ on := 17, ground := Ground.data }, { on := 20, ground := Ground.data }, { on := 20, ground := Ground.chain }, { on := 8, ground := Ground.guard }], guard := some (8, false) }) rfl (fun KQ hK => ?_) AllReadyH.nil)
                go_simp
                refine (HAt.out _ po _ G3.out.b (wi o.a 0 8)).mono ?_
                rw [HZ.out]
                rintro e w24 ⟨rfl, hb⟩
                have G4 := hid (G3.out.on hb)
                clear hb
                go_wp2_with fail
                refine hK.out _ _ (G4.out.md.get 0 rfl) (fun hHeld => ?_)
                clear hK KQ
                try simp only [Act.put, List.setIfInBounds_toArray, List.set_cons_zero, List.set_cons_succ]
                refine wpAnyH_take (i := 22) (oi := { dst := some 128, op := Op.field 62 (Operand.tmp 127) 1, type := 3, pos := "outright.go:140", after := #[{ on := 21, ground := Ground.data }, { on := 8, ground := Ground.guard }], guard := some (8, false) }) (v := .int .i64 zo) rfl (by kernel_rfl) (by kernel_rfl) (by kernel_rfl) (fun _ _ _ h => h) (Or.inl ⟨by rfl, by intro w hSw; go_simp⟩) (by assumption) ?_
                simp only [Act.put, List.setIfInBounds_toArray, List.set_cons_zero, List.set_cons_succ]
                refine wpAnyH_ready (rs := [23]) (by kernel_rfl) (by simp) (AllReadyH.cons (o := { dst := some 129, op := Op.call { callee := Callee.value (Operand.func 28), args := #[Operand.tmp 117, Operand.tmp 120, Operand.tmp 121, Operand.tmp 122, Operand.tmp 128], argTypes := #[62, 62, 3, 29, 3] }, type := 4, pos := "outright.go:140", after := #[{ on := 11, ground := Ground.data }, { on := 14, ground := Ground.data }, { on := 15, ground := Ground.data }, { on := 16, ground := Ground.data }, { on := 22, ground := Ground.data }, { on := 21, ground := Ground.chain }, { on := 8, ground := Ground.guard }], guard := some (8, false) }) rfl (fun KQ hK => ?_) AllReadyH.nil)
                go_simp
                refine (HKe.out _ X Y (pg : Int) o zo HKq.out).mono ?_
                rintro e w25 ⟨rfl, hb⟩
                have G5 := hid (G4.out.on hb)
                clear hb
                go_wp2_with fail
                refine hK.out _ _ (G5.out.md.get 0 rfl) (fun hHeld => ?_)
                clear hK KQ
                try simp only [Act.put, List.setIfInBounds_toArray, List.set_cons_zero, List.set_cons_succ]
                refine wpAnyH_take (i := 24) (oi := { dst := some 130, op := Op.unOp UnOp.not 4 (Operand.tmp 129), type := 4, pos := "outright.go:140", after := #[{ on := 23, ground := Ground.data }, { on := 8, ground := Ground.guard }], guard := some (8, false) }) (v := .bool false) rfl (by kernel_rfl) (by kernel_rfl) (by kernel_rfl) (fun _ _ _ h => h) (Or.inl ⟨by rfl, by intro w hSw; go_simp⟩) (by assumption) ?_
                simp only [Act.put, List.setIfInBounds_toArray, List.set_cons_zero, List.set_cons_succ]
                refine wpAnyH_take (i := 25) (oi := { dst := some 131, op := Op.pick (Operand.tmp 114) (Operand.const (Value.bool true)) (Operand.tmp 130), type := 4, pos := "outright.go:140", after := #[{ on := 8, ground := Ground.data }, { on := 24, ground := Ground.data }], guard := none }) (v := .bool false) rfl (by kernel_rfl) (by kernel_rfl) (by kernel_rfl) (fun _ _ _ h => h) (Or.inl ⟨by rfl, by intro w hSw; go_simp⟩) (by assumption) ?_
                simp only [Act.put, List.setIfInBounds_toArray, List.set_cons_zero, List.set_cons_succ]
                refine wpAnyH_done (by kernel_rfl) ?_ _
                go_wp2_with fail
                go_roundw
                case measure => have := HP.out; simp [intOf] <;> omega
                case rel => exact ⟨pg + 1, HP.out, by simp, G5⟩
              · have hp8 : pg = 8 := by omega
                subst hp8
                rw [show ((8 : Nat) : Int) = 8 from rfl]
                have HSd2 : Hid (∀ w, DB w p d' → DB w po d → Calls Try.prog 30 #[.pointer (some ⟨p.g, 0, none⟩), .pointer (some ⟨po.g, 0, none⟩), .agg o.cs.toArray] w fun e W' => e = .returned (.bool true) ∧ Below w.heap.size w W') := hid (fun w h1 h2 => by rw [HD'.out] at h1; exact HSd.out w p po d o h1 h2 HS.out)
                have V0 : Hid True := hid trivial
                go_wp2_with (first | (revert V0; intro V0; refine wpList_load_g rfl 29 _ rfl g6 rfl (HQ8.out.md.get 0 rfl) rfl under29 size29 ?_; clear V0 ; have V1 : Hid True := hid trivial) | (go_at_call 30; revert V1; intro V1; refine (HSd2.out _ HQ8.out.a HQ8.out.b).mono ?_; rintro e w30 ⟨rfl, hb⟩; have CZ := hid (HQ8.out.on hb); clear hb; clear V1 ; have V2 : Hid True := hid trivial))
                go_roundw
                case measure => have := HJ.out; simp [intOf] <;> omega
                case rel => exact ⟨j + 1, d', by have := HJ.out; omega, by simp, hid ⟨CZ.out.md.one, HInv.out.1, HInv.out.2⟩⟩
          · have ho' : (o.k == 1) = false := by simpa using ho
            go_upto_region 16 with fail
            have C7 := hid (C6.out.on (Below.refl _ _).drew)
            clear C6
            refine wp_region_held_drew (S := fun w => Cel w g6 29 o.cs) (by kernel_rfl) (C7.out.md.get 0 rfl) (fun hHeld => ?_)
            refine wpAnyH_take (i := 0) (oi := { dst := some 65, op := Op.move (Operand.tmp 3), type := 23, pos := "outright.go:129", after := #[], guard := none }) (v := .pointer (some ⟨p.g, 0, none⟩)) rfl (by kernel_rfl) (by kernel_rfl) (by kernel_rfl) (fun _ _ _ h => h) (Or.inl ⟨by rfl, by intro w hSw; go_simp⟩) (by assumption) ?_
            simp only [Act.put, List.setIfInBounds_toArray, List.set_cons_zero, List.set_cons_succ]
            refine wpAnyH_ready (rs := [1]) (by kernel_rfl) (by simp) (AllReadyH.cons (o := { dst := some 66, op := Op.call { callee := Callee.value (Operand.func 25), args := #[Operand.tmp 65], argTypes := #[23] }, type := 4, pos := "outright.go:129", after := #[{ on := 0, ground := Ground.data }], guard := none }) rfl (fun KQ hK => ?_) AllReadyH.nil)
            go_simp
            refine (HSu'.out _ C7.out.a).mono ?_
            rintro e w8 ⟨rfl, hb⟩
            have C8 := hid (C7.out.on hb)
            clear hb
            go_wp2_with fail
            refine hK.out _ _ (C8.out.md.get 0 rfl) (fun hHeld => ?_)
            clear hK KQ
            try simp only [Act.put, List.setIfInBounds_toArray, List.set_cons_zero, List.set_cons_succ]
            refine wpAnyH_take (i := 2) (oi := { dst := some 67, op := Op.unOp UnOp.not 4 (Operand.tmp 66), type := 4, pos := "outright.go:129", after := #[{ on := 1, ground := Ground.data }], guard := none }) (v := .bool false) rfl (by kernel_rfl) (by kernel_rfl) (by kernel_rfl) (fun _ _ _ h => h) (Or.inl ⟨by rfl, by intro w hSw; go_simp⟩) (by assumption) ?_
            simp only [Act.put, List.setIfInBounds_toArray, List.set_cons_zero, List.set_cons_succ]
            refine wpAnyH_take (i := 3) (oi := { dst := some 68, op := Op.move (Operand.tmp 67), type := 4, pos := "outright.go:129", after := #[{ on := 2, ground := Ground.data }, { on := 1, ground := Ground.chain }], guard := none }) (v := .bool false) rfl (by kernel_rfl) (by kernel_rfl) (by kernel_rfl) (fun _ _ _ h => h) (Or.inl ⟨by rfl, by intro w hSw; go_simp⟩) (by assumption) ?_
            simp only [Act.put, List.setIfInBounds_toArray, List.set_cons_zero, List.set_cons_succ]
            refine wpAnyH_take (i := 4) (oi := { dst := some 69, op := Op.load 29 (Operand.tmp 6), type := 29, pos := "outright.go:129", after := #[{ on := 3, ground := Ground.guard }], guard := some (3, false) }) (v := .agg o.cs.toArray) rfl (by kernel_rfl) (by kernel_rfl) (by kernel_rfl) (fun _ _ _ h => h) (yieldsIf_load_mid (by rfl) _ _ rfl _ _ rfl _ _ (fun w hSw => hSw.range) under29 rfl (by rw [size29]; rfl)) (by assumption) ?_
            simp only [Act.put, List.setIfInBounds_toArray, List.set_cons_zero, List.set_cons_succ]
            refine wpAnyH_take (i := 5) (oi := { dst := some 70, op := Op.move (Operand.tmp 12), type := 4, pos := "outright.go:129", after := #[{ on := 3, ground := Ground.guard }], guard := some (3, false) }) (v := .bool true) rfl (by kernel_rfl) (by kernel_rfl) (by kernel_rfl) (fun _ _ _ h => h) (Or.inl ⟨by rfl, by intro w hSw; go_simp⟩) (by assumption) ?_
            simp only [Act.put, List.setIfInBounds_toArray, List.set_cons_zero, List.set_cons_succ]
            refine wpAnyH_take (i := 6) (oi := { dst := some 71, op := Op.move (Operand.tmp 4), type := 24, pos := "outright.go:129", after := #[{ on := 3, ground := Ground.guard }], guard := some (3, false) }) (v := .pointer (some ⟨p.f.gm, 0, none⟩)) rfl (by kernel_rfl) (by kernel_rfl) (by kernel_rfl) (fun _ _ _ h => h) (Or.inl ⟨by rfl, by intro w hSw; go_simp⟩) (by assumption) ?_
            simp only [Act.put, List.setIfInBounds_toArray, List.set_cons_zero, List.set_cons_succ]
            refine wpAnyH_take (i := 8) (oi := { dst := some 73, op := Op.move (Operand.tmp 10), type := 2, pos := "outright.go:129", after := #[{ on := 3, ground := Ground.guard }], guard := some (3, false) }) (v := .int .i64 d.m.c) rfl (by kernel_rfl) (by kernel_rfl) (by kernel_rfl) (fun _ _ _ h => h) (Or.inl ⟨by rfl, by intro w hSw; go_simp⟩) (by assumption) ?_
            simp only [Act.put, List.setIfInBounds_toArray, List.set_cons_zero, List.set_cons_succ]
            refine wpAnyH_ready (rs := [7]) (by kernel_rfl) (by simp) (AllReadyH.cons (o := { dst := some 72, op := Op.call { callee := Callee.value (Operand.func 24), args := #[Operand.tmp 71], argTypes := #[24] }, type := 2, pos := "outright.go:129", after := #[{ on := 6, ground := Ground.data }, { on := 3, ground := Ground.chain }, { on := 3, ground := Ground.guard }], guard := some (3, false) }) rfl (fun KQ hK => ?_) AllReadyH.nil)
            go_simp
            refine (HMt.out _ p.f _ C8.out.a.mem).mono ?_
            rintro e w9 ⟨rfl, hw⟩
            subst hw
            go_wp2_with fail
            refine hK.out _ _ (C8.out.md.get 0 rfl) (fun hHeld => ?_)
            clear hK KQ
            try simp only [Act.put, List.setIfInBounds_toArray, List.set_cons_zero, List.set_cons_succ]
            refine wpAnyH_take (i := 9) (oi := { dst := some 74, op := Op.binOp BinOp.sub 2 (Operand.tmp 72) (Operand.tmp 73) 2, type := 2, pos := "outright.go:129", after := #[{ on := 7, ground := Ground.data }, { on := 8, ground := Ground.data }, { on := 3, ground := Ground.guard }], guard := some (3, false) }) (v := .int .i64 (wrap64 (d'.m.c - d.m.c))) rfl (by kernel_rfl) (by kernel_rfl) (by kernel_rfl) (fun _ _ _ h => h) (Or.inl ⟨by rfl, by intro w hSw; go_simp; exact IntWalk.i64_left _⟩) (by assumption) ?_
            simp only [Act.put, List.setIfInBounds_toArray, List.set_cons_zero, List.set_cons_succ]
            refine wpAnyH_ready (rs := [10]) (by kernel_rfl) (by simp) (AllReadyH.cons (o := { dst := some 75, op := Op.call { callee := Callee.value (Operand.func 26), args := #[Operand.tmp 69, Operand.tmp 70, Operand.tmp 74], argTypes := #[29, 4, 2] }, type := 4, pos := "outright.go:129", after := #[{ on := 4, ground := Ground.data }, { on := 5, ground := Ground.data }, { on := 9, ground := Ground.data }, { on := 7, ground := Ground.chain }, { on := 3, ground := Ground.guard }], guard := some (3, false) }) rfl (fun KQ hK => ?_) AllReadyH.nil)
            go_simp
            refine (HMe.out _ o true (wrap64 (d'.m.c - d.m.c))).mono ?_
            rw [HMt'.out]
            rintro e w9 ⟨rfl, hb⟩
            have C9 := hid (C8.out.on hb)
            clear hb
            go_wp2_with fail
            refine hK.out _ _ (C9.out.md.get 0 rfl) (fun hHeld => ?_)
            clear hK KQ
            try simp only [Act.put, List.setIfInBounds_toArray, List.set_cons_zero, List.set_cons_succ]
            refine wpAnyH_take (i := 11) (oi := { dst := some 76, op := Op.unOp UnOp.not 4 (Operand.tmp 75), type := 4, pos := "outright.go:129", after := #[{ on := 10, ground := Ground.data }, { on := 3, ground := Ground.guard }], guard := some (3, false) }) (v := .bool false) rfl (by kernel_rfl) (by kernel_rfl) (by kernel_rfl) (fun _ _ _ h => h) (Or.inl ⟨by rfl, by intro w hSw; go_simp⟩) (by assumption) ?_
            simp only [Act.put, List.setIfInBounds_toArray, List.set_cons_zero, List.set_cons_succ]
            refine wpAnyH_take (i := 12) (oi := { dst := some 77, op := Op.pick (Operand.tmp 68) (Operand.const (Value.bool true)) (Operand.tmp 76), type := 4, pos := "outright.go:129", after := #[{ on := 3, ground := Ground.data }, { on := 11, ground := Ground.data }], guard := none }) (v := .bool false) rfl (by kernel_rfl) (by kernel_rfl) (by kernel_rfl) (fun _ _ _ h => h) (Or.inl ⟨by rfl, by intro w hSw; go_simp⟩) (by assumption) ?_
            simp only [Act.put, List.setIfInBounds_toArray, List.set_cons_zero, List.set_cons_succ]
            refine wpAnyH_done (by kernel_rfl) ?_ _
            clear C7 C8
            have y0 := (C9.out.md.get 0 rfl).cell 0
            simp only [Oq.cs, List.getElem?_cons_zero] at y0
            go_upto_region 21 with fail
            clear y0
            have hb2 : d'.b = bb := by have h := Hb'.out; rw [h]; simp [ho]
            have T0 : Hid True := hid trivial
            have HBi2 := hid (HBi.out _ p _ C9.out.a)
            rw [hb2] at HBi2
            have Hb2 := hid hb2
            clear hb2
            go_upto_region 23 with (first | (go_at_call 17; revert T0; intro T0; refine (HBi2.out).mono ?_; rintro e w10 ⟨rfl, hw⟩; subst hw; clear T0 ; have T1 : Hid True := hid trivial))
            clear T1 HBi2
            go_wp2_with fail
            go_loopw [14] (fun i wr => ∃ pg : Nat, pg ≤ 8 ∧ i = .int .i64 (pg : Int) ∧ Hid (CT W wr p d' po d f5 d.m [(g6, 29, o.cs)])) (fun i _ => 8 - (intOf i).toNat)
            case atStart => exact ⟨0, Nat.zero_le _, rfl, C9⟩
            case round =>
              obtain ⟨pg, hp, rfl, HQ8⟩ := hrel
              clear C9
              by_cases hp8 : pg < 8
              · have p1 : (pg : Int) < 8 := by omega
                have HP : Hid (pg < 8) := hid hp8
                clear hp8 hp
                go_upto_region 26 with fail
                have G0 := hid (HQ8.out.on (Below.refl _ _).drew)
                clear HQ8
                have HKq := hid (HKp'.out pg HP.out)
                generalize hX : d.ent (pg : Int) = X at *
                have HX := hid hX
                clear hX
                generalize hY : d'.ent (pg : Int) = Y at *
                have HY := hid hY
                clear hY
                generalize hZ : d.ent (wi o.a 0 8) = Z at *
                have HZ := hid hZ
                clear hZ
                obtain ⟨zt, zo, zr, zs, zx⟩ := Z
                have hfd : ∀ w : World, (Instr.field 62 (.agg (En.mk zt zo zr zs zx).cs.toArray) 1).run Try.prog w = .ok (.int .i64 zo) w := fun _ => by kernel_rfl
                refine wp_region_held_drew (S := fun w => Cel w g6 29 o.cs) (by kernel_rfl) (G0.out.md.get 0 rfl) (fun hHeld => ?_)
                refine wpAnyH_take (i := 0) (oi := { dst := some 106, op := Op.move (Operand.tmp 4), type := 24, pos := "outright.go:140", after := #[], guard := none }) (v := .pointer (some ⟨p.f.gm, 0, none⟩)) rfl (by kernel_rfl) (by kernel_rfl) (by kernel_rfl) (fun _ _ _ h => h) (Or.inl ⟨by rfl, by intro w hSw; go_simp⟩) (by assumption) ?_
                simp only [Act.put, List.setIfInBounds_toArray, List.set_cons_zero, List.set_cons_succ]
                refine wpAnyH_take (i := 1) (oi := { dst := some 107, op := Op.move (Operand.tmp 7), type := 24, pos := "outright.go:140", after := #[], guard := none }) (v := .pointer (some ⟨f5.gm, 0, none⟩)) rfl (by kernel_rfl) (by kernel_rfl) (by kernel_rfl) (fun _ _ _ h => h) (Or.inl ⟨by rfl, by intro w hSw; go_simp⟩) (by assumption) ?_
                simp only [Act.put, List.setIfInBounds_toArray, List.set_cons_zero, List.set_cons_succ]
                refine wpAnyH_take (i := 2) (oi := { dst := some 108, op := Op.move (Operand.tmp 14), type := 3, pos := "outright.go:140", after := #[], guard := none }) (v := .int .i64 (pg : Int)) rfl (by kernel_rfl) (by kernel_rfl) (by kernel_rfl) (fun _ _ _ h => h) (Or.inl ⟨by rfl, by intro w hSw; go_simp⟩) (by assumption) ?_
                simp only [Act.put, List.setIfInBounds_toArray, List.set_cons_zero, List.set_cons_succ]
                refine wpAnyH_take (i := 3) (oi := { dst := some 109, op := Op.load 29 (Operand.tmp 6), type := 29, pos := "outright.go:140", after := #[], guard := none }) (v := .agg o.cs.toArray) rfl (by kernel_rfl) (by kernel_rfl) (by kernel_rfl) (fun _ _ _ h => h) (yieldsIf_load_mid (by rfl) _ _ rfl _ _ rfl _ _ (fun w hSw => hSw.range) under29 rfl (by rw [size29]; rfl)) (by assumption) ?_
                simp only [Act.put, List.setIfInBounds_toArray, List.set_cons_zero, List.set_cons_succ]
                refine wpAnyH_take (i := 4) (oi := { dst := some 110, op := Op.move (Operand.tmp 12), type := 4, pos := "outright.go:140", after := #[], guard := none }) (v := .bool true) rfl (by kernel_rfl) (by kernel_rfl) (by kernel_rfl) (fun _ _ _ h => h) (Or.inl ⟨by rfl, by intro w hSw; go_simp⟩) (by assumption) ?_
                simp only [Act.put, List.setIfInBounds_toArray, List.set_cons_zero, List.set_cons_succ]
                refine wpAnyH_take (i := 5) (oi := { dst := some 111, op := Op.move (Operand.tmp 9), type := 3, pos := "outright.go:140", after := #[], guard := none }) (v := .int .i64 bb) rfl (by kernel_rfl) (by kernel_rfl) (by kernel_rfl) (fun _ _ _ h => h) (Or.inl ⟨by rfl, by intro w hSw; go_simp⟩) (by assumption) ?_
                simp only [Act.put, List.setIfInBounds_toArray, List.set_cons_zero, List.set_cons_succ]
                refine wpAnyH_ready (rs := [6]) (by kernel_rfl) (by simp) (AllReadyH.cons (o := { dst := some 112, op := Op.call { callee := Callee.value (Operand.func 27), args := #[Operand.tmp 106, Operand.tmp 107, Operand.tmp 108, Operand.tmp 109, Operand.tmp 110, Operand.tmp 111], argTypes := #[24, 24, 3, 29, 4, 3] }, type := 4, pos := "outright.go:140", after := #[{ on := 0, ground := Ground.data }, { on := 1, ground := Ground.data }, { on := 2, ground := Ground.data }, { on := 3, ground := Ground.data }, { on := 4, ground := Ground.data }, { on := 5, ground := Ground.data }], guard := none }) rfl (fun KQ hK => ?_) AllReadyH.nil)
                go_simp
                refine (HLa.out _ p.f f5 _ _ G0.out.a.mem G0.out.mm (pg : Int) o true bb (HLd'.out pg HP.out)).mono ?_
                rintro e w20 ⟨rfl, hb⟩
                have G1 := hid (G0.out.on hb)
                clear hb
                go_wp2_with fail
                refine hK.out _ _ (G1.out.md.get 0 rfl) (fun hHeld => ?_)
                clear hK KQ
                try simp only [Act.put, List.setIfInBounds_toArray, List.set_cons_zero, List.set_cons_succ]
                refine wpAnyH_take (i := 7) (oi := { dst := some 113, op := Op.unOp UnOp.not 4 (Operand.tmp 112), type := 4, pos := "outright.go:140", after := #[{ on := 6, ground := Ground.data }], guard := none }) (v := .bool false) rfl (by kernel_rfl) (by kernel_rfl) (by kernel_rfl) (fun _ _ _ h => h) (Or.inl ⟨by rfl, by intro w hSw; go_simp⟩) (by assumption) ?_
                simp only [Act.put, List.setIfInBounds_toArray, List.set_cons_zero, List.set_cons_succ]
                refine wpAnyH_take (i := 8) (oi := { dst := some 114, op := Op.move (Operand.tmp 113), type := 4, pos := "outright.go:140", after := #[{ on := 7, ground := Ground.data }, { on := 6, ground := Ground.chain }], guard := none }) (v := .bool false) rfl (by kernel_rfl) (by kernel_rfl) (by kernel_rfl) (fun _ _ _ h => h) (Or.inl ⟨by rfl, by intro w hSw; go_simp⟩) (by assumption) ?_
                simp only [Act.put, List.setIfInBounds_toArray, List.set_cons_zero, List.set_cons_succ]
                refine wpAnyH_take (i := 9) (oi := { dst := some 115, op := Op.move (Operand.tmp 8), type := 23, pos := "outright.go:140", after := #[{ on := 8, ground := Ground.guard }], guard := some (8, false) }) (v := .pointer (some ⟨po.g, 0, none⟩)) rfl (by kernel_rfl) (by kernel_rfl) (by kernel_rfl) (fun _ _ _ h => h) (Or.inl ⟨by rfl, by intro w hSw; go_simp⟩) (by assumption) ?_
                simp only [Act.put, List.setIfInBounds_toArray, List.set_cons_zero, List.set_cons_succ]
                refine wpAnyH_take (i := 10) (oi := { dst := some 116, op := Op.move (Operand.tmp 14), type := 3, pos := "outright.go:140", after := #[{ on := 8, ground := Ground.guard }], guard := some (8, false) }) (v := .int .i64 (pg : Int)) rfl (by kernel_rfl) (by kernel_rfl) (by kernel_rfl) (fun _ _ _ h => h) (Or.inl ⟨by rfl, by intro w hSw; go_simp⟩) (by assumption) ?_
                simp only [Act.put, List.setIfInBounds_toArray, List.set_cons_zero, List.set_cons_succ]
                refine wpAnyH_take (i := 12) (oi := { dst := some 118, op := Op.move (Operand.tmp 3), type := 23, pos := "outright.go:140", after := #[{ on := 8, ground := Ground.guard }], guard := some (8, false) }) (v := .pointer (some ⟨p.g, 0, none⟩)) rfl (by kernel_rfl) (by kernel_rfl) (by kernel_rfl) (fun _ _ _ h => h) (Or.inl ⟨by rfl, by intro w hSw; go_simp⟩) (by assumption) ?_
                simp only [Act.put, List.setIfInBounds_toArray, List.set_cons_zero, List.set_cons_succ]
                refine wpAnyH_take (i := 13) (oi := { dst := some 119, op := Op.move (Operand.tmp 14), type := 3, pos := "outright.go:140", after := #[{ on := 8, ground := Ground.guard }], guard := some (8, false) }) (v := .int .i64 (pg : Int)) rfl (by kernel_rfl) (by kernel_rfl) (by kernel_rfl) (fun _ _ _ h => h) (Or.inl ⟨by rfl, by intro w hSw; go_simp⟩) (by assumption) ?_
                simp only [Act.put, List.setIfInBounds_toArray, List.set_cons_zero, List.set_cons_succ]
                refine wpAnyH_take (i := 15) (oi := { dst := some 121, op := Op.move (Operand.tmp 14), type := 3, pos := "outright.go:140", after := #[{ on := 8, ground := Ground.guard }], guard := some (8, false) }) (v := .int .i64 (pg : Int)) rfl (by kernel_rfl) (by kernel_rfl) (by kernel_rfl) (fun _ _ _ h => h) (Or.inl ⟨by rfl, by intro w hSw; go_simp⟩) (by assumption) ?_
                simp only [Act.put, List.setIfInBounds_toArray, List.set_cons_zero, List.set_cons_succ]
                refine wpAnyH_take (i := 16) (oi := { dst := some 122, op := Op.load 29 (Operand.tmp 6), type := 29, pos := "outright.go:140", after := #[{ on := 8, ground := Ground.guard }], guard := some (8, false) }) (v := .agg o.cs.toArray) rfl (by kernel_rfl) (by kernel_rfl) (by kernel_rfl) (fun _ _ _ h => h) (yieldsIf_load_mid (by rfl) _ _ rfl _ _ rfl _ _ (fun w hSw => hSw.range) under29 rfl (by rw [size29]; rfl)) (by assumption) ?_
                simp only [Act.put, List.setIfInBounds_toArray, List.set_cons_zero, List.set_cons_succ]
                refine wpAnyH_take (i := 17) (oi := { dst := some 123, op := Op.move (Operand.tmp 8), type := 23, pos := "outright.go:140", after := #[{ on := 8, ground := Ground.guard }], guard := some (8, false) }) (v := .pointer (some ⟨po.g, 0, none⟩)) rfl (by kernel_rfl) (by kernel_rfl) (by kernel_rfl) (fun _ _ _ h => h) (Or.inl ⟨by rfl, by intro w hSw; go_simp⟩) (by assumption) ?_
                simp only [Act.put, List.setIfInBounds_toArray, List.set_cons_zero, List.set_cons_succ]
                refine wpAnyH_take (i := 18) (oi := { dst := some 124, op := Op.fieldAddr 29 (Operand.tmp 6) 2, type := 0, pos := "outright.go:140", after := #[{ on := 8, ground := Ground.guard }], guard := some (8, false) }) (v := .pointer (some ⟨g6, 2, none⟩)) rfl (by kernel_rfl) (by kernel_rfl) (by kernel_rfl) (fun _ _ _ h => h) (Or.inl ⟨by rfl, by intro w hSw; go_simp⟩) (by assumption) ?_
                simp only [Act.put, List.setIfInBounds_toArray, List.set_cons_zero, List.set_cons_succ]
                refine wpAnyH_take (i := 19) (oi := { dst := some 125, op := Op.load 3 (Operand.tmp 124), type := 3, pos := "outright.go:140", after := #[{ on := 18, ground := Ground.data }, { on := 8, ground := Ground.guard }], guard := some (8, false) }) (v := .int .i64 o.a) rfl (by kernel_rfl) (by kernel_rfl) (by kernel_rfl) (fun _ _ _ h => h) (Or.inl ⟨by rfl, by intro w hSw; have hc := hSw.cell 2; simp only [Oq.cs, List.getElem?_cons_zero, List.getElem?_cons_succ] at hc; go_simp⟩) (by assumption) ?_
                simp only [Act.put, List.setIfInBounds_toArray, List.set_cons_zero, List.set_cons_succ]
                refine wpAnyH_ready (rs := [11]) (by kernel_rfl) (by simp) (AllReadyH.cons (o := { dst := some 117, op := Op.call { callee := Callee.value (Operand.func 29), args := #[Operand.tmp 115, Operand.tmp 116], argTypes := #[23, 3] }, type := 62, pos := "outright.go:140", after := #[{ on := 9, ground := Ground.data }, { on := 10, ground := Ground.data }, { on := 8, ground := Ground.chain }, { on := 8, ground := Ground.guard }], guard := some (8, false) }) rfl (fun KQ hK => ?_) AllReadyH.nil)
                go_simp
                refine (HAt.out _ po _ G1.out.b (pg : Int)).mono ?_
                rw [HX.out]
                rintro e w21 ⟨rfl, hb⟩
                have G2 := hid (G1.out.on hb)
                clear hb
                go_wp2_with fail
                refine hK.out _ _ (G2.out.md.get 0 rfl) (fun hHeld => ?_)
                clear hK KQ
                try simp only [Act.put, List.setIfInBounds_toArray, List.set_cons_zero, List.set_cons_succ]
                refine wpAnyH_ready (rs := [14]) (by kernel_rfl) (by simp) (AllReadyH.cons (o := { dst := some 120, op := Op.call { callee := Callee.value (Operand.func 29), args := #[Operand.tmp 118, Operand.tmp 119], argTypes := #[23, 3] }, type := 62, pos := "outright.go:140", after := #[{ on := 12, ground := Ground.data }, { on := 13, ground := Ground.data }, { on := 11, ground := Ground.chain }, { on := 8, ground := Ground.guard }], guard := some (8, false) }) rfl (fun KQ hK => ?_) AllReadyH.nil)
                go_simp
                refine (HAt.out _ p _ G2.out.a (pg : Int)).mono ?_
                rw [HY.out]
                rintro e w22 ⟨rfl, hb⟩
                have G3 := hid (G2.out.on hb)
                clear hb
                go_wp2_with fail
                refine hK.out _ _ (G3.out.md.get 0 rfl) (fun hHeld => ?_)
                clear hK KQ
                try simp only [Act.put, List.setIfInBounds_toArray, List.set_cons_zero, List.set_cons_succ]
                refine wpAnyH_ready (rs := [20]) (by kernel_rfl) (by simp) (AllReadyH.cons (o := { dst := some 126, op := Op.call { callee := Callee.value (Operand.func 21), args := #[Operand.tmp 125, Operand.const (Value.int IntKind.i64 0), Operand.const (Value.int IntKind.i64 7)], argTypes := #[3, 3, 3] }, type := 3, pos := "outright.go:140", after := #[{ on := 19, ground := Ground.data }, { on := 14, ground := Ground.chain }, { on := 8, ground := Ground.guard }], guard := some (8, false) }) rfl (fun KQ hK => ?_) AllReadyH.nil)
                go_simp
                refine (HWi.out _ o.a HOk.out.a.1 HOk.out.a.2).mono ?_
                rintro e w23 ⟨rfl, hw⟩
                subst hw
                go_wp2_with fail
                refine hK.out _ _ (G3.out.md.get 0 rfl) (fun hHeld => ?_)
                clear hK KQ
                try simp only [Act.put, List.setIfInBounds_toArray, List.set_cons_zero, List.set_cons_succ]
                refine wpAnyH_ready (rs := [21]) (by kernel_rfl) (by simp) (AllReadyH.cons (o := { dst := some 127, op := Op.call { callee := Callee.value (Operand.func 29), args := #[Operand.tmp 123, Operand.tmp 126], argTypes := #[23, 3] }, type := 62, pos := "outright.go:140", after := #[{ on := 17, ground := Ground.data }, { on := 20, ground := Ground.data }, { on := 20, ground := Ground.chain }, { on := 8, ground := Ground.guard }], guard := some (8, false) }) rfl (fun KQ hK => ?_) AllReadyH.nil)
                go_simp
                refine (HAt.out _ po _ G3.out.b (wi o.a 0 8)).mono ?_
                rw [HZ.out]
                rintro e w24 ⟨rfl, hb⟩
                have G4 := hid (G3.out.on hb)
                clear hb
                go_wp2_with fail
                refine hK.out _ _ (G4.out.md.get 0 rfl) (fun hHeld => ?_)
                clear hK KQ
                try simp only [Act.put, List.setIfInBounds_toArray, List.set_cons_zero, List.set_cons_succ]
                refine wpAnyH_take (i := 22) (oi := { dst := some 128, op := Op.field 62 (Operand.tmp 127) 1, type := 3, pos := "outright.go:140", after := #[{ on := 21, ground := Ground.data }, { on := 8, ground := Ground.guard }], guard := some (8, false) }) (v := .int .i64 zo) rfl (by kernel_rfl) (by kernel_rfl) (by kernel_rfl) (fun _ _ _ h => h) (Or.inl ⟨by rfl, by intro w hSw; go_simp⟩) (by assumption) ?_
                simp only [Act.put, List.setIfInBounds_toArray, List.set_cons_zero, List.set_cons_succ]
                refine wpAnyH_ready (rs := [23]) (by kernel_rfl) (by simp) (AllReadyH.cons (o := { dst := some 129, op := Op.call { callee := Callee.value (Operand.func 28), args := #[Operand.tmp 117, Operand.tmp 120, Operand.tmp 121, Operand.tmp 122, Operand.tmp 128], argTypes := #[62, 62, 3, 29, 3] }, type := 4, pos := "outright.go:140", after := #[{ on := 11, ground := Ground.data }, { on := 14, ground := Ground.data }, { on := 15, ground := Ground.data }, { on := 16, ground := Ground.data }, { on := 22, ground := Ground.data }, { on := 21, ground := Ground.chain }, { on := 8, ground := Ground.guard }], guard := some (8, false) }) rfl (fun KQ hK => ?_) AllReadyH.nil)
                go_simp
                refine (HKe.out _ X Y (pg : Int) o zo HKq.out).mono ?_
                rintro e w25 ⟨rfl, hb⟩
                have G5 := hid (G4.out.on hb)
                clear hb
                go_wp2_with fail
                refine hK.out _ _ (G5.out.md.get 0 rfl) (fun hHeld => ?_)
                clear hK KQ
                try simp only [Act.put, List.setIfInBounds_toArray, List.set_cons_zero, List.set_cons_succ]
                refine wpAnyH_take (i := 24) (oi := { dst := some 130, op := Op.unOp UnOp.not 4 (Operand.tmp 129), type := 4, pos := "outright.go:140", after := #[{ on := 23, ground := Ground.data }, { on := 8, ground := Ground.guard }], guard := some (8, false) }) (v := .bool false) rfl (by kernel_rfl) (by kernel_rfl) (by kernel_rfl) (fun _ _ _ h => h) (Or.inl ⟨by rfl, by intro w hSw; go_simp⟩) (by assumption) ?_
                simp only [Act.put, List.setIfInBounds_toArray, List.set_cons_zero, List.set_cons_succ]
                refine wpAnyH_take (i := 25) (oi := { dst := some 131, op := Op.pick (Operand.tmp 114) (Operand.const (Value.bool true)) (Operand.tmp 130), type := 4, pos := "outright.go:140", after := #[{ on := 8, ground := Ground.data }, { on := 24, ground := Ground.data }], guard := none }) (v := .bool false) rfl (by kernel_rfl) (by kernel_rfl) (by kernel_rfl) (fun _ _ _ h => h) (Or.inl ⟨by rfl, by intro w hSw; go_simp⟩) (by assumption) ?_
                simp only [Act.put, List.setIfInBounds_toArray, List.set_cons_zero, List.set_cons_succ]
                refine wpAnyH_done (by kernel_rfl) ?_ _
                go_wp2_with fail
                go_roundw
                case measure => have := HP.out; simp [intOf] <;> omega
                case rel => exact ⟨pg + 1, HP.out, by simp, G5⟩
              · have hp8 : pg = 8 := by omega
                subst hp8
                rw [show ((8 : Nat) : Int) = 8 from rfl]
                have HSd2 : Hid (∀ w, DB w p d' → DB w po d → Calls Try.prog 30 #[.pointer (some ⟨p.g, 0, none⟩), .pointer (some ⟨po.g, 0, none⟩), .agg o.cs.toArray] w fun e W' => e = .returned (.bool true) ∧ Below w.heap.size w W') := hid (fun w h1 h2 => by rw [HD'.out] at h1; exact HSd.out w p po d o h1 h2 HS.out)
                have V0 : Hid True := hid trivial
                go_wp2_with (first | (revert V0; intro V0; refine wpList_load_g rfl 29 _ rfl g6 rfl (HQ8.out.md.get 0 rfl) rfl under29 size29 ?_; clear V0 ; have V1 : Hid True := hid trivial) | (go_at_call 30; revert V1; intro V1; refine (HSd2.out _ HQ8.out.a HQ8.out.b).mono ?_; rintro e w30 ⟨rfl, hb⟩; have CZ := hid (HQ8.out.on hb); clear hb; clear V1 ; have V2 : Hid True := hid trivial))
                go_roundw
                case measure => have := HJ.out; simp [intOf] <;> omega
                case rel => exact ⟨j + 1, d', by have := HJ.out; omega, by simp, hid ⟨CZ.out.md.one, HInv.out.1, HInv.out.2⟩⟩
        · have hd := (HWd'.out hz).symm
          subst hd
          have hz' : (ec == 0) = false := by simpa using hz
          rw [hz'] at Hb' HMt' HLd'
          clear HWd' HSd' hz
          go_upto_region 16 with fail
          have C7 := hid (C6.out.on (Below.refl _ _).drew)
          clear C6
          refine wp_region_held_drew (S := fun w => Cel w g6 29 o.cs) (by kernel_rfl) (C7.out.md.get 0 rfl) (fun hHeld => ?_)
          refine wpAnyH_take (i := 0) (oi := { dst := some 65, op := Op.move (Operand.tmp 3), type := 23, pos := "outright.go:129", after := #[], guard := none }) (v := .pointer (some ⟨p.g, 0, none⟩)) rfl (by kernel_rfl) (by kernel_rfl) (by kernel_rfl) (fun _ _ _ h => h) (Or.inl ⟨by rfl, by intro w hSw; go_simp⟩) (by assumption) ?_
          simp only [Act.put, List.setIfInBounds_toArray, List.set_cons_zero, List.set_cons_succ]
          refine wpAnyH_ready (rs := [1]) (by kernel_rfl) (by simp) (AllReadyH.cons (o := { dst := some 66, op := Op.call { callee := Callee.value (Operand.func 25), args := #[Operand.tmp 65], argTypes := #[23] }, type := 4, pos := "outright.go:129", after := #[{ on := 0, ground := Ground.data }], guard := none }) rfl (fun KQ hK => ?_) AllReadyH.nil)
          go_simp
          refine (HSu'.out _ C7.out.a).mono ?_
          rintro e w8 ⟨rfl, hb⟩
          have C8 := hid (C7.out.on hb)
          clear hb
          go_wp2_with fail
          refine hK.out _ _ (C8.out.md.get 0 rfl) (fun hHeld => ?_)
          clear hK KQ
          try simp only [Act.put, List.setIfInBounds_toArray, List.set_cons_zero, List.set_cons_succ]
          refine wpAnyH_take (i := 2) (oi := { dst := some 67, op := Op.unOp UnOp.not 4 (Operand.tmp 66), type := 4, pos := "outright.go:129", after := #[{ on := 1, ground := Ground.data }], guard := none }) (v := .bool false) rfl (by kernel_rfl) (by kernel_rfl) (by kernel_rfl) (fun _ _ _ h => h) (Or.inl ⟨by rfl, by intro w hSw; go_simp⟩) (by assumption) ?_
          simp only [Act.put, List.setIfInBounds_toArray, List.set_cons_zero, List.set_cons_succ]
          refine wpAnyH_take (i := 3) (oi := { dst := some 68, op := Op.move (Operand.tmp 67), type := 4, pos := "outright.go:129", after := #[{ on := 2, ground := Ground.data }, { on := 1, ground := Ground.chain }], guard := none }) (v := .bool false) rfl (by kernel_rfl) (by kernel_rfl) (by kernel_rfl) (fun _ _ _ h => h) (Or.inl ⟨by rfl, by intro w hSw; go_simp⟩) (by assumption) ?_
          simp only [Act.put, List.setIfInBounds_toArray, List.set_cons_zero, List.set_cons_succ]
          refine wpAnyH_take (i := 4) (oi := { dst := some 69, op := Op.load 29 (Operand.tmp 6), type := 29, pos := "outright.go:129", after := #[{ on := 3, ground := Ground.guard }], guard := some (3, false) }) (v := .agg o.cs.toArray) rfl (by kernel_rfl) (by kernel_rfl) (by kernel_rfl) (fun _ _ _ h => h) (yieldsIf_load_mid (by rfl) _ _ rfl _ _ rfl _ _ (fun w hSw => hSw.range) under29 rfl (by rw [size29]; rfl)) (by assumption) ?_
          simp only [Act.put, List.setIfInBounds_toArray, List.set_cons_zero, List.set_cons_succ]
          refine wpAnyH_take (i := 5) (oi := { dst := some 70, op := Op.move (Operand.tmp 12), type := 4, pos := "outright.go:129", after := #[{ on := 3, ground := Ground.guard }], guard := some (3, false) }) (v := .bool false) rfl (by kernel_rfl) (by kernel_rfl) (by kernel_rfl) (fun _ _ _ h => h) (Or.inl ⟨by rfl, by intro w hSw; go_simp⟩) (by assumption) ?_
          simp only [Act.put, List.setIfInBounds_toArray, List.set_cons_zero, List.set_cons_succ]
          refine wpAnyH_take (i := 6) (oi := { dst := some 71, op := Op.move (Operand.tmp 4), type := 24, pos := "outright.go:129", after := #[{ on := 3, ground := Ground.guard }], guard := some (3, false) }) (v := .pointer (some ⟨p.f.gm, 0, none⟩)) rfl (by kernel_rfl) (by kernel_rfl) (by kernel_rfl) (fun _ _ _ h => h) (Or.inl ⟨by rfl, by intro w hSw; go_simp⟩) (by assumption) ?_
          simp only [Act.put, List.setIfInBounds_toArray, List.set_cons_zero, List.set_cons_succ]
          refine wpAnyH_take (i := 8) (oi := { dst := some 73, op := Op.move (Operand.tmp 10), type := 2, pos := "outright.go:129", after := #[{ on := 3, ground := Ground.guard }], guard := some (3, false) }) (v := .int .i64 d.m.c) rfl (by kernel_rfl) (by kernel_rfl) (by kernel_rfl) (fun _ _ _ h => h) (Or.inl ⟨by rfl, by intro w hSw; go_simp⟩) (by assumption) ?_
          simp only [Act.put, List.setIfInBounds_toArray, List.set_cons_zero, List.set_cons_succ]
          refine wpAnyH_ready (rs := [7]) (by kernel_rfl) (by simp) (AllReadyH.cons (o := { dst := some 72, op := Op.call { callee := Callee.value (Operand.func 24), args := #[Operand.tmp 71], argTypes := #[24] }, type := 2, pos := "outright.go:129", after := #[{ on := 6, ground := Ground.data }, { on := 3, ground := Ground.chain }, { on := 3, ground := Ground.guard }], guard := some (3, false) }) rfl (fun KQ hK => ?_) AllReadyH.nil)
          go_simp
          refine (HMt.out _ p.f _ C8.out.a.mem).mono ?_
          rintro e w9 ⟨rfl, hw⟩
          subst hw
          go_wp2_with fail
          refine hK.out _ _ (C8.out.md.get 0 rfl) (fun hHeld => ?_)
          clear hK KQ
          try simp only [Act.put, List.setIfInBounds_toArray, List.set_cons_zero, List.set_cons_succ]
          refine wpAnyH_take (i := 9) (oi := { dst := some 74, op := Op.binOp BinOp.sub 2 (Operand.tmp 72) (Operand.tmp 73) 2, type := 2, pos := "outright.go:129", after := #[{ on := 7, ground := Ground.data }, { on := 8, ground := Ground.data }, { on := 3, ground := Ground.guard }], guard := some (3, false) }) (v := .int .i64 0) rfl (by kernel_rfl) (by kernel_rfl) (by kernel_rfl) (fun _ _ _ h => h) (Or.inl ⟨by rfl, by intro w hSw; go_simp; exact wr64 0 (by decide) (by decide)⟩) (by assumption) ?_
          simp only [Act.put, List.setIfInBounds_toArray, List.set_cons_zero, List.set_cons_succ]
          refine wpAnyH_ready (rs := [10]) (by kernel_rfl) (by simp) (AllReadyH.cons (o := { dst := some 75, op := Op.call { callee := Callee.value (Operand.func 26), args := #[Operand.tmp 69, Operand.tmp 70, Operand.tmp 74], argTypes := #[29, 4, 2] }, type := 4, pos := "outright.go:129", after := #[{ on := 4, ground := Ground.data }, { on := 5, ground := Ground.data }, { on := 9, ground := Ground.data }, { on := 7, ground := Ground.chain }, { on := 3, ground := Ground.guard }], guard := some (3, false) }) rfl (fun KQ hK => ?_) AllReadyH.nil)
          go_simp
          refine (HMe.out _ o false 0).mono ?_
          rw [show metB o false 0 = true from rfl]
          rintro e w9 ⟨rfl, hb⟩
          have C9 := hid (C8.out.on hb)
          clear hb
          go_wp2_with fail
          refine hK.out _ _ (C9.out.md.get 0 rfl) (fun hHeld => ?_)
          clear hK KQ
          try simp only [Act.put, List.setIfInBounds_toArray, List.set_cons_zero, List.set_cons_succ]
          refine wpAnyH_take (i := 11) (oi := { dst := some 76, op := Op.unOp UnOp.not 4 (Operand.tmp 75), type := 4, pos := "outright.go:129", after := #[{ on := 10, ground := Ground.data }, { on := 3, ground := Ground.guard }], guard := some (3, false) }) (v := .bool false) rfl (by kernel_rfl) (by kernel_rfl) (by kernel_rfl) (fun _ _ _ h => h) (Or.inl ⟨by rfl, by intro w hSw; go_simp⟩) (by assumption) ?_
          simp only [Act.put, List.setIfInBounds_toArray, List.set_cons_zero, List.set_cons_succ]
          refine wpAnyH_take (i := 12) (oi := { dst := some 77, op := Op.pick (Operand.tmp 68) (Operand.const (Value.bool true)) (Operand.tmp 76), type := 4, pos := "outright.go:129", after := #[{ on := 3, ground := Ground.data }, { on := 11, ground := Ground.data }], guard := none }) (v := .bool false) rfl (by kernel_rfl) (by kernel_rfl) (by kernel_rfl) (fun _ _ _ h => h) (Or.inl ⟨by rfl, by intro w hSw; go_simp⟩) (by assumption) ?_
          simp only [Act.put, List.setIfInBounds_toArray, List.set_cons_zero, List.set_cons_succ]
          refine wpAnyH_done (by kernel_rfl) ?_ _
          clear C7 C8
          have y0 := (C9.out.md.get 0 rfl).cell 0
          simp only [Oq.cs, List.getElem?_cons_zero] at y0
          go_upto_region 21 with fail
          clear y0
          have hb2 : d.b = bb := by have h := Hb'.out; rw [h]; simp
          have T0 : Hid True := hid trivial
          have HBi2 := hid (HBi.out _ p _ C9.out.a)
          rw [hb2] at HBi2
          have Hb2 := hid hb2
          clear hb2
          have N0 : Hid (1 + 2 * d.m.ns ≤ 1000000 ∧ d.Ok) := hid ⟨by rw [H8.out]; decide, C9.out.b.ok⟩
          have HWe : Hid (∀ x (g : Nat), Cel x g 27 (u32s d.ws) → WL x (some ⟨g, 0, none⟩) (1 + 2 * d.m.ns) d.ws) := hid (fun x g hc => WL.cel hc (fun _ _ h => h) (d.ws_len N0.out.2) (DS.ws_rg N0.out.2))
          go_upto_region 23 with (first | (go_at_call 17; revert T0; intro T0; refine (HBi2.out).mono ?_; rintro e w10 ⟨rfl, hw⟩; subst hw; clear T0 ; have T1 : Hid True := hid trivial) | (go_at_call 9; revert T1; intro T1; refine (HW.out _ p _ C9.out.a).mono ?_; rintro e w11 ⟨g11, rfl, hc, hg, hb⟩; have CA := hid (And.intro (C9.out.on hb) (HWe.out _ _ hc)); clear hc hg hb; clear T1 ; have T2 : Hid True := hid trivial) | (go_at_call 9; revert T2; intro T2; refine (HW.out _ po _ CA.out.1.b).mono ?_; rintro e w12 ⟨g12, rfl, hc, hg, hb⟩; have CB := hid (And.intro (CA.out.1.on hb) (And.intro (CA.out.2.on hb) (HWe.out _ _ hc))); clear hc hg hb; clear T2 CA; have T3 : Hid True := hid trivial) | (go_at_call 15; revert T3; intro T3; refine (HSw.out _ _ _ _ _ _ _ CB.out.2.1 CB.out.2.2 N0.out.1).mono ?_; rintro e w13 ⟨rfl, hb⟩; have CC := hid (CB.out.1.on hb); clear hb; clear T3 CB; have T4 : Hid True := hid trivial))
          clear T4 HBi2 C9
          go_wp2_with fail
          go_loopw [14] (fun i wr => ∃ pg : Nat, pg ≤ 8 ∧ i = .int .i64 (pg : Int) ∧ Hid (CT W wr p d po d f5 d.m [(g6, 29, o.cs)])) (fun i _ => 8 - (intOf i).toNat)
          case atStart => exact ⟨0, Nat.zero_le _, rfl, CC⟩
          case round =>
            obtain ⟨pg, hp, rfl, HQ8⟩ := hrel
            clear CC
            by_cases hp8 : pg < 8
            · have p1 : (pg : Int) < 8 := by omega
              have HP : Hid (pg < 8) := hid hp8
              clear hp8 hp
              go_upto_region 26 with fail
              have G0 := hid (HQ8.out.on (Below.refl _ _).drew)
              clear HQ8
              have HKq := hid (HKp'.out pg HP.out)
              generalize hX : d.ent (pg : Int) = X at *
              have HX := hid hX
              clear hX
              generalize hZ : d.ent (wi o.a 0 8) = Z at *
              have HZ := hid hZ
              clear hZ
              obtain ⟨zt, zo, zr, zs, zx⟩ := Z
              have hfd : ∀ w : World, (Instr.field 62 (.agg (En.mk zt zo zr zs zx).cs.toArray) 1).run Try.prog w = .ok (.int .i64 zo) w := fun _ => by kernel_rfl
              refine wp_region_held_drew (S := fun w => Cel w g6 29 o.cs) (by kernel_rfl) (G0.out.md.get 0 rfl) (fun hHeld => ?_)
              refine wpAnyH_take (i := 0) (oi := { dst := some 106, op := Op.move (Operand.tmp 4), type := 24, pos := "outright.go:140", after := #[], guard := none }) (v := .pointer (some ⟨p.f.gm, 0, none⟩)) rfl (by kernel_rfl) (by kernel_rfl) (by kernel_rfl) (fun _ _ _ h => h) (Or.inl ⟨by rfl, by intro w hSw; go_simp⟩) (by assumption) ?_
              simp only [Act.put, List.setIfInBounds_toArray, List.set_cons_zero, List.set_cons_succ]
              refine wpAnyH_take (i := 1) (oi := { dst := some 107, op := Op.move (Operand.tmp 7), type := 24, pos := "outright.go:140", after := #[], guard := none }) (v := .pointer (some ⟨f5.gm, 0, none⟩)) rfl (by kernel_rfl) (by kernel_rfl) (by kernel_rfl) (fun _ _ _ h => h) (Or.inl ⟨by rfl, by intro w hSw; go_simp⟩) (by assumption) ?_
              simp only [Act.put, List.setIfInBounds_toArray, List.set_cons_zero, List.set_cons_succ]
              refine wpAnyH_take (i := 2) (oi := { dst := some 108, op := Op.move (Operand.tmp 14), type := 3, pos := "outright.go:140", after := #[], guard := none }) (v := .int .i64 (pg : Int)) rfl (by kernel_rfl) (by kernel_rfl) (by kernel_rfl) (fun _ _ _ h => h) (Or.inl ⟨by rfl, by intro w hSw; go_simp⟩) (by assumption) ?_
              simp only [Act.put, List.setIfInBounds_toArray, List.set_cons_zero, List.set_cons_succ]
              refine wpAnyH_take (i := 3) (oi := { dst := some 109, op := Op.load 29 (Operand.tmp 6), type := 29, pos := "outright.go:140", after := #[], guard := none }) (v := .agg o.cs.toArray) rfl (by kernel_rfl) (by kernel_rfl) (by kernel_rfl) (fun _ _ _ h => h) (yieldsIf_load_mid (by rfl) _ _ rfl _ _ rfl _ _ (fun w hSw => hSw.range) under29 rfl (by rw [size29]; rfl)) (by assumption) ?_
              simp only [Act.put, List.setIfInBounds_toArray, List.set_cons_zero, List.set_cons_succ]
              refine wpAnyH_take (i := 4) (oi := { dst := some 110, op := Op.move (Operand.tmp 12), type := 4, pos := "outright.go:140", after := #[], guard := none }) (v := .bool false) rfl (by kernel_rfl) (by kernel_rfl) (by kernel_rfl) (fun _ _ _ h => h) (Or.inl ⟨by rfl, by intro w hSw; go_simp⟩) (by assumption) ?_
              simp only [Act.put, List.setIfInBounds_toArray, List.set_cons_zero, List.set_cons_succ]
              refine wpAnyH_take (i := 5) (oi := { dst := some 111, op := Op.move (Operand.tmp 9), type := 3, pos := "outright.go:140", after := #[], guard := none }) (v := .int .i64 bb) rfl (by kernel_rfl) (by kernel_rfl) (by kernel_rfl) (fun _ _ _ h => h) (Or.inl ⟨by rfl, by intro w hSw; go_simp⟩) (by assumption) ?_
              simp only [Act.put, List.setIfInBounds_toArray, List.set_cons_zero, List.set_cons_succ]
              refine wpAnyH_ready (rs := [6]) (by kernel_rfl) (by simp) (AllReadyH.cons (o := { dst := some 112, op := Op.call { callee := Callee.value (Operand.func 27), args := #[Operand.tmp 106, Operand.tmp 107, Operand.tmp 108, Operand.tmp 109, Operand.tmp 110, Operand.tmp 111], argTypes := #[24, 24, 3, 29, 4, 3] }, type := 4, pos := "outright.go:140", after := #[{ on := 0, ground := Ground.data }, { on := 1, ground := Ground.data }, { on := 2, ground := Ground.data }, { on := 3, ground := Ground.data }, { on := 4, ground := Ground.data }, { on := 5, ground := Ground.data }], guard := none }) rfl (fun KQ hK => ?_) AllReadyH.nil)
              go_simp
              refine (HLa.out _ p.f f5 _ _ G0.out.a.mem G0.out.mm (pg : Int) o false bb (HLd'.out pg HP.out)).mono ?_
              rintro e w20 ⟨rfl, hb⟩
              have G1 := hid (G0.out.on hb)
              clear hb
              go_wp2_with fail
              refine hK.out _ _ (G1.out.md.get 0 rfl) (fun hHeld => ?_)
              clear hK KQ
              try simp only [Act.put, List.setIfInBounds_toArray, List.set_cons_zero, List.set_cons_succ]
              refine wpAnyH_take (i := 7) (oi := { dst := some 113, op := Op.unOp UnOp.not 4 (Operand.tmp 112), type := 4, pos := "outright.go:140", after := #[{ on := 6, ground := Ground.data }], guard := none }) (v := .bool false) rfl (by kernel_rfl) (by kernel_rfl) (by kernel_rfl) (fun _ _ _ h => h) (Or.inl ⟨by rfl, by intro w hSw; go_simp⟩) (by assumption) ?_
              simp only [Act.put, List.setIfInBounds_toArray, List.set_cons_zero, List.set_cons_succ]
              refine wpAnyH_take (i := 8) (oi := { dst := some 114, op := Op.move (Operand.tmp 113), type := 4, pos := "outright.go:140", after := #[{ on := 7, ground := Ground.data }, { on := 6, ground := Ground.chain }], guard := none }) (v := .bool false) rfl (by kernel_rfl) (by kernel_rfl) (by kernel_rfl) (fun _ _ _ h => h) (Or.inl ⟨by rfl, by intro w hSw; go_simp⟩) (by assumption) ?_
              simp only [Act.put, List.setIfInBounds_toArray, List.set_cons_zero, List.set_cons_succ]
              refine wpAnyH_take (i := 9) (oi := { dst := some 115, op := Op.move (Operand.tmp 8), type := 23, pos := "outright.go:140", after := #[{ on := 8, ground := Ground.guard }], guard := some (8, false) }) (v := .pointer (some ⟨po.g, 0, none⟩)) rfl (by kernel_rfl) (by kernel_rfl) (by kernel_rfl) (fun _ _ _ h => h) (Or.inl ⟨by rfl, by intro w hSw; go_simp⟩) (by assumption) ?_
              simp only [Act.put, List.setIfInBounds_toArray, List.set_cons_zero, List.set_cons_succ]
              refine wpAnyH_take (i := 10) (oi := { dst := some 116, op := Op.move (Operand.tmp 14), type := 3, pos := "outright.go:140", after := #[{ on := 8, ground := Ground.guard }], guard := some (8, false) }) (v := .int .i64 (pg : Int)) rfl (by kernel_rfl) (by kernel_rfl) (by kernel_rfl) (fun _ _ _ h => h) (Or.inl ⟨by rfl, by intro w hSw; go_simp⟩) (by assumption) ?_
              simp only [Act.put, List.setIfInBounds_toArray, List.set_cons_zero, List.set_cons_succ]
              refine wpAnyH_take (i := 12) (oi := { dst := some 118, op := Op.move (Operand.tmp 3), type := 23, pos := "outright.go:140", after := #[{ on := 8, ground := Ground.guard }], guard := some (8, false) }) (v := .pointer (some ⟨p.g, 0, none⟩)) rfl (by kernel_rfl) (by kernel_rfl) (by kernel_rfl) (fun _ _ _ h => h) (Or.inl ⟨by rfl, by intro w hSw; go_simp⟩) (by assumption) ?_
              simp only [Act.put, List.setIfInBounds_toArray, List.set_cons_zero, List.set_cons_succ]
              refine wpAnyH_take (i := 13) (oi := { dst := some 119, op := Op.move (Operand.tmp 14), type := 3, pos := "outright.go:140", after := #[{ on := 8, ground := Ground.guard }], guard := some (8, false) }) (v := .int .i64 (pg : Int)) rfl (by kernel_rfl) (by kernel_rfl) (by kernel_rfl) (fun _ _ _ h => h) (Or.inl ⟨by rfl, by intro w hSw; go_simp⟩) (by assumption) ?_
              simp only [Act.put, List.setIfInBounds_toArray, List.set_cons_zero, List.set_cons_succ]
              refine wpAnyH_take (i := 15) (oi := { dst := some 121, op := Op.move (Operand.tmp 14), type := 3, pos := "outright.go:140", after := #[{ on := 8, ground := Ground.guard }], guard := some (8, false) }) (v := .int .i64 (pg : Int)) rfl (by kernel_rfl) (by kernel_rfl) (by kernel_rfl) (fun _ _ _ h => h) (Or.inl ⟨by rfl, by intro w hSw; go_simp⟩) (by assumption) ?_
              simp only [Act.put, List.setIfInBounds_toArray, List.set_cons_zero, List.set_cons_succ]
              refine wpAnyH_take (i := 16) (oi := { dst := some 122, op := Op.load 29 (Operand.tmp 6), type := 29, pos := "outright.go:140", after := #[{ on := 8, ground := Ground.guard }], guard := some (8, false) }) (v := .agg o.cs.toArray) rfl (by kernel_rfl) (by kernel_rfl) (by kernel_rfl) (fun _ _ _ h => h) (yieldsIf_load_mid (by rfl) _ _ rfl _ _ rfl _ _ (fun w hSw => hSw.range) under29 rfl (by rw [size29]; rfl)) (by assumption) ?_
              simp only [Act.put, List.setIfInBounds_toArray, List.set_cons_zero, List.set_cons_succ]
              refine wpAnyH_take (i := 17) (oi := { dst := some 123, op := Op.move (Operand.tmp 8), type := 23, pos := "outright.go:140", after := #[{ on := 8, ground := Ground.guard }], guard := some (8, false) }) (v := .pointer (some ⟨po.g, 0, none⟩)) rfl (by kernel_rfl) (by kernel_rfl) (by kernel_rfl) (fun _ _ _ h => h) (Or.inl ⟨by rfl, by intro w hSw; go_simp⟩) (by assumption) ?_
              simp only [Act.put, List.setIfInBounds_toArray, List.set_cons_zero, List.set_cons_succ]
              refine wpAnyH_take (i := 18) (oi := { dst := some 124, op := Op.fieldAddr 29 (Operand.tmp 6) 2, type := 0, pos := "outright.go:140", after := #[{ on := 8, ground := Ground.guard }], guard := some (8, false) }) (v := .pointer (some ⟨g6, 2, none⟩)) rfl (by kernel_rfl) (by kernel_rfl) (by kernel_rfl) (fun _ _ _ h => h) (Or.inl ⟨by rfl, by intro w hSw; go_simp⟩) (by assumption) ?_
              simp only [Act.put, List.setIfInBounds_toArray, List.set_cons_zero, List.set_cons_succ]
              refine wpAnyH_take (i := 19) (oi := { dst := some 125, op := Op.load 3 (Operand.tmp 124), type := 3, pos := "outright.go:140", after := #[{ on := 18, ground := Ground.data }, { on := 8, ground := Ground.guard }], guard := some (8, false) }) (v := .int .i64 o.a) rfl (by kernel_rfl) (by kernel_rfl) (by kernel_rfl) (fun _ _ _ h => h) (Or.inl ⟨by rfl, by intro w hSw; have hc := hSw.cell 2; simp only [Oq.cs, List.getElem?_cons_zero, List.getElem?_cons_succ] at hc; go_simp⟩) (by assumption) ?_
              simp only [Act.put, List.setIfInBounds_toArray, List.set_cons_zero, List.set_cons_succ]
              refine wpAnyH_ready (rs := [11]) (by kernel_rfl) (by simp) (AllReadyH.cons (o := { dst := some 117, op := Op.call { callee := Callee.value (Operand.func 29), args := #[Operand.tmp 115, Operand.tmp 116], argTypes := #[23, 3] }, type := 62, pos := "outright.go:140", after := #[{ on := 9, ground := Ground.data }, { on := 10, ground := Ground.data }, { on := 8, ground := Ground.chain }, { on := 8, ground := Ground.guard }], guard := some (8, false) }) rfl (fun KQ hK => ?_) AllReadyH.nil)
              go_simp
              refine (HAt.out _ po _ G1.out.b (pg : Int)).mono ?_
              rw [HX.out]
              rintro e w21 ⟨rfl, hb⟩
              have G2 := hid (G1.out.on hb)
              clear hb
              go_wp2_with fail
              refine hK.out _ _ (G2.out.md.get 0 rfl) (fun hHeld => ?_)
              clear hK KQ
              try simp only [Act.put, List.setIfInBounds_toArray, List.set_cons_zero, List.set_cons_succ]
              refine wpAnyH_ready (rs := [14]) (by kernel_rfl) (by simp) (AllReadyH.cons (o := { dst := some 120, op := Op.call { callee := Callee.value (Operand.func 29), args := #[Operand.tmp 118, Operand.tmp 119], argTypes := #[23, 3] }, type := 62, pos := "outright.go:140", after := #[{ on := 12, ground := Ground.data }, { on := 13, ground := Ground.data }, { on := 11, ground := Ground.chain }, { on := 8, ground := Ground.guard }], guard := some (8, false) }) rfl (fun KQ hK => ?_) AllReadyH.nil)
              go_simp
              refine (HAt.out _ p _ G2.out.a (pg : Int)).mono ?_
              rw [HX.out]
              rintro e w22 ⟨rfl, hb⟩
              have G3 := hid (G2.out.on hb)
              clear hb
              go_wp2_with fail
              refine hK.out _ _ (G3.out.md.get 0 rfl) (fun hHeld => ?_)
              clear hK KQ
              try simp only [Act.put, List.setIfInBounds_toArray, List.set_cons_zero, List.set_cons_succ]
              refine wpAnyH_ready (rs := [20]) (by kernel_rfl) (by simp) (AllReadyH.cons (o := { dst := some 126, op := Op.call { callee := Callee.value (Operand.func 21), args := #[Operand.tmp 125, Operand.const (Value.int IntKind.i64 0), Operand.const (Value.int IntKind.i64 7)], argTypes := #[3, 3, 3] }, type := 3, pos := "outright.go:140", after := #[{ on := 19, ground := Ground.data }, { on := 14, ground := Ground.chain }, { on := 8, ground := Ground.guard }], guard := some (8, false) }) rfl (fun KQ hK => ?_) AllReadyH.nil)
              go_simp
              refine (HWi.out _ o.a HOk.out.a.1 HOk.out.a.2).mono ?_
              rintro e w23 ⟨rfl, hw⟩
              subst hw
              go_wp2_with fail
              refine hK.out _ _ (G3.out.md.get 0 rfl) (fun hHeld => ?_)
              clear hK KQ
              try simp only [Act.put, List.setIfInBounds_toArray, List.set_cons_zero, List.set_cons_succ]
              refine wpAnyH_ready (rs := [21]) (by kernel_rfl) (by simp) (AllReadyH.cons (o := { dst := some 127, op := Op.call { callee := Callee.value (Operand.func 29), args := #[Operand.tmp 123, Operand.tmp 126], argTypes := #[23, 3] }, type := 62, pos := "outright.go:140", after := #[{ on := 17, ground := Ground.data }, { on := 20, ground := Ground.data }, { on := 20, ground := Ground.chain }, { on := 8, ground := Ground.guard }], guard := some (8, false) }) rfl (fun KQ hK => ?_) AllReadyH.nil)
              go_simp
              refine (HAt.out _ po _ G3.out.b (wi o.a 0 8)).mono ?_
              rw [HZ.out]
              rintro e w24 ⟨rfl, hb⟩
              have G4 := hid (G3.out.on hb)
              clear hb
              go_wp2_with fail
              refine hK.out _ _ (G4.out.md.get 0 rfl) (fun hHeld => ?_)
              clear hK KQ
              try simp only [Act.put, List.setIfInBounds_toArray, List.set_cons_zero, List.set_cons_succ]
              refine wpAnyH_take (i := 22) (oi := { dst := some 128, op := Op.field 62 (Operand.tmp 127) 1, type := 3, pos := "outright.go:140", after := #[{ on := 21, ground := Ground.data }, { on := 8, ground := Ground.guard }], guard := some (8, false) }) (v := .int .i64 zo) rfl (by kernel_rfl) (by kernel_rfl) (by kernel_rfl) (fun _ _ _ h => h) (Or.inl ⟨by rfl, by intro w hSw; go_simp⟩) (by assumption) ?_
              simp only [Act.put, List.setIfInBounds_toArray, List.set_cons_zero, List.set_cons_succ]
              refine wpAnyH_ready (rs := [23]) (by kernel_rfl) (by simp) (AllReadyH.cons (o := { dst := some 129, op := Op.call { callee := Callee.value (Operand.func 28), args := #[Operand.tmp 117, Operand.tmp 120, Operand.tmp 121, Operand.tmp 122, Operand.tmp 128], argTypes := #[62, 62, 3, 29, 3] }, type := 4, pos := "outright.go:140", after := #[{ on := 11, ground := Ground.data }, { on := 14, ground := Ground.data }, { on := 15, ground := Ground.data }, { on := 16, ground := Ground.data }, { on := 22, ground := Ground.data }, { on := 21, ground := Ground.chain }, { on := 8, ground := Ground.guard }], guard := some (8, false) }) rfl (fun KQ hK => ?_) AllReadyH.nil)
              go_simp
              refine (HKe.out _ X X (pg : Int) o zo HKq.out).mono ?_
              rintro e w25 ⟨rfl, hb⟩
              have G5 := hid (G4.out.on hb)
              clear hb
              go_wp2_with fail
              refine hK.out _ _ (G5.out.md.get 0 rfl) (fun hHeld => ?_)
              clear hK KQ
              try simp only [Act.put, List.setIfInBounds_toArray, List.set_cons_zero, List.set_cons_succ]
              refine wpAnyH_take (i := 24) (oi := { dst := some 130, op := Op.unOp UnOp.not 4 (Operand.tmp 129), type := 4, pos := "outright.go:140", after := #[{ on := 23, ground := Ground.data }, { on := 8, ground := Ground.guard }], guard := some (8, false) }) (v := .bool false) rfl (by kernel_rfl) (by kernel_rfl) (by kernel_rfl) (fun _ _ _ h => h) (Or.inl ⟨by rfl, by intro w hSw; go_simp⟩) (by assumption) ?_
              simp only [Act.put, List.setIfInBounds_toArray, List.set_cons_zero, List.set_cons_succ]
              refine wpAnyH_take (i := 25) (oi := { dst := some 131, op := Op.pick (Operand.tmp 114) (Operand.const (Value.bool true)) (Operand.tmp 130), type := 4, pos := "outright.go:140", after := #[{ on := 8, ground := Ground.data }, { on := 24, ground := Ground.data }], guard := none }) (v := .bool false) rfl (by kernel_rfl) (by kernel_rfl) (by kernel_rfl) (fun _ _ _ h => h) (Or.inl ⟨by rfl, by intro w hSw; go_simp⟩) (by assumption) ?_
              simp only [Act.put, List.setIfInBounds_toArray, List.set_cons_zero, List.set_cons_succ]
              refine wpAnyH_done (by kernel_rfl) ?_ _
              go_wp2_with fail
              go_roundw
              case measure => have := HP.out; simp [intOf] <;> omega
              case rel => exact ⟨pg + 1, HP.out, by simp, G5⟩
            · have hp8 : pg = 8 := by omega
              subst hp8
              rw [show ((8 : Nat) : Int) = 8 from rfl]
              go_wp2_with fail
              go_roundw
              case measure => have := HJ.out; simp [intOf] <;> omega
              case rel => exact ⟨j + 1, d, by have := HJ.out; omega, by simp, hid ⟨HQ8.out.md.one, H8.out, HI.out⟩⟩
      · have hk' : o.k < 1 ∨ (1 ≤ o.k ∧ 6 < o.k) := by
          have : ¬ (1 ≤ o.k ∧ o.k ≤ 6) := fun h => hk (decide_eq_true h)
          omega
        clear hk
        have y2 := (M2.out.get 0 rfl).cell 2
        have y6 := (M2.out.get 0 rfl).cell 6
        have y7 := (M2.out.get 0 rfl).cell 7
        simp only [Oq.cs, List.getElem?_cons_zero, List.getElem?_cons_succ] at y2 y6 y7
        rcases hk' with hk | ⟨hk0, hk⟩
        all_goals go_wp2_with (go_at_call 23; refine (HWr.out _ p.f _ (M2.out.db 0 _ _ rfl).mem o.a o.off o.v).mono ?_; rintro e w3 ⟨rfl, hm, hb⟩; have M3 : Hid (MD W w3 [(p, { d with m := d.m.write true o.a o.off o.v })] []) := hid ((M2.out.step 0 rfl ((M2.out.db 0 _ _ rfl).memory hm hb (MS.write_ns _ _ _ _ _)) (hb.mono (fun k hk => by simp only [Dp.w, List.mem_cons]; exact .inr hk))).drop); clear hm hb)
        all_goals go_roundw
        case measure => have := HJ.out; simp [intOf] <;> omega
        case rel => exact ⟨j + 1, _, by have := HJ.out; omega, by simp, hid ⟨M3.out, (MS.write_ns _ _ _ _ _).trans H8.out, HI.out⟩⟩
        case measure => have := HJ.out; simp [intOf] <;> omega
        case rel => exact ⟨j + 1, _, by have := HJ.out; omega, by simp, hid ⟨M3.out, (MS.write_ns _ _ _ _ _).trans H8.out, HI.out⟩⟩
    · have hjn : (n : Int) ≤ (j : Int) ∨ ((j : Int) < (n : Int) ∧ (60 : Int) ≤ (j : Int)) := by omega
      clear hlt hj
      rcases hjn with hjn | ⟨hjn, hjm⟩
      all_goals go_wp2_with fail
      all_goals go_ret
      all_goals exact ⟨rfl, HD.out.1.below⟩
end Go.Proofs.Ytajkhkaidjjioaa
