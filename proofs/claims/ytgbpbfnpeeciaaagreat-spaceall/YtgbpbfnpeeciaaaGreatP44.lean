import Derived.Test.YtgbpbfnpeeciaaaGreatP35
import Derived.Test.YtgbpbfnpeeciaaaGreatP36
import Derived.Test.YtgbpbfnpeeciaaaGreatP43
namespace Go.Proofs.YtgbpbfnpeeciaaaGreat
open Go.RowKit
set_option maxHeartbeats 4000000
set_option maxRecDepth 100000
theorem under33 : Tryz.prog.underlying 33 = some (.struct (Tryz.prog.fieldsOf 33)) := by kernel_rfl
theorem size33 : (Tryz.prog.info? 33).map (·.size) = some 10 := by kernel_rfl
theorem under23 : Tryz.prog.underlying 23 = some (.struct (Tryz.prog.fieldsOf 23)) := by kernel_rfl
theorem size23 : (Tryz.prog.info? 23).map (·.size) = some 2 := by kernel_rfl
structure OpsAt (W : World) (ao : Option Addr) (n : Nat) (q : Nat → Oq) : Prop where
  at_ : 0 < n → ∃ g off, ao = some ⟨g, off, none⟩ ∧ g < W.heap.size ∧ ∀ j, j < n → W.rangeAt g (off + j * 10) (q j).cs
  v : ∀ j, j < n → 0 ≤ (q j).v ∧ (q j).v < 4294967296
theorem rangeAt_on {W W' : World} {g off : Nat} {cs : List Value} (h : W.rangeAt g off cs) (hg : g < W.heap.size) (hb : Below W.heap.size W W') : W'.rangeAt g off cs := fun j v hv => by
  have := h j v hv
  unfold World.cell? at this ⊢
  rw [hb.block g hg]
  exact this
theorem OpsAt.on {W W' : World} {ao : Option Addr} {n : Nat} {q : Nat → Oq} (h : OpsAt W ao n q) (hb : Below W.heap.size W W') : OpsAt W' ao n q :=
  ⟨fun hn => by
    obtain ⟨g, off, h1, h2, h3⟩ := h.at_ hn
    exact ⟨g, off, h1, by have := hb.size; omega, fun j hj => rangeAt_on (h3 j hj) h2 hb⟩, h.v⟩
theorem OpsAt.row {W : World} {g off n : Nat} {q : Nat → Oq} (h : OpsAt W (some ⟨g, off, none⟩) n q) {j : Nat} (hj : j < n) : W.rangeAt g (off + j * 10) (q j).cs := by
  obtain ⟨g', off', h1, h2, h3⟩ := h.at_ (by omega)
  cases h1
  exact h3 j hj
theorem SX.on {W w w' : World} {p : Dp} {r q : Rp} {d e : DS} {gs : Nat} (h : SX W w p r q d e gs) (hb : Below w.heap.size w w') : SX W w' p r q d e gs := ⟨h.tp.on hb, h.sim, h.u⟩
theorem SX.ws {W w : World} {p : Dp} {r q : Rp} {d e : DS} {gs : Nat} (h : SX W w p r q d e gs) : WS w w p q d e gs :=
  ⟨h.tp.own, h.tp.doc, .refl _ _, by
    have h1 := h.tp.get 0 rfl
    have h2 := h.tp.g
    unfold sdC at h1
    rw [← h2] at h1
    exact h1⟩
theorem prepared_any (W w : World) (p : Dp) (r q : Rp) (d e : DS) (gs : Nat) (h : SX W w p r q d e gs) (o : Oq) (v0 : 0 ≤ o.v) (v1 : o.v < 4294967296) (h0 : 10 ≤ o.k) (h1 : o.k ≤ 15) :
    Calls Tryz.prog 6 #[.pointer (some ⟨gs, 0, none⟩), o.val] w fun x w' => x = .returned (.bool true) ∧ ∃ q' d' e', SX W w' p r q' d' e' gs := by
  have hk : o.k = 10 ∨ o.k = 11 ∨ o.k = 12 ∨ o.k = 13 ∨ o.k = 14 ∨ o.k = 15 := by omega
  rcases hk with hk | hk | hk | hk | hk | hk
  · exact (prep_10 W w p r q d e gs h o hk).mono fun x w' ⟨h1, q', h2⟩ => ⟨h1, q', _, _, h2⟩
  · exact (prep_11 W w p r q d e gs h o hk).mono fun x w' ⟨h1, q', h2⟩ => ⟨h1, q', _, _, h2⟩
  · exact (prep_12 W w p r q d e gs h o hk).mono fun x w' ⟨h1, q', h2⟩ => ⟨h1, q', _, _, h2⟩
  · exact (prep_13 W w p r q d e gs h o hk).mono fun x w' ⟨h1, q', h2⟩ => ⟨h1, q', _, _, h2⟩
  · exact (prep_14 W w p r q d e gs h o hk).mono fun x w' ⟨h1, q', h2⟩ => ⟨h1, q', _, _, h2⟩
  · exact (prep_15 W w p r q d e gs h o hk v0 v1).mono fun x w' ⟨h1, q', h2⟩ => ⟨h1, q', _, _, h2⟩
theorem asked_any (W w : World) (p : Dp) (r q : Rp) (d e : DS) (gs : Nat) (h : SX W w p r q d e gs) (o : Oq) (v0 : 0 ≤ o.v) (v1 : o.v < 4294967296) (h0 : 1 ≤ o.k) (h1 : o.k ≤ 9) :
    Calls Tryz.prog 7 #[.pointer (some ⟨gs, 0, none⟩), o.val] w fun x w' => x = .returned (.bool true) ∧ ∃ q' d' e', SX W w' p r q' d' e' gs := by
  have hk : o.k = 1 ∨ o.k = 2 ∨ o.k = 3 ∨ o.k = 4 ∨ o.k = 5 ∨ o.k = 6 ∨ o.k = 7 ∨ o.k = 8 ∨ o.k = 9 := by omega
  rcases hk with hk | hk | hk | hk | hk | hk | hk | hk | hk
  · exact (ask_1 W w p r q d e gs h o hk v0 v1).mono fun x w' ⟨h1, q', h2⟩ => ⟨h1, q', _, _, h2⟩
  · exact (ask_2 W w p r q d e gs h o hk v0 v1).mono fun x w' ⟨h1, q', h2⟩ => ⟨h1, q', _, _, h2⟩
  · exact (ask_3 W w p r q d e gs h o hk).mono fun x w' ⟨h1, q', h2⟩ => ⟨h1, q', _, _, h2⟩
  · exact (ask_4 W w p r q d e gs h o hk).mono fun x w' ⟨h1, q', h2⟩ => ⟨h1, q', _, _, h2⟩
  · exact (ask_5 W w p r q d e gs h o hk v0 v1).mono fun x w' ⟨h1, q', h2⟩ => ⟨h1, q', _, _, h2⟩
  · exact (ask_6 W w p r q d e gs h o hk v0 v1).mono fun x w' ⟨h1, q', h2⟩ => ⟨h1, q', _, _, h2⟩
  · exact (ask_7 W w p r q d e gs h o hk v0 v1).mono fun x w' ⟨h1, q', h2⟩ => ⟨h1, q', _, _, h2⟩
  · exact (ask_8 W w p r q d e gs h o hk v0 v1).mono fun x w' ⟨h1, q', h2⟩ => ⟨h1, q', _, _, h2⟩
  · exact (ask_9 W w p r q d e gs h o hk).mono fun x w' ⟨h1, q', d', h2⟩ => ⟨h1, q', d', _, h2⟩
theorem all14_any (W : World) (s i : Int) (ao : Option Addr) (n c : Nat) (q : Nat → Oq) (hq : OpsAt W ao n q) (hn : n ≤ 1152921504606846976) :
    Calls Tryz.prog 3 #[.agg #[.int .i64 s, .int .i64 i], .slice ao n c] W fun x W' => x = .returned (.bool true) ∧ Below W.heap.size W W' := by
  have BB : Hid (Below W.heap.size W (W.alloc (.cells #[.int .i64 s, .int .i64 i] 23))) := hid (below_one _ _)
  have B0 : Hid (Cel (W.alloc (.cells #[.int .i64 s, .int .i64 i] 23)) W.heap.size 23 [.int .i64 s, .int .i64 i]) := hid (Cel.new W 23 [.int .i64 s, .int .i64 i])
  have HH := hid (fun w => head_yes w)
  have HQ := hid hq
  have HN := hid hn
  clear hq hn
  by_cases hs : 1 ≤ s ∧ s ≤ 64 ∧ 1 ≤ i ∧ i ≤ 64
  · obtain ⟨s1, s2, i1, i2⟩ := hs
    obtain ⟨a, rfl⟩ := Int.eq_ofNat_of_zero_le (show 0 ≤ s by omega)
    obtain ⟨b, rfl⟩ := Int.eq_ofNat_of_zero_le (show 0 ≤ i by omega)
    have HBe := hid (fun w => begins_yes2 w a b (by omega) (by omega) (by omega) (by omega))
    have HU := hid (fresh_u a b)
    have HPr := hid (fun W w p r q d e gs h o v0 v1 h0 h1 => prepared_any W w p r q d e gs h o v0 v1 h0 h1)
    have HAs := hid (fun W w p r q d e gs h o v0 v1 h0 h1 => asked_any W w p r q d e gs h o v0 v1 h0 h1)
    have HSe := hid (fun w p r d e gs h hs => settled_any w p r d e gs h hs)
    clear s1 s2 i1 i2
    generalize DS.fresh (MS.new a b) = d0 at *
    go_enter Tryz.func3, Tryz.ntmps3
    go_upto_region 1 with fail
    generalize W.alloc _ = X at *
    generalize hg2 : W.heap.size = g2 at B0 ⊢
    clear hg2
    go_upto_region 2 with (first | (refine wpList_load_g rfl 23 _ rfl g2 rfl B0.out rfl under23 size23 ?_) | (go_at_call 4; refine (HBe.out _).mono ?_; rintro x w1 ⟨gs, p, r, rfl, ht, hnew⟩; have S1 : Hid (SX X w1 p r r d0 d0 gs) := hid ⟨ht, .refl _, HU.out⟩; have HNw := hid hnew; clear ht hnew))
    have HBl : Hid (∀ w q d e, SX X w p r q d e gs → Below W.heap.size W w) := hid (fun w q d e h => below_on BB.out (h.tp.but.below (B := X.heap.size) (fun k hk => HNw.out k hk) (Nat.le_refl _)))
    clear HBe HU B0
    go_upto_region 6 with (go_at_call 5; refine (HH.out _).mono ?_; rintro x w2 ⟨rfl, hb⟩; have S2 := hid (S1.out.on hb); clear hb S1)
    go_upto_region 7 with fail
    go_loopw [8] (fun i wr => ∃ (j : Nat) (q' : Rp) (d e : DS), j ≤ n ∧ i = .int .i64 (j : Int) ∧ Hid (SX X wr p r q' d e gs)) (fun i _ => n - (intOf i).toNat)
    case atStart => exact ⟨0, _, _, _, Nat.zero_le _, rfl, S2⟩
    case round =>
      obtain ⟨j, q', d, e, hj, rfl, HS⟩ := hrel
      clear S2
      by_cases hlt : j < n
      · have q1 : (j : Int) < (n : Int) := by omega
        have qn : j < n := hlt
        have hn60 := HN.out
        have jw : (j : Int) ≤ 1152921504606846976 := by omega
        obtain ⟨g, off, rfl, hg, _⟩ := HQ.out.at_ (by omega)
        have HRow := hid ((HQ.out.on (HBl.out _ _ _ _ HS.out)).row qn)
        have HOk := hid (HQ.out.v j qn)
        have HJ : Hid (j < n) := hid hlt
        clear hlt hj hn60
        generalize q j = o at *
        go_upto_region 10 with (first | (refine wpList_load_mid rfl 33 _ rfl g (off + j * 10) rfl _ _ HRow.out under33 rfl (by rw [size33]; rfl) ?_) | (refine wpList_store_st rfl 33 _ _ rfl wr.heap.size o.cs rfl rfl (Cel.new wr 33 [.int .i64 0, .int .i64 0, .int .i64 0, .int .i64 0, .int .u32 0, .bool false, .int .i64 0, .bool false, .bool false, .bool false]) size33 rfl rfl ?_; intro w3 hc hb hs; have S3 := hid (HS.out.on ((below_one wr (.cells #[.int .i64 0, .int .i64 0, .int .i64 0, .int .i64 0, .int .u32 0, .bool false, .int .i64 0, .bool false, .bool false, .bool false] 33)).trans (hb.below (B := wr.heap.size) (by simp) (by simp)))); have C3 := hid hc; clear hc hb hs))
        clear HRow HS
        generalize wr.heap.size = g9 at *
        have y0 : w3.cell? ⟨g9, 0, none⟩ = some (.int .i64 o.k) := C3.out.cell 0
        have HEnd : Hid (∀ w, (∃ q' d e, SX X w p r q' d e gs) → True) := hid (fun _ _ => trivial)
        clear HEnd
        by_cases h1 : 10 ≤ o.k
        · by_cases h2 : o.k ≤ 15
          · have HK := hid (And.intro h1 h2)
            go_upto_region 15 with (first | (refine wpList_load_g rfl 33 _ rfl g9 rfl C3.out rfl under33 size33 ?_) | (go_at_call 6; refine (HPr.out X _ p r q' d e gs S3.out o HOk.out.1 HOk.out.2 HK.out.1 HK.out.2).mono ?_; rintro x w4 ⟨rfl, q4, d4, e4, h4⟩; have S4 := hid h4; clear h4))
            go_wp2_with fail
            go_roundw
            case measure => have := HJ.out; simp [intOf] <;> omega
            case rel => exact ⟨j + 1, q4, d4, e4, HJ.out, by simp, S4⟩
          · have h3 : ¬ o.k ≤ 9 := by omega
            have h5 : 1 ≤ o.k := by omega
            go_wp2_with fail
            go_roundw
            case measure => have := HJ.out; simp [intOf] <;> omega
            case rel => exact ⟨j + 1, q', d, e, HJ.out, by simp, S3⟩
        · by_cases h2 : 1 ≤ o.k
          · have h3 : o.k ≤ 9 := by omega
            have HK := hid (And.intro h2 h3)
            go_upto_region 15 with (first | (refine wpList_load_g rfl 33 _ rfl g9 rfl C3.out rfl under33 size33 ?_) | (go_at_call 7; refine (HAs.out X _ p r q' d e gs S3.out o HOk.out.1 HOk.out.2 HK.out.1 HK.out.2).mono ?_; rintro x w4 ⟨rfl, q4, d4, e4, h4⟩; have S4 := hid h4; clear h4))
            go_wp2_with fail
            go_roundw
            case measure => have := HJ.out; simp [intOf] <;> omega
            case rel => exact ⟨j + 1, q4, d4, e4, HJ.out, by simp, S4⟩
          · go_wp2_with fail
            go_roundw
            case measure => have := HJ.out; simp [intOf] <;> omega
            case rel => exact ⟨j + 1, q', d, e, HJ.out, by simp, S3⟩
      · have hjn : j = n := by omega
        subst hjn
        clear hlt hj
        go_wp2_with (go_at_call 8; refine (HSe.out _ p q' d e gs HS.out.ws HS.out.sim).mono ?_; rintro x w5 ⟨rfl, hb⟩; have HB5 := hid (below_on (HBl.out _ _ _ _ HS.out) hb); clear hb)
        go_ret
        exact ⟨rfl, HB5.out⟩
  · have HBe := hid (fun w => begins_no2 w s i hs)
    clear hs
    go_enter Tryz.func3, Tryz.ntmps3
    go_upto_region 1 with fail
    generalize W.alloc _ = X at *
    generalize hg2 : W.heap.size = g2 at B0 ⊢
    clear hg2
    go_upto_region 2 with (first | (refine wpList_load_g rfl 23 _ rfl g2 rfl B0.out rfl under23 size23 ?_) | (go_at_call 4; refine (HBe.out _).mono ?_; rintro x w1 ⟨rfl, hb⟩; have B1 := hid (below_on BB.out hb); clear hb))
    go_wp2_with (go_at_call 5; refine (HH.out _).mono ?_; rintro x w2 ⟨rfl, hb⟩; have B2 := hid (below_on B1.out hb); clear hb)
    go_ret
    exact ⟨rfl, B2.out⟩
end Go.Proofs.YtgbpbfnpeeciaaaGreat
