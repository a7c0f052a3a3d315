/- Load 11. -/
import Derived.Test.YtajkhkaidjjioaaDa
namespace Go.Proofs.Ytajkhkaidjjioaa
open Go.RowKit
set_option maxHeartbeats 2000000
set_option maxRecDepth 100000
/-- Words that are handed in. -/
structure WL (W : World) (ao : Option Addr) (n : Nat) (L : List Int) : Prop where
  len : L.length = n
  rg : ∀ x ∈ L, 0 ≤ x ∧ x < 4294967296
  at_ : 0 < n → ∃ g off, ao = some ⟨g, off, none⟩ ∧ W.rangeAt g off (u32s L) ∧ g < W.heap.size
theorem sizeD : (Try.prog.info? 92).map (·.size) = some 2 := by kernel_rfl
theorem load_nil (W : World) (v : Value) : Calls Try.prog 11 #[.pointer none, v] W fun e W' => e = .returned (.tuple #[.pointer none, .int .i64 110]) ∧ W = W' := by
  go_enter Try.func11, Try.ntmps11
  go_wp2_with fail
  go_ret2
  exact ⟨rfl, rfl⟩
structure LD (W w : World) (f : Fp) (m : MS) (g gw off n c : Nat) (L : List Int) : Prop where
  mem : Mem w f m
  dv : DV w g f.gm gw off n c L
  below : Below W.heap.size W w
theorem LD.on {W w w' : World} {f : Fp} {m : MS} {g gw off n c : Nat} {L : List Int} (h : LD W w f m g gw off n c L) (hb : Below w.heap.size w w') : LD W w' f m g gw off n c L := ⟨h.mem.on hb, h.dv.on hb, below_on h.below hb⟩
theorem load_any (W : World) (f : Fp) (m : MS) (hm : Mem W f m) (h64 : m.ns ≤ 64) (ao : Option Addr) (n c : Nat) (L : List Int) (h : WL W ao n L) :
    Calls Try.prog 11 #[ptr f.gm, .slice ao n c] W fun e W' => (ldok m.ns L = false ∧ e = .returned (.tuple #[.pointer none, .int .i64 110]) ∧ Below W.heap.size W W') ∨
      (ldok m.ns L = true ∧ ∃ g gw, e = .returned (.tuple #[ptr g, .int .i64 0]) ∧ DB W' ⟨g, gw, f⟩ (DS.load m L) ∧ W.heap.size ≤ g ∧ W.heap.size ≤ gw ∧ Below W.heap.size W W') := by
  have HS := hid (fun w (hw : Mem w f m) => size_any w f m hw)
  have HM := hid hm
  by_cases hn : n = 1 + 2 * m.ns
  · obtain ⟨gw, off, rfl, hrg, hlt⟩ := h.at_ (by omega)
    have y0 : W.cell? ⟨gw, off, none⟩ = some (.int .u32 (wd L 0)) := by
      have := hrg 0 (.int .u32 (wd L 0)) (by rw [u32s, List.getElem?_map, wd_at (by rw [h.len]; omega)]; rfl)
      exact this
    have n0 : (0 : Int) < (n : Int) := by omega
    have hni : (n : Int) = 1 + 2 * (m.ns : Int) := by omega
    by_cases hb : wd L 0 ≤ 64
    · have HDV := hid (fun (W1 : World) (g : Nat) (hb : Below W.heap.size W W1) (hc : Cel W1 g 92 [ptr f.gm, .slice (some ⟨gw, off, none⟩) n c]) => (⟨hm.on hb, ⟨hc, fun j v hv => by
        have := hrg j v hv
        unfold World.cell? at this ⊢
        rw [hb.block gw hlt]
        exact this, h.len, by have := hb.size; omega⟩, hb⟩ : LD W W1 f m g gw off n c L))
      have HSo := hid (fun w g (hw : LD W w f m g gw off n c L) (k : Nat) (hk : k < m.ns) => sound_any w f m hw.mem hw.dv h.rg k (by omega) (by omega))
      have HPg := hid (fun w g (hw : LD W w f m g gw off n c L) => pages_dv hw.mem hw.dv)
      have HWd := hid (fun w g (hw : LD W w f m g gw off n c L) => words_dv w hw.dv (by omega))
      have HR : Hid (L.length = 1 + 2 * m.ns ∧ wd L 0 ≤ 64 ∧ (∀ x ∈ L, 0 ≤ x ∧ x < 4294967296) ∧ n = 1 + 2 * m.ns ∧ m.ns ≤ 64) := hid ⟨h.len.trans hn, hb, h.rg, hn, h64⟩
      have HNI := hid hni
      clear hm h h64 hrg hlt hn
      simp only [ptr] at HS HPg HWd HSo HDV ⊢
      go_enter Try.func11, Try.ntmps11
      go_upto_region 4 with (first | (go_at_call 45; refine (HS.out _ HM.out).mono ?_; rintro e w1 ⟨rfl, hw1⟩; subst hw1; rw [← HNI.out]) | (refine wpList_store_st rfl 92 _ _ rfl W.heap.size [.pointer (some ⟨f.gm, 0, none⟩), .slice (some ⟨gw, off, none⟩) n c] rfl rfl (Cel.new W 92 [.pointer none, .slice none 0 0]) sizeD rfl rfl ?_; intro w2 hc hb hs; have HL := hid (HDV.out w2 _ ((below_one W (.cells #[.pointer none, .slice none 0 0] 92)).trans (hb.below (by simp) (by simp))) hc); clear hc hb hs))
      clear HS HM HDV y0
      have HG : Hid (W.heap.size ≤ W.heap.size) := hid (Nat.le_refl _)
      generalize hg : W.heap.size = g6 at HL ⊢
      have HG6 := hid hg
      clear hg
      go_upto_region 5 with (go_at_call 46; refine (HPg.out _ _ HL.out).mono ?_; rintro e w3 ⟨rfl, hw3⟩; subst hw3)
      go_loopw [27] (fun i wr => ∃ j : Nat, j ≤ m.ns ∧ i = .int .i64 (j : Int) ∧ Hid (LD W wr f m g6 gw off n c L ∧ ∀ k, k < j → ldS m.ns L k = true)) (fun i _ => m.ns - (intOf i).toNat)
      case atStart => exact ⟨0, Nat.zero_le _, rfl, hid ⟨HL.out, by intro k hk; omega⟩⟩
      case round =>
        obtain ⟨j, hj, rfl, HQ⟩ := hrel
        clear HL
        by_cases hlt : j < m.ns
        · have q1 : (j : Int) < (m.ns : Int) := by omega
          have q2 : (j : Int) ≤ 1000 := by have := HR.out.2.2.2.2; omega
          have HJ : Hid (j < m.ns) := hid hlt
          clear hlt hj
          have HSj := hid (HSo.out wr g6 HQ.out.1 j HJ.out)
          cases hs : ldS m.ns L j
          · rw [hs] at HSj
            have HN : Hid (ldok m.ns L = false) := hid (by
              cases hh : ldok m.ns L
              · rfl
              · have := ((ldok_iff _ _).1 hh).2.2 j HJ.out; rw [hs] at this; exact this.symm)
            clear hs
            go_wp2_with (go_at_call 47; refine HSj.out.mono ?_; rintro e w5 ⟨rfl, hb⟩; have HQ2 := hid (HQ.out.1.on hb); clear hb)
            go_ret2
            exact .inl ⟨HN.out, rfl, HQ2.out.below⟩
          · rw [hs] at HSj
            have HS1 := hid hs
            clear hs
            go_wp2_with (go_at_call 47; refine HSj.out.mono ?_; rintro e w5 ⟨rfl, hb⟩; have HQ2 := hid (HQ.out.1.on hb); clear hb)
            go_roundw
            case measure => have := HJ.out; simp [intOf] <;> omega
            case rel => exact ⟨j + 1, HJ.out, by simp, hid ⟨HQ2.out, fun k hk => by
              by_cases e : k = j
              · rw [e]; exact HS1.out
              · exact HQ.out.2 k (by omega)⟩⟩
        · have hjn : j = m.ns := by omega
          subst hjn
          clear hlt hj
          have HOk : Hid (ldok m.ns L = true) := hid ((ldok_iff _ _).2 ⟨HR.out.1, HR.out.2.1, HQ.out.2⟩)
          go_wp2_with (go_at_call 9; refine (HWd.out _ _ HQ.out.1).mono ?_; rintro e w5 ⟨gn, rfl, hc, hl, hb⟩; have HE := hid (And.intro hc (And.intro hl hb)); have HQ2 := hid (HQ.out.1.on hb); clear hc hl hb)
          go_ret2
          refine .inr ⟨HOk.out, w5.heap.size, gn, rfl, ⟨HQ2.out.mem.on (below_one _ _), ?_, ?_, load_ok HOk.out HR.out.2.2.2.2 HR.out.2.2.1⟩, HQ2.out.below.size, Nat.le_trans HQ.out.1.below.size HE.out.2.1, below_on HQ2.out.below (below_one _ _)⟩
          · show Cel _ w5.heap.size 92 [.pointer (some ⟨f.gm, 0, none⟩), .slice (some ⟨gn, 0, none⟩) (1 + 2 * m.ns) (1 + 2 * m.ns)]
            rw [← HR.out.2.2.2.1]
            exact Cel.new w5 92 _
          · rw [load_ws HOk.out]
            exact HE.out.1.on (below_one _ _)
    · have hb' : (64 : Int) < wd L 0 := by omega
      have HN : Hid (ldok m.ns L = false) := hid (by
        cases hh : ldok m.ns L
        · rfl
        · exact absurd ((ldok_iff _ _).1 hh).2.1 hb)
      have HNI := hid hni
      clear hm h h64 hrg hlt hn hb
      simp only [ptr] at HS ⊢
      go_enter Try.func11, Try.ntmps11
      go_wp2_with (go_at_call 45; refine (HS.out _ HM.out).mono ?_; rintro e w1 ⟨rfl, hw1⟩; subst hw1; rw [← HNI.out])
      go_ret2
      exact .inl ⟨HN.out, rfl, Below.refl _ _⟩
  · have HN : Hid (ldok m.ns L = false) := hid (by
      cases hh : ldok m.ns L
      · rfl
      · exact absurd (h.len.symm.trans ((ldok_iff _ _).1 hh).1) hn)
    have hni : ((n : Int) != 1 + 2 * (m.ns : Int)) = true := by
      rw [bne_iff_ne]; omega
    clear hm h h64 hn
    simp only [ptr] at HS ⊢
    go_enter Try.func11, Try.ntmps11
    go_wp2_with (go_at_call 45; refine (HS.out _ HM.out).mono ?_; rintro e w1 ⟨rfl, hw1⟩; subst hw1)
    go_ret2
    exact .inl ⟨HN.out, rfl, Below.refl _ _⟩
end Go.Proofs.Ytajkhkaidjjioaa
