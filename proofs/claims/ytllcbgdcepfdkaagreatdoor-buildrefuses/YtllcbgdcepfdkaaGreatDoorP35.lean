import Derived.Test.YtllcbgdcepfdkaaGreatDoorP34
import Derived.Test.YtllcbgdcepfdkaaGreatDoorP26
import Derived.Test.YtllcbgdcepfdkaaGreatDoorP18
namespace Go.Proofs.YtllcbgdcepfdkaaGreatDoor
open Go.RowKit
set_option maxHeartbeats 2000000
set_option maxRecDepth 100000
/-- Words that are handed in. -/
structure WL (W : World) (ao : Option Addr) (n : Nat) (L : List Int) : Prop where
  len : L.length = n
  rg : ∀ x ∈ L, 0 ≤ x ∧ x < 4294967296
  at_ : 0 < n → ∃ g off, ao = some ⟨g, off, none⟩ ∧ W.rangeAt g off (u32s L) ∧ g < W.heap.size
theorem sizeD : (Tryz.prog.info? 91).map (·.size) = some 2 := by kernel_rfl
structure LD (W w : World) (f : Fp) (m : MS) (g gw off n c : Nat) (L : List Int) : Prop where
  mem : Mem w f m
  dv : DV w g f.gm gw off n c L
  below : Below W.heap.size W w
theorem LD.on {W w w' : World} {f : Fp} {m : MS} {g gw off n c : Nat} {L : List Int} (h : LD W w f m g gw off n c L) (hb : Below w.heap.size w w') : LD W w' f m g gw off n c L := ⟨h.mem.on hb, h.dv.on hb, below_on h.below hb⟩
theorem load_any (W : World) (f : Fp) (m : MS) (hm : Mem W f m) (h64 : m.ns ≤ 64) (ao : Option Addr) (n c : Nat) (L : List Int) (h : WL W ao n L) :
    Calls Tryz.prog 36 #[ptr f.gm, .slice ao n c] W fun e W' => (ldok m.ns L = false ∧ e = .returned (.tuple #[.pointer none, .int .i64 110]) ∧ Below W.heap.size W W') ∨
      (ldok m.ns L = true ∧ ∃ g gw, e = .returned (.tuple #[ptr g, .int .i64 0]) ∧ DB W' ⟨g, gw, f⟩ (DS.load m L) ∧ W.heap.size ≤ g ∧ W.heap.size ≤ gw ∧ Below W.heap.size W W') := by
  have HS := hid (fun w (hw : Mem w f m) => size_any w f m hw)
  have HM := hid hm
  by_cases hn : n = 1 + 2 * m.ns
  · obtain ⟨gw, off, rfl, hrg, hlt⟩ := h.at_ (by omega)
    have y0 : W.cell? ⟨gw, off, none⟩ = some (.int .u32 (wd L 0)) := by
      have := hrg 0 (.int .u32 (wd L 0)) (by rw [u32s, List.getElem?_map, wd_at (by rw [h.len]; omega)]; rfl)
      exact this
    have n0 : (0 : Int) < (n : Int) := by omega
    have hni : (n : Int) = 1 + 2 * (m.ns : Int) := by omega
    by_cases hb : wd L 0 ≤ 64
    · have HDV := hid (fun (W1 : World) (g : Nat) (hb : Below W.heap.size W W1) (hc : Cel W1 g 91 [ptr f.gm, .slice (some ⟨gw, off, none⟩) n c]) => (⟨hm.on hb, ⟨hc, fun j v hv => by
        have := hrg j v hv
        unfold World.cell? at this ⊢
        rw [hb.block gw hlt]
        exact this, h.len, by have := hb.size; omega⟩, hb⟩ : LD W W1 f m g gw off n c L))
      have HSo := hid (fun w g (hw : LD W w f m g gw off n c L) (k : Nat) (hk : k < m.ns) => sound_any w f m hw.mem hw.dv h.rg k (by omega) (by omega))
      have HPg := hid (fun w g (hw : LD W w f m g gw off n c L) => pages_dv hw.mem hw.dv)
      have HWd := hid (fun w g (hw : LD W w f m g gw off n c L) => words_dv w hw.dv (by omega))
      have HR : Hid (L.length = 1 + 2 * m.ns ∧ wd L 0 ≤ 64 ∧ (∀ x ∈ L, 0 ≤ x ∧ x < 4294967296) ∧ n = 1 + 2 * m.ns ∧ m.ns ≤ 64) := hid ⟨h.len.trans hn, hb, h.rg, hn, h64⟩
      have HNI := hid hni
      clear hm h h64 hrg hlt hn
      simp only [ptr] at HS HPg HWd HSo HDV ⊢
      go_enter Tryz.func36, Tryz.ntmps36
      go_upto_region 4 with (first | (go_at_call 76; refine (HS.out _ HM.out).mono ?_; rintro e w1 ⟨rfl, hw1⟩; subst hw1; rw [← HNI.out]) | (refine wpList_store_st rfl 91 _ _ rfl W.heap.size [.pointer (some ⟨f.gm, 0, none⟩), .slice (some ⟨gw, off, none⟩) n c] rfl rfl (Cel.new W 91 [.pointer none, .slice none 0 0]) sizeD rfl rfl ?_; intro w2 hc hb hs; have HL := hid (HDV.out w2 _ ((below_one W (.cells #[.pointer none, .slice none 0 0] 91)).trans (hb.below (by simp) (by simp))) hc); clear hc hb hs))
      clear HS HM HDV y0
      have HG : Hid (W.heap.size ≤ W.heap.size) := hid (Nat.le_refl _)
      generalize hg : W.heap.size = g6 at HL ⊢
      have HG6 := hid hg
      clear hg
      go_upto_region 5 with (go_at_call 39; refine (HPg.out _ _ HL.out).mono ?_; rintro e w3 ⟨rfl, hw3⟩; subst hw3)
      go_loopw [27] (fun i wr => ∃ j : Nat, j ≤ m.ns ∧ i = .int .i64 (j : Int) ∧ Hid (LD W wr f m g6 gw off n c L ∧ ∀ k, k < j → ldS m.ns L k = true)) (fun i _ => m.ns - (intOf i).toNat)
      case atStart => exact ⟨0, Nat.zero_le _, rfl, hid ⟨HL.out, by intro k hk; omega⟩⟩
      case round =>
        obtain ⟨j, hj, rfl, HQ⟩ := hrel
        clear HL
        by_cases hlt : j < m.ns
        · have q1 : (j : Int) < (m.ns : Int) := by omega
          have q2 : (j : Int) ≤ 1000 := by have := HR.out.2.2.2.2; omega
          have HJ : Hid (j < m.ns) := hid hlt
          clear hlt hj
          have HSj := hid (HSo.out wr g6 HQ.out.1 j HJ.out)
          cases hs : ldS m.ns L j
          · rw [hs] at HSj
            have HN : Hid (ldok m.ns L = false) := hid (by
              cases hh : ldok m.ns L
              · rfl
              · have := ((ldok_iff _ _).1 hh).2.2 j HJ.out; rw [hs] at this; exact this.symm)
            clear hs
            go_wp2_with (go_at_call 88; refine HSj.out.mono ?_; rintro e w5 ⟨rfl, hb⟩; have HQ2 := hid (HQ.out.1.on hb); clear hb)
            go_ret2
            exact .inl ⟨HN.out, rfl, HQ2.out.below⟩
          · rw [hs] at HSj
            have HS1 := hid hs
            clear hs
            go_wp2_with (go_at_call 88; refine HSj.out.mono ?_; rintro e w5 ⟨rfl, hb⟩; have HQ2 := hid (HQ.out.1.on hb); clear hb)
            go_roundw
            case measure => have := HJ.out; simp [intOf] <;> omega
            case rel => exact ⟨j + 1, HJ.out, by simp, hid ⟨HQ2.out, fun k hk => by
              by_cases e : k = j
              · rw [e]; exact HS1.out
              · exact HQ.out.2 k (by omega)⟩⟩
        · have hjn : j = m.ns := by omega
          subst hjn
          clear hlt hj
          have HOk : Hid (ldok m.ns L = true) := hid ((ldok_iff _ _).2 ⟨HR.out.1, HR.out.2.1, HQ.out.2⟩)
          go_wp2_with (go_at_call 38; refine (HWd.out _ _ HQ.out.1).mono ?_; rintro e w5 ⟨gn, rfl, hc, hl, hb⟩; have HE := hid (And.intro hc (And.intro hl hb)); have HQ2 := hid (HQ.out.1.on hb); clear hc hl hb)
          go_ret2
          refine .inr ⟨HOk.out, w5.heap.size, gn, rfl, ⟨HQ2.out.mem.on (below_one _ _), ?_, ?_, load_ok HOk.out HR.out.2.2.2.2 HR.out.2.2.1⟩, HQ2.out.below.size, Nat.le_trans HQ.out.1.below.size HE.out.2.1, below_on HQ2.out.below (below_one _ _)⟩
          · show Cel _ w5.heap.size 91 [.pointer (some ⟨f.gm, 0, none⟩), .slice (some ⟨gn, 0, none⟩) (1 + 2 * m.ns) (1 + 2 * m.ns)]
            rw [← HR.out.2.2.2.1]
            exact Cel.new w5 91 _
          · rw [load_ws HOk.out]
            exact HE.out.1.on (below_one _ _)
    · have hb' : (64 : Int) < wd L 0 := by omega
      have HN : Hid (ldok m.ns L = false) := hid (by
        cases hh : ldok m.ns L
        · rfl
        · exact absurd ((ldok_iff _ _).1 hh).2.1 hb)
      have HNI := hid hni
      clear hm h h64 hrg hlt hn hb
      simp only [ptr] at HS ⊢
      go_enter Tryz.func36, Tryz.ntmps36
      go_wp2_with (go_at_call 76; refine (HS.out _ HM.out).mono ?_; rintro e w1 ⟨rfl, hw1⟩; subst hw1; rw [← HNI.out])
      go_ret2
      exact .inl ⟨HN.out, rfl, Below.refl _ _⟩
  · have HN : Hid (ldok m.ns L = false) := hid (by
      cases hh : ldok m.ns L
      · rfl
      · exact absurd (h.len.symm.trans ((ldok_iff _ _).1 hh).1) hn)
    have hni : ((n : Int) != 1 + 2 * (m.ns : Int)) = true := by
      rw [bne_iff_ne]; omega
    clear hm h h64 hn
    simp only [ptr] at HS ⊢
    go_enter Tryz.func36, Tryz.ntmps36
    go_wp2_with (go_at_call 76; refine (HS.out _ HM.out).mono ?_; rintro e w1 ⟨rfl, hw1⟩; subst hw1)
    go_ret2
    exact .inl ⟨HN.out, rfl, Below.refl _ _⟩
end Go.Proofs.YtllcbgdcepfdkaaGreatDoor
namespace Go.Proofs.YtllcbgdcepfdkaaGreatDoor
open Go.RowKit
set_option maxRecDepth 100000
set_option maxHeartbeats 4000000
/-- A check that gave up with a code. -/
def pn (c : Int) : List PanicEntry := [{ v := .iface 77 (.int .u32 c), recovered := false }]
theorem insist_yes (W : World) (c : Int) : Calls Tryz.prog 152 #[.bool true, .int .u32 c] W fun e W' => e = .returned (.tuple #[]) ∧ W' = W := by
  go_enter Tryz.func152, Tryz.ntmps152
  go_wp2
  go_returns
  exact ⟨rfl, rfl⟩
theorem insist_no (W : World) (c : Int) : Calls Tryz.prog 152 #[.bool false, .int .u32 c] W fun e W' => e = .panicked (pn c) ∧ W' = W := by
  go_enter Tryz.func152, Tryz.ntmps152
  go_wp2
  exact ⟨rfl, rfl, rfl⟩
def inE (b : Bool) (c : Int) : Ending := if b then .returned (.tuple #[]) else .panicked (pn c)
theorem codeOf_any (W : World) (c : Int) : Calls Tryz.prog 79 #[.iface 77 (.int .u32 c)] W fun e W' => e = .returned (.int .u32 c) ∧ W' = W := by
  have ht : ∀ w, (Instr.typeAssert (.iface 77 (.int .u32 c)) 20 77 false).run Tryz.prog w = .ok (.int .u32 c) w := fun w => by kernel_rfl
  go_enter Tryz.func79, Tryz.ntmps79
  go_wp2
  go_ret
  exact ⟨rfl, rfl⟩
theorem secureP_yes (W : World) (p : Dp) (d : DS) (h : DB W p d) (w : Int) (w0 : 0 ≤ w) (hw : w < (d.m.ns : Int)) :
    Calls Tryz.prog 151 #[ptr p.g, .int .u32 w] W fun e W' => e = .returned (.int .i64 w) ∧ W' = W := by
  have HP := hid (pages_any W p d h)
  have hn := h.ok.n64
  have n1 : (d.m.ns : Int) ≤ 64 := by omega
  have n0 : 0 ≤ (d.m.ns : Int) := by omega
  generalize (d.m.ns : Int) = n at *
  have hc : IntKind.wrap .u32 n = n := by rw [IntKind.wrap_u32]; omega
  have HI := hid (insist_yes W 1)
  clear h hn
  go_enter Tryz.func151, Tryz.ntmps151
  go_wp2_with (first | (go_at_call 39; refine HP.out.mono ?_; rintro e w1 ⟨rfl, rfl⟩) | (go_at_call 152; refine HI.out.mono ?_; rintro e w1 ⟨rfl, rfl⟩))
  go_ret
  exact ⟨rfl, rfl⟩
theorem secureP_no (W : World) (p : Dp) (d : DS) (h : DB W p d) (w : Int) (hw : (d.m.ns : Int) ≤ w) :
    Calls Tryz.prog 151 #[ptr p.g, .int .u32 w] W fun e W' => e = .panicked (pn 1) ∧ W' = W := by
  have HP := hid (pages_any W p d h)
  have hn := h.ok.n64
  have n1 : (d.m.ns : Int) ≤ 64 := by omega
  have n0 : 0 ≤ (d.m.ns : Int) := by omega
  generalize (d.m.ns : Int) = n at *
  have hc : IntKind.wrap .u32 n = n := by rw [IntKind.wrap_u32]; omega
  have HI : Hid (Calls Tryz.prog 152 #[.bool (decide (w < n)), .int .u32 1] W fun e W' => e = .panicked (pn 1) ∧ W' = W) := hid (by rw [decide_eq_false (by omega)]; exact insist_no W 1)
  clear h hn hw
  go_enter Tryz.func151, Tryz.ntmps151
  go_wp2_with (first | (go_at_call 39; refine HP.out.mono ?_; rintro e w1 ⟨rfl, rfl⟩) | (go_at_call 152; refine HI.out.mono ?_; rintro e w1 ⟨rfl, rfl⟩))
  exact ⟨rfl, rfl, rfl⟩
theorem sframe_any (W : World) (q : Int) : Calls Tryz.prog 158 #[.int .i64 q] W fun x W' => x = .returned (fr true q) ∧ Below W.heap.size W W' := by
  unfold fr
  go_enter Tryz.func158, Tryz.ntmps158
  go_wp2_with fail
  go_returns
  exact ⟨rfl, below_one _ _⟩
end Go.Proofs.YtllcbgdcepfdkaaGreatDoor
namespace Go.Proofs.YtllcbgdcepfdkaaGreatDoor
open Go.RowKit
set_option maxRecDepth 100000
set_option maxHeartbeats 4000000
theorem bag_of {W w : World} (h : Below W.heap.size W w) : Bag W w [] := ⟨fun _ hp => (by cases hp), h⟩
theorem isFree_any (W : World) (p : Dp) (d : DS) (h : DB W p d) (q : Int) :
    Calls Tryz.prog 153 #[ptr p.g, .int .i64 q] W fun e W' => e = inE (decide ((d.ent q).t = 0)) 2 ∧ Below W.heap.size W W' := by
  have HE := hid (entry_any W p d h q)
  clear h
  generalize d.ent q = D at *
  generalize d.entE q = DE at *
  simp only [ptr, En.v] at *
  by_cases e1 : D.t = 0
  · rw [decide_eq_true e1]
    go_enter Tryz.func153, Tryz.ntmps153
    go_upto_region 1 with (first | (go_at_call 12; refine HE.out.mono ?_; rintro x w2 ⟨rfl, hb⟩; have B1 := hid hb; clear hb) | (refine wpList_store_st rfl 38 _ _ rfl w2.heap.size D.cs rfl rfl (Cel.new w2 38 En.zero.cs) sizeE rfl rfl ?_; intro w3 hc hb hs; have B2 := hid ((bag_of B1.out).add hc hb); clear hc hb hs))
    generalize w2.heap.size = g7 at *
    have d0 := (B2.out.get 0 rfl).cell 0
    simp only [En.cs, List.getElem?_cons_zero] at d0
    go_wp2_with (first | (go_at_call 152; refine (insist_yes _ 2).mono ?_; rintro e w4 ⟨rfl, rfl⟩))
    go_returns
    exact ⟨rfl, B2.out.below⟩
  · rw [decide_eq_false e1]
    have e2 : (D.t == 0) = false := by simpa using e1
    go_enter Tryz.func153, Tryz.ntmps153
    go_upto_region 1 with (first | (go_at_call 12; refine HE.out.mono ?_; rintro x w2 ⟨rfl, hb⟩; have B1 := hid hb; clear hb) | (refine wpList_store_st rfl 38 _ _ rfl w2.heap.size D.cs rfl rfl (Cel.new w2 38 En.zero.cs) sizeE rfl rfl ?_; intro w3 hc hb hs; have B2 := hid ((bag_of B1.out).add hc hb); clear hc hb hs))
    generalize w2.heap.size = g7 at *
    have d0 := (B2.out.get 0 rfl).cell 0
    simp only [En.cs, List.getElem?_cons_zero] at d0
    go_wp2_with (first | (go_at_call 152; refine (insist_no _ 2).mono ?_; rintro e w4 ⟨rfl, rfl⟩))
    exact ⟨rfl, rfl, B2.out.below⟩
theorem below_put {W w w2 : World} {g : Nat} (h : Below W.heap.size W w) (hg : W.heap.size ≤ g) (hb : ButL [g] w w2) : Below W.heap.size W w2 := h.trans (hb.below (by simpa using hg) h.size)
/-- A space that is being built, as a value. -/
def stC (p : Dp) (s : Int) : List Value := [.pointer (some ⟨p.g, 0, none⟩), .int .i64 s]
def stV (p : Dp) (s : Int) : Value := .agg (stC p s).toArray
theorem size148 : (Tryz.prog.info? 148).map (·.size) = some 2 := by kernel_rfl
theorem under148 : Tryz.prog.underlying 148 = some (.struct (Tryz.prog.fieldsOf 148)) := by kernel_rfl
theorem built148 (p : Dp) (s : Int) : Tryz.prog.built 148 [(0, .pointer (some ⟨p.g, 0, none⟩)), (1, .int .i64 s)] = some #[.pointer (some ⟨p.g, 0, none⟩), .int .i64 s] := by kernel_rfl
/-- The code of a word that should name a space whose building hasn't ended. -/
def DS.opE (d : DS) (w : Int) : Int := if (d.m.ns : Int) ≤ w then 1 else if (d.ent w).t ≠ 1 then 3 else if (d.ent w).s ≠ 1 then 4 else 0
theorem open_any (W : World) (p : Dp) (d : DS) (h : DB W p d) (w : Int) (w0 : 0 ≤ w) :
    Calls Tryz.prog 82 #[ptr p.g, .int .u32 w] W fun e W' => e = (if d.opE w = 0 then .returned (stV p w) else .panicked (pn (d.opE w))) ∧ Below W.heap.size W W' := by
  have hO : d.opE w = if (d.m.ns : Int) ≤ w then 1 else if (d.ent w).t ≠ 1 then 3 else if (d.ent w).s ≠ 1 then 4 else 0 := rfl
  have B0 := hid (bag_one W 148 [.pointer none, .int .i64 0])
  have HD := hid (h.on (below_one W (.cells #[.pointer none, .int .i64 0] 148)))
  by_cases hw : (d.m.ns : Int) ≤ w
  · have HS := hid (secureP_no _ p d HD.out w hw)
    rw [hO, if_pos hw, if_neg (by decide)]
    clear h hO
    simp only [ptr] at *
    go_enter Tryz.func82, Tryz.ntmps82
    go_wp2_with (first | (go_at_call 151; refine HS.out.mono ?_; rintro e w2 ⟨rfl, rfl⟩))
    exact ⟨rfl, rfl, B0.out.below⟩
  have HS := hid (secureP_yes _ p d HD.out w w0 (by omega))
  have HE := hid (entry_any _ p d HD.out w)
  rw [hO, if_neg hw]
  clear h hO hw w0
  generalize d.ent w = D at *
  generalize d.entE w = DE at *
  simp only [ptr, En.v] at *
  by_cases e1 : D.t = 1
  rotate_left
  · rw [if_pos e1, if_neg (by decide)]
    have e3 : (D.t == 1) = false := by simpa using e1
    go_enter Tryz.func82, Tryz.ntmps82
    go_upto_region 1 with fail
    generalize W.alloc _ = X at *
    generalize hg : W.heap.size = g4 at B0 ⊢
    have HG := hid hg
    clear hg
    go_upto_region 3 with (first | (go_at_call 151; refine HS.out.mono ?_; rintro e w1 ⟨rfl, rfl⟩) | (go_at_call 12; refine HE.out.mono ?_; rintro x w2 ⟨rfl, hb⟩; have B1 := hid (B0.out.on hb); clear hb) | (refine wpList_store_st rfl 38 _ _ rfl w2.heap.size D.cs rfl rfl (Cel.new w2 38 En.zero.cs) sizeE rfl rfl ?_; intro w3 hc hb hs; have B2 := hid (B1.out.add hc hb); have HN : Hid (w2.heap.size ≠ g4) := hid (fun e => by have := (B1.out.get 0 rfl).lt; omega); clear hc hb hs))
    generalize w2.heap.size = g6 at *
    have d0 := (B2.out.get 0 rfl).cell 0
    have d3 := (B2.out.get 0 rfl).cell 3
    simp only [En.cs, List.getElem?_cons_zero, List.getElem?_cons_succ] at d0 d3
    go_wp2_with (first | (go_at_call 152; refine (insist_no _ 3).mono ?_; rintro e w4 ⟨rfl, rfl⟩))
    exact ⟨rfl, rfl, B2.out.below⟩
  rw [if_neg (show ¬ D.t ≠ 1 from fun h => h e1)]
  by_cases e2 : D.s = 1
  · rw [if_neg (show ¬ D.s ≠ 1 from fun h => h e2), if_pos rfl]
    unfold stV stC
    go_enter Tryz.func82, Tryz.ntmps82
    go_upto_region 1 with fail
    generalize W.alloc _ = X at *
    generalize hg : W.heap.size = g4 at B0 ⊢
    have HG := hid hg
    clear hg
    go_upto_region 3 with (first | (go_at_call 151; refine HS.out.mono ?_; rintro e w1 ⟨rfl, rfl⟩) | (go_at_call 12; refine HE.out.mono ?_; rintro x w2 ⟨rfl, hb⟩; have B1 := hid (B0.out.on hb); clear hb) | (refine wpList_store_st rfl 38 _ _ rfl w2.heap.size D.cs rfl rfl (Cel.new w2 38 En.zero.cs) sizeE rfl rfl ?_; intro w3 hc hb hs; have B2 := hid (B1.out.add hc hb); have HN : Hid (w2.heap.size ≠ g4) := hid (fun e => by have := (B1.out.get 0 rfl).lt; omega); clear hc hb hs))
    generalize w2.heap.size = g6 at *
    have d0 := (B2.out.get 0 rfl).cell 0
    have d3 := (B2.out.get 0 rfl).cell 3
    simp only [En.cs, List.getElem?_cons_zero, List.getElem?_cons_succ] at d0 d3
    go_wp2_with (first | (go_at_call 152; refine (insist_yes _ _).mono ?_; rintro e w4 ⟨rfl, rfl⟩) | (refine wpList_build_f rfl 148 _ rfl _ rfl _ (built148 p w) ?_) | (refine wpList_store_st rfl 148 _ _ rfl g4 [.pointer (some ⟨p.g, 0, none⟩), .int .i64 w] rfl rfl (B2.out.get 1 rfl) size148 rfl rfl ?_; intro w5 hc hb hs; have HC := hid hc; have BB := hid (below_put B2.out.below (by have := HG.out; omega) hb); clear hc hb hs))
    exact ret_st rfl rfl g4 _ rfl HC.out under148 rfl size148 ⟨rfl, BB.out⟩
  · rw [if_pos e2, if_neg (by decide)]
    have e3 : (D.s == 1) = false := by simpa using e2
    go_enter Tryz.func82, Tryz.ntmps82
    go_upto_region 1 with fail
    generalize W.alloc _ = X at *
    generalize hg : W.heap.size = g4 at B0 ⊢
    have HG := hid hg
    clear hg
    go_upto_region 3 with (first | (go_at_call 151; refine HS.out.mono ?_; rintro e w1 ⟨rfl, rfl⟩) | (go_at_call 12; refine HE.out.mono ?_; rintro x w2 ⟨rfl, hb⟩; have B1 := hid (B0.out.on hb); clear hb) | (refine wpList_store_st rfl 38 _ _ rfl w2.heap.size D.cs rfl rfl (Cel.new w2 38 En.zero.cs) sizeE rfl rfl ?_; intro w3 hc hb hs; have B2 := hid (B1.out.add hc hb); have HN : Hid (w2.heap.size ≠ g4) := hid (fun e => by have := (B1.out.get 0 rfl).lt; omega); clear hc hb hs))
    generalize w2.heap.size = g6 at *
    have d0 := (B2.out.get 0 rfl).cell 0
    have d3 := (B2.out.get 0 rfl).cell 3
    simp only [En.cs, List.getElem?_cons_zero, List.getElem?_cons_succ] at d0 d3
    go_wp2_with (first | (go_at_call 152; first | (refine (insist_yes _ 3).mono ?_; rintro e w4 ⟨rfl, rfl⟩) | (refine (insist_no _ 4).mono ?_; rintro e w4 ⟨rfl, rfl⟩)))
    exact ⟨rfl, rfl, B2.out.below⟩
end Go.Proofs.YtllcbgdcepfdkaaGreatDoor
namespace Go.Proofs.YtllcbgdcepfdkaaGreatDoor
open Go.RowKit
set_option maxRecDepth 100000
set_option maxHeartbeats 4000000
/-- Alike but for the meter. -/
structure DS.Sim (d d' : DS) : Prop where
  E : d'.E = d.E
  b : d'.b = d.b
  ns : d'.m.ns = d.m.ns
  P : d'.m.P = d.m.P
theorem DS.Sim.refl (d : DS) : DS.Sim d d := ⟨rfl, rfl, rfl, rfl⟩
theorem DS.Sim.symm {d e : DS} (h : DS.Sim d e) : DS.Sim e d := ⟨h.E.symm, h.b.symm, h.ns.symm, h.P.symm⟩
theorem DS.Sim.trans {d e f : DS} (h : DS.Sim d e) (k : DS.Sim e f) : DS.Sim d f := ⟨k.E.trans h.E, k.b.trans h.b, k.ns.trans h.ns, k.P.trans h.P⟩
theorem DS.Sim.at {d e : DS} (h : DS.Sim d e) (k : Nat) : e.at k = d.at k := by unfold DS.at; rw [h.E]
theorem DS.Sim.there {d e : DS} (h : DS.Sim d e) (q : Int) : e.there q = d.there q := by unfold DS.there; rw [h.ns]
theorem DS.Sim.ent {d e : DS} (h : DS.Sim d e) (q : Int) : e.ent q = d.ent q := by unfold DS.ent; rw [h.there, h.at]
theorem DS.Sim.entE {d e : DS} (h : DS.Sim d e) (q : Int) : e.entE q = d.entE q := by unfold DS.entE; rw [h.there]
theorem DS.Sim.mat {d e : DS} (h : DS.Sim d e) (s : Bool) (q : Int) : e.m.at s q = d.m.at s q := by unfold MS.at; rw [h.ns, h.P]
theorem DS.Sim.p {d e : DS} (h : DS.Sim d e) (k : Nat) : e.m.p k = d.m.p k := by unfold MS.p; rw [h.P]
theorem DS.Sim.word {d e : DS} (h : DS.Sim d e) (s : Bool) (q o : Int) : e.m.word s q o = d.m.word s q o := by unfold MS.word; simp only [h.mat, h.p]
theorem DS.Sim.err {d e : DS} (h : DS.Sim d e) (s : Bool) (q o : Int) : e.m.err s q o = d.m.err s q o := by unfold MS.err; rw [h.mat]
theorem DS.Sim.U {d e : DS} (h : DS.Sim d e) (k : d.m.U) : e.m.U := fun i j => by rw [h.p]; exact k i j
theorem DS.Sim.ws {d e : DS} (h : DS.Sim d e) : e.ws = d.ws := by unfold DS.ws; rw [h.E, h.b]
theorem DS.Sim.same {d e : DS} (h : DS.Sim d e) : d.m.same e.m = true := by unfold MS.same; rw [h.ns, h.P]; simp
theorem DS.Sim.read (d : DS) (s : Bool) (q o : Int) : DS.Sim d { d with m := d.m.read s q o } := by
  rw [MS.read_eq]
  split
  · exact ⟨rfl, rfl, rfl, rfl⟩
  · exact .refl d
theorem DS.Sim.ok {d e : DS} (h : DS.Sim d e) (k : d.Ok) : e.Ok := ⟨by rw [h.E, h.ns]; exact k.len, by rw [h.ns]; exact k.n64, fun i hi => by rw [h.at]; exact k.ok i (by rw [← h.ns]; exact hi), fun i hi => by rw [h.at, h.ns]; exact k.own i (by rw [← h.ns]; exact hi), by rw [h.b]; exact k.b0, by rw [h.b]; exact k.b1⟩
theorem DS.Sim.opE {d e : DS} (h : DS.Sim d e) (w : Int) : e.opE w = d.opE w := by unfold DS.opE; rw [h.ns, h.ent]
/-- What stays of the program's own tables. -/
structure Gl (W : World) (p : Dp) : Prop where
  tab : H.Tab W
  sz : 1 < W.heap.size
  off : ∀ k ∈ p.all, 2 ≤ k
theorem Gl.step {W w : World} {p : Dp} {G : List Nat} (h : Gl W p) (hb : ButL G W w) (hG : ∀ k ∈ G, k ∈ p.all) : Gl w p :=
  ⟨h.tab.below (hb.below (B := 2) (fun k hk => h.off k (hG k hk)) h.sz) (by decide), by have := hb.size; have := h.sz; omega, h.off⟩
theorem Gl.on {W w : World} {p : Dp} (h : Gl W p) (hb : Below W.heap.size W w) : Gl w p := h.step (G := []) (.of hb) (by simp)
/-- The words of a space's running digest. -/
def DS.st (d : DS) (s : Int) : List Int := (List.range 26).map fun (i : Nat) => d.m.word true s (11 + (i : Int))
theorem DS.st_length (d : DS) (s : Int) : (d.st s).length = 26 := by simp [DS.st]
theorem DS.st_get (d : DS) (s : Int) (i : Nat) (h : i < 26) : (d.st s)[i]? = some (d.m.word true s (11 + (i : Int))) := by simp [DS.st, h]
theorem DS.st_wds {d : DS} (h : d.m.U) (s : Int) : H.Wds (d.st s) := fun i => by
  by_cases hi : i < 26
  · rw [List.getD_eq_getElem?_getD, d.st_get s i hi]; exact h.word _ _ _
  · rw [List.getD_eq_getElem?_getD, List.getElem?_eq_none (by rw [d.st_length]; omega)]; decide
theorem DS.Sim.st {d e : DS} (h : DS.Sim d e) (s : Int) : e.st s = d.st s := by unfold DS.st; simp only [h.word]
/-- The first j words are read. -/
def mix (A B : List Int) (j : Nat) : List Int := A.take j ++ B.drop j
theorem mix_zero (A B : List Int) : mix A B 0 = B := rfl
theorem mix_all (A B : List Int) (h : A.length = B.length) : mix A B A.length = A := by unfold mix; rw [List.take_length, List.drop_of_length_le (by omega), List.append_nil]
theorem mix_set (A B : List Int) (j : Nat) (x : Int) (hA : j < A.length) (h : A.length = B.length) (hx : A[j]? = some x) : (u32s (mix A B j)).set j (.int .u32 x) = u32s (mix A B (j + 1)) := by
  have h1 : (A.take j).length = j := by rw [List.length_take]; omega
  have hB : j < B.length := by omega
  rw [u32s_set]
  congr 1
  unfold mix
  rw [List.set_append_right _ _ (by omega), h1, Nat.sub_self, List.drop_eq_getElem_cons hB, List.set_cons_zero, List.take_add_one, hx]
  simp
theorem mix_cell {w : World} {g : Nat} {t : TypeId} {A B : List Int} {j : Nat} (h : Cel w g t (u32s (mix A B j))) (hA : j < A.length) (hl : A.length = B.length) : ∃ y, w.cell? ⟨g, j, none⟩ = some (.int .u32 y) := by
  have h1 : (mix A B j).length = A.length := by unfold mix; rw [List.length_append, List.length_take, List.length_drop]; omega
  refine ⟨(mix A B j)[j]'(by omega), ?_⟩
  rw [h.cell]
  simp [u32s]
end Go.Proofs.YtllcbgdcepfdkaaGreatDoor
