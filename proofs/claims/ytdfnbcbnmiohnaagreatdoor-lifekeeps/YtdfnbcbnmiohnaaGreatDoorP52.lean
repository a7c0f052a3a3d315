import Derived.Test.YtdfnbcbnmiohnaaGreatDoorP49
import Derived.Test.YtdfnbcbnmiohnaaGreatDoorP51
namespace Go.Proofs.YtdfnbcbnmiohnaaGreatDoor
open Go.RowKit
set_option maxRecDepth 100000
set_option maxHeartbeats 8000000
structure KI (W w : World) (p : Dp) (d : DS) (A : List Value) (fv kv : Value) (t : Nat) (D : List RowT) (hv : Value) (hs : List Value) (gv : Value) (gs : List Value) : Prop where
  k : KR W w p d [] D hv hs gv gs
  f : (fv, A) ∈ D
  kp : (kv, A) ∈ D
  hl : hs.length = t
  gl : gs.length = t
  m : ∀ k, k < t → ∃ a b, hs[k]? = some a ∧ gs[k]? = some b ∧ (a, mrk k A.length) ∈ D ∧ (b, mrk k (A.length + 1)) ∈ D
/-- Some lists are still to be marked. -/
structure KJ (W w : World) (p : Dp) (d : DS) (A : List Value) (fv kv : Value) (t c : Nat) (vs : List Value) (D : List RowT) (hv : Value) (hs : List Value) (gv : Value) (gs : List Value) : Prop where
  k : KR W w p d ((vs.drop c).map fun v => (v, A)) D hv (hs ++ vs) gv gs
  f : (fv, A) ∈ D
  kp : (kv, A) ∈ D
  hl : hs.length = t
  gl : gs.length = t + c
  m : ∀ k, k < t + c → ∃ a b, (hs ++ vs)[k]? = some a ∧ gs[k]? = some b ∧ (a, mrk k A.length) ∈ D ∧ (b, mrk k (A.length + 1)) ∈ D
theorem KI.on {W w w' : World} {p : Dp} {d : DS} {A : List Value} {fv kv : Value} {t : Nat} {D : List RowT} {hv gv : Value} {hs gs : List Value} (h : KI W w p d A fv kv t D hv hs gv gs) (hb : Below w.heap.size w w') : KI W w' p d A fv kv t D hv hs gv gs := ⟨h.k.on hb, h.f, h.kp, h.hl, h.gl, h.m⟩
theorem KI.start {W w : World} {p : Dp} {d : DS} {A : List Value} {fv kv : Value} {D : List RowT} (h : KR W w p d [] D (.slice none 0 0) [] (.slice none 0 0) []) (hf : (fv, A) ∈ D) (hk : (kv, A) ∈ D) : KI W w p d A fv kv 0 D (.slice none 0 0) [] (.slice none 0 0) [] := ⟨h, hf, hk, rfl, rfl, fun k hk => absurd hk (by omega)⟩
theorem KJ.start {W w : World} {p : Dp} {d : DS} {A : List Value} {fv kv : Value} {t : Nat} {vs : List Value} {D : List RowT} {hv hv' gv : Value} {hs gs : List Value} (h : KI W w p d A fv kv t D hv hs gv gs) {w' : World} (hk : KR W w' p d (vs.map fun v => (v, A)) D hv' (hs ++ vs) gv gs) : KJ W w' p d A fv kv t 0 vs D hv' hs gv gs :=
  ⟨by simpa using hk, h.f, h.kp, h.hl, h.gl, fun k hk => by
    obtain ⟨a, b, h1, h2, h3⟩ := h.m k hk
    exact ⟨a, b, by rw [List.getElem?_append_left (by rw [h.hl]; exact hk)]; exact h1, h2, h3⟩⟩
theorem KJ.done {W w : World} {p : Dp} {d : DS} {A : List Value} {fv kv : Value} {t : Nat} {vs : List Value} {D : List RowT} {hv gv : Value} {hs gs : List Value} (h : KJ W w p d A fv kv t 2 vs D hv hs gv gs) (hl : vs.length = 2) : KI W w p d A fv kv (t + 2) D hv (hs ++ vs) gv gs :=
  ⟨by have := h.k; rw [List.drop_of_length_le (by omega)] at this; exact this, h.f, h.kp, by rw [List.length_append, h.hl, hl], h.gl, h.m⟩
theorem KJ.next {W w w' : World} {p : Dp} {d : DS} {A : List Value} {fv kv : Value} {t c : Nat} {vs : List Value} {D : List RowT} {hv gv gv' : Value} {hs gs : List Value} (h : KJ W w p d A fv kv t c vs D hv hs gv gs) {v b : Value} (hv' : vs[c]? = some v)
    (hk : KR W w' p d ((vs.drop (c + 1)).map fun v => (v, A)) (D ++ [(v, mrk (t + c) A.length), (b, mrk (t + c) (A.length + 1))]) hv (hs ++ vs) gv' (gs ++ [b])) : KJ W w' p d A fv kv t (c + 1) vs (D ++ [(v, mrk (t + c) A.length), (b, mrk (t + c) (A.length + 1))]) hv hs gv' (gs ++ [b]) :=
  ⟨hk, by simp [h.f], by simp [h.kp], h.hl, by rw [List.length_append, h.gl]; rfl, fun k hk2 => by
    by_cases e : k < t + c
    · obtain ⟨a, b', h1, h2, h3, h4⟩ := h.m k e
      exact ⟨a, b', h1, by rw [List.getElem?_append_left (by rw [h.gl]; exact e)]; exact h2, by simp [h3], by simp [h4]⟩
    · obtain rfl : k = t + c := by omega
      exact ⟨v, b, by rw [List.getElem?_append_right (by rw [h.hl]; omega), h.hl, Nat.add_sub_cancel_left]; exact hv', by rw [List.getElem?_append_right (by rw [h.gl]; omega), h.gl, Nat.sub_self]; rfl, by simp, by simp⟩⟩
theorem mrk_snoc (k n : Nat) : mrk k n ++ [.int .i64 (-(k : Int) - 1)] = mrk k (n + 1) := by simp [mrk, List.replicate_succ']
/-- A row that is not empty: where it lies. -/
theorem row_g {x : World} {B e : Nat} {v : Value} {n : Nat} {xs : List Value} (h : x.ownsRow B e 1 v n xs) (hn : 0 < n) : ∃ g c, v = .slice (some ⟨g, 0, none⟩) n c ∧ ∀ j u, xs[j]? = some u → x.cell? ⟨g, j, none⟩ = some u := by
  obtain ⟨ao, cap, rfl, hg⟩ := own_form h
  obtain ⟨g, rfl⟩ := hg hn
  exact ⟨g, cap, rfl, fun j u hu => own_cell h hu⟩
theorem KR.markj {W x : World} {p : Dp} {d : DS} {Z D : List RowT} {hv gv : Value} {hs gs : List Value} {g N vc k j : Nat} {A : List Value} (h : KR W x p d ((.slice (some ⟨g, 0, none⟩) N vc, wrm k A j) :: Z) D hv hs gv gs) (hN : A.length = N) (hj : j < N) :
    KR W (x.setCell ⟨g, j, none⟩ (.int .i64 (-(k : Int) - 1))) p d ((.slice (some ⟨g, 0, none⟩) N vc, wrm k A (j + 1)) :: Z) D hv hs gv gs := by
  have ho := h.own _ (List.mem_cons_self ..)
  unfold Rw at ho
  simp only [wrm_len k A j (by omega), hN] at ho
  obtain ⟨h1, h2⟩ := own_store1 ho j (.int .i64 (-(k : Int) - 1))
  rw [wrm_set k A j (by omega)] at h1
  have := h.set 0 (v := .slice (some ⟨g, 0, none⟩) N vc) (A := wrm k A j) (A' := wrm k A (j + 1)) rfl (g := g) rfl h2 (by rw [wrm_len k A (j + 1) (by omega), hN]; exact h1)
  exact this
theorem row_free {x : World} {B e : Nat} {g n c : Nat} {xs : List Value} (h : x.ownsRow B e 1 (.slice (some ⟨g, 0, none⟩) n c) n xs) (j : Nat) : x.frozen? ⟨g, j, none⟩ = false := by
  rcases h.2 with ⟨hn, _⟩ | ⟨g', cap, cur, hn, _, h2, _⟩
  · cases hn
  · cases hn
    exact frozen_of_row x g j _ e h2
theorem drop_cons {vs : List Value} {c : Nat} {v : Value} (h : vs[c]? = some v) : vs.drop c = v :: vs.drop (c + 1) := by
  obtain ⟨hl, he⟩ := List.getElem?_eq_some_iff.1 h
  rw [List.drop_eq_getElem_cons hl, he]
theorem keeps_l (W : World) (ao : Option Addr) (n cp : Nat) (q : Nat → Oq) (hq : OpsAt W ao n q) (hn : (n : Int) ≤ 4611686018427387904) (times : Int) (hT : H.Tab W) (hs : 1 < W.heap.size) :
    Calls Tryz.prog 3 #[.slice ao n cp, .int .i64 times] W fun x W' => x = .returned (.bool true) ∧ Below W.heap.size W W' := by
  have HG := hid (grown_any W ao n cp q hq hn hT hs)
  have HK := hid (fun w (hb : Below W.heap.size W w) => known_any w (hT.below hb hs) (by have := hb.size; omega))
  have HWi := hid (fun w => within_any w times 2 4 (by decide) (by decide) (by decide))
  simp only [Int.reduceSub, Int.reduceAdd] at HWi
  have hr : 2 ≤ wi times 2 3 ∧ wi times 2 3 ≤ 4 := by unfold wi; omega
  obtain ⟨T, hTT⟩ : ∃ T : Nat, wi times 2 3 = (T : Int) := ⟨(wi times 2 3).toNat, by omega⟩
  rw [hTT] at HWi hr
  have T1 : (T : Int) ≤ 4 := hr.2
  have T0 : (2 : Int) ≤ (T : Int) := hr.1
  clear hq hT hs hr hTT
  go_enter Tryz.func3, Tryz.ntmps3
  go_upto_region 5 with (go_at_call 8; refine HG.out.mono ?_; rintro e w1 ⟨p, n0, d, rfl, hn0, hR⟩; have R1 := hid hR.o; have HNS := hid (hR.g (by omega)).ns; clear hR hn0 HG)
  go_loopw [6] (fun i wr => ∃ (j : Nat), j ≤ 8 ∧ i = .int .i64 (j : Int) ∧ Hid (OD W wr p d)) (fun i _ => 8 - (intOf i).toNat)
  case atStart => exact ⟨0, by omega, rfl, R1⟩
  case round =>
    obtain ⟨s, hj, rfl, HR⟩ := hrel
    clear R1
    by_cases hlt : s < 8
    · have q2 : (s : Int) < 8 := by omega
      have q0 : (0 : Int) ≤ (s : Int) := by omega
      have HJ := hid hlt
      have HP := hid (fun w (h : DB w p d) => plan_row w p d h s)
      have HAs := hid (fun w (h : DB w p d) => at_l w p d h (s : Int))
      have HPos := hid (planV_pos d s)
      have HLn := hid (planV_len d s HNS.out)
      have HInt := hid (fun j u h => planV_int d s (j := j) (u := u) h)
      clear hlt hj HK
      simp only [ptr, En.v, En.cs] at HP HAs
      generalize d.planV s = A at *
      generalize d.ent (s : Int) = E at *
      have HA1 : Hid (∀ u ∈ A, u.oneCell' = true) := hid (fun u hu => by obtain ⟨j, hj⟩ := List.getElem?_of_mem hu; obtain ⟨x, rfl⟩ := HInt.out j u hj; rfl)
      obtain ⟨N, hN⟩ : ∃ N, A.length = N := ⟨_, rfl⟩
      have HN := hid hN
      have hN9 : (N : Int) ≤ 9 := by have := HLn.out; omega
      rw [hN] at HP HPos HLn
      clear hN
      go_upto_region 8 with (go_at_call 9; refine (HP.out _ HR.out.db).mono ?_; rintro e w2 ⟨fv, rfl, ho, hb⟩; have K2 := hid ((KR.begin HR.out).addD ((KR.begin HR.out).on hb) (v := fv) (A := A) (by rw [HN.out]; exact ho)); have F2 := hid (own_mono ho HR.out.bl.size); clear ho hb)
      obtain ⟨fo, fc, hff, _⟩ := own_form F2.out
      subst hff
      go_upto_region 10 with (at_builtin; refine appAll rfl _ _ rfl HA1.out rfl rfl (by rw [HN.out]; exact F2.out) (by rw [HN.out]; have := HLn.out; omega) ?_; intro kv w3 ho3 hb3; have K3 := hid (K2.out.addD (K2.out.on hb3) ho3); have G3 := hid (own_mono ho3 K2.out.below.size); clear ho3 hb3 K2 F2)
      rw [HN.out] at G3
      obtain ⟨ko, kc, hkf, _⟩ := own_form G3.out
      subst hkf
      simp only [List.nil_append, List.cons_append] at K3
      have hfd : ∀ w, (Instr.field 30 (.agg #[.int .i64 E.t, .int .i64 E.o, .int .i64 E.r, .int .i64 E.s, .bool E.e]) 0).run Tryz.prog w = .ok (.int .i64 E.t) w := fun w => by kernel_rfl
      have hcmp : (E.t == 1) = decide (0 < N) := by
        by_cases h : E.t = 1
        · have := HPos.out.2 h; simp [h, this]
        · have h2 : ¬ 0 < N := fun x => h (HPos.out.1 x)
          have h3 : (E.t == 1) = false := by simpa using h
          rw [h3]; simp; omega
      go_upto_region 12 with (go_at_call 10; refine (HAs.out _ K3.out.a).mono ?_; rintro e w4 ⟨rfl, hb⟩; have K4 := hid (K3.out.on hb); clear hb K3)
      have I4 := hid (KI.start (A := A) (fv := .slice fo N fc) (kv := .slice ko N kc) K4.out (by simp) (by simp))
      clear K4 G3 hcmp hfd HPos
      go_upto_region 15 with fail
      go_loopw [9, 10, 11] (fun hv gv i wr => ∃ (t : Nat) (h2 g2 : Value) (hs gs : List Value) (D : List RowT), h2 = hv ∧ g2 = gv ∧ (t = 0 ∨ t = 2 ∨ t = 4) ∧ i = .int .i64 (t : Int) ∧ Hid (KI W wr p d A (.slice fo N fc) (.slice ko N kc) t D h2 hs g2 gs)) (fun _ _ i _ => 6 - (intOf i).toNat)
      case atStart => exact ⟨0, _, _, [], [], _, rfl, rfl, .inl rfl, rfl, I4⟩
      case round =>
        obtain ⟨t, h2, g2, hs, gs, D, rfl, rfl, ht, rfl, HI⟩ := hrel
        clear I4
        have ht4 : (t : Int) ≤ 4 := by omega
        by_cases hlt : t < T
        · have q1 : (t : Int) < (T : Int) := by omega
          have HT2 : Hid (t = 0 ∨ t = 2) := hid (by omega)
          clear hlt ht
          go_upto_region 18 with (go_at_call 11; refine (HWi.out _).mono ?_; rintro e wz ⟨rfl, hw⟩; subst wz)
          go_loopw [9, 12] (fun hv i wr => ∃ (c : Nat) (h3 : Value) (vs : List Value), h3 = hv ∧ c ≤ 2 ∧ i = .int .i64 (c : Int) ∧ vs.length = c ∧ Hid (KR W wr p d (vs.map fun v => (v, A)) D h3 (hs ++ vs) g2 gs)) (fun _ i _ => 2 - (intOf i).toNat)
          case atStart => exact ⟨0, _, [], rfl, by omega, rfl, rfl, hid (by simpa using HI.out.k)⟩
          case round =>
            obtain ⟨c, h3, vs, rfl, hc, rfl, hvs, HQ⟩ := hrel
            by_cases hlt : c < 2
            · have q3 : (c : Int) < 2 := by omega
              have HC := hid (And.intro hlt hvs)
              clear hlt hc hvs
              go_upto_region 21 with (go_at_call 9; refine (HP.out _ HQ.out.a).mono ?_; rintro e w5 ⟨v, rfl, ho, hb⟩; have K5 := hid (HQ.out.addZ (HQ.out.on hb) (v := v) (A := A) (by rw [HN.out]; exact ho)); clear ho hb HQ)
              obtain ⟨vo, vc, hvf, _⟩ := own_form (K5.out.own (v, A) (by simp))
              rw [HN.out] at hvf
              subst hvf
              go_upto_region 24 with fail
              go_loopw [14] (fun i wr => ∃ (j : Nat), j ≤ N ∧ i = .int .i64 (j : Int) ∧ Hid (KR W wr p d ((vs.map fun v => (v, A)) ++ [(.slice vo N vc, A)]) D h3 (hs ++ vs) g2 gs)) (fun i _ => N - (intOf i).toNat)
              case atStart => exact ⟨0, by omega, rfl, K5⟩
              case round =>
                obtain ⟨j, hj, rfl, KQ⟩ := hrel
                clear K5
                by_cases hlt : j < N
                · have q5 : (j : Int) < (N : Int) := by omega
                  have HJ2 := hid hlt
                  obtain ⟨x, hx⟩ : ∃ x : Int, A[j]? = some (.int .i64 x) := by
                    obtain ⟨u, hu⟩ : ∃ u, A[j]? = some u := ⟨A[j]'(by rw [HN.out]; exact hlt), List.getElem?_eq_getElem _⟩
                    obtain ⟨x, rfl⟩ := HInt.out j u hu
                    exact ⟨x, hu⟩
                  have o1 := KQ.out.own (.slice vo N vc, A) (by simp)
                  have o2 := KQ.out.dn (.slice ko N kc, A) HI.out.kp
                  unfold Rw at o1 o2
                  simp only [HN.out] at o1 o2
                  obtain ⟨gl, c1, e1, hg1⟩ := row_g o1 (by omega)
                  obtain ⟨gk, c2, e2, hg2⟩ := row_g o2 (by omega)
                  cases e1
                  cases e2
                  have HC1 := hid (hg1 j _ hx)
                  have HC2 := hid (hg2 j _ hx)
                  clear hx o1 o2 hg1 hg2 hlt hj
                  go_upto_region 26 with fail
                  have KD := hid (KQ.out.on (Below.refl _ _).drew)
                  have HS : wr.drew.cell? ⟨gl, j, none⟩ = some (.int .i64 x) ∧ wr.drew.cell? ⟨gk, j, none⟩ = some (.int .i64 x) := ⟨HC1.out, HC2.out⟩
                  clear KQ HC1 HC2
                  refine wp_region_held_drew (S := fun w => w.cell? ⟨gl, j, none⟩ = some (.int .i64 x) ∧ w.cell? ⟨gk, j, none⟩ = some (.int .i64 x)) (by kernel_rfl) HS (fun hHeld => ?_)
                  generalize World.drew _ = wd at *
                  refine wpAnyH_take (i := 0) (oi := { dst := some 67, op := Op.move (Operand.tmp 13), type := 25, pos := "outright.go:275", after := #[], guard := none }) (v := .slice (some ⟨gl, 0, none⟩) N vc) rfl (by kernel_rfl) (by kernel_rfl) (by kernel_rfl) (fun _ _ _ h => h) (Or.inl ⟨by rfl, by intro w hSw; go_simp⟩) (by assumption) ?_
                  simp only [Act.put, List.setIfInBounds_toArray, List.set_cons_zero, List.set_cons_succ]
                  refine wpAnyH_take (i := 1) (oi := { dst := some 68, op := Op.move (Operand.tmp 14), type := 3, pos := "outright.go:275", after := #[], guard := none }) (v := .int .i64 (j : Int)) rfl (by kernel_rfl) (by kernel_rfl) (by kernel_rfl) (fun _ _ _ h => h) (Or.inl ⟨by rfl, by intro w hSw; go_simp⟩) (by assumption) ?_
                  simp only [Act.put, List.setIfInBounds_toArray, List.set_cons_zero, List.set_cons_succ]
                  refine wpAnyH_take (i := 2) (oi := { dst := some 69, op := Op.indexAddr 25 (Operand.tmp 67) (Operand.tmp 68), type := 0, pos := "outright.go:275", after := #[{ on := 0, ground := Ground.data }, { on := 1, ground := Ground.data }], guard := none }) (v := .pointer (some ⟨gl, j, none⟩)) rfl (by kernel_rfl) (by kernel_rfl) (by kernel_rfl) (fun _ _ _ h => h) (Or.inl ⟨by rfl, by intro w hSw; go_simp⟩) (by assumption) ?_
                  simp only [Act.put, List.setIfInBounds_toArray, List.set_cons_zero, List.set_cons_succ]
                  refine wpAnyH_take (i := 3) (oi := { dst := some 70, op := Op.load 3 (Operand.tmp 69), type := 3, pos := "outright.go:275", after := #[{ on := 2, ground := Ground.data }], guard := none }) (v := .int .i64 x) rfl (by kernel_rfl) (by kernel_rfl) (by kernel_rfl) (fun _ _ _ h => h) (Or.inl ⟨by rfl, by intro w hSw; have hc := hSw.1; go_simp⟩) (by assumption) ?_
                  simp only [Act.put, List.setIfInBounds_toArray, List.set_cons_zero, List.set_cons_succ]
                  refine wpAnyH_take (i := 4) (oi := { dst := some 71, op := Op.move (Operand.tmp 8), type := 25, pos := "outright.go:275", after := #[], guard := none }) (v := .slice (some ⟨gk, 0, none⟩) N kc) rfl (by kernel_rfl) (by kernel_rfl) (by kernel_rfl) (fun _ _ _ h => h) (Or.inl ⟨by rfl, by intro w hSw; go_simp⟩) (by assumption) ?_
                  simp only [Act.put, List.setIfInBounds_toArray, List.set_cons_zero, List.set_cons_succ]
                  refine wpAnyH_take (i := 5) (oi := { dst := some 72, op := Op.move (Operand.tmp 14), type := 3, pos := "outright.go:275", after := #[], guard := none }) (v := .int .i64 (j : Int)) rfl (by kernel_rfl) (by kernel_rfl) (by kernel_rfl) (fun _ _ _ h => h) (Or.inl ⟨by rfl, by intro w hSw; go_simp⟩) (by assumption) ?_
                  simp only [Act.put, List.setIfInBounds_toArray, List.set_cons_zero, List.set_cons_succ]
                  refine wpAnyH_take (i := 6) (oi := { dst := some 73, op := Op.indexAddr 25 (Operand.tmp 71) (Operand.tmp 72), type := 0, pos := "outright.go:275", after := #[{ on := 4, ground := Ground.data }, { on := 5, ground := Ground.data }], guard := none }) (v := .pointer (some ⟨gk, j, none⟩)) rfl (by kernel_rfl) (by kernel_rfl) (by kernel_rfl) (fun _ _ _ h => h) (Or.inl ⟨by rfl, by intro w hSw; go_simp⟩) (by assumption) ?_
                  simp only [Act.put, List.setIfInBounds_toArray, List.set_cons_zero, List.set_cons_succ]
                  refine wpAnyH_take (i := 7) (oi := { dst := some 74, op := Op.load 3 (Operand.tmp 73), type := 3, pos := "outright.go:275", after := #[{ on := 6, ground := Ground.data }], guard := none }) (v := .int .i64 x) rfl (by kernel_rfl) (by kernel_rfl) (by kernel_rfl) (fun _ _ _ h => h) (Or.inl ⟨by rfl, by intro w hSw; have hc := hSw.2; go_simp⟩) (by assumption) ?_
                  simp only [Act.put, List.setIfInBounds_toArray, List.set_cons_zero, List.set_cons_succ]
                  refine wpAnyH_take (i := 8) (oi := { dst := some 75, op := Op.binOp BinOp.neq 3 (Operand.tmp 70) (Operand.tmp 74) 3, type := 4, pos := "outright.go:275", after := #[{ on := 3, ground := Ground.data }, { on := 7, ground := Ground.data }], guard := none }) (v := .bool false) rfl (by kernel_rfl) (by kernel_rfl) (by kernel_rfl) (fun _ _ _ h => h) (Or.inl ⟨by rfl, by intro w hSw; go_simp⟩) (by assumption) ?_
                  simp only [Act.put, List.setIfInBounds_toArray, List.set_cons_zero, List.set_cons_succ]
                  refine wpAnyH_done (by kernel_rfl) ?_ _

                  go_wp2_with fail
                  go_roundw
                  case measure => have := HJ2.out; simp [intOf] <;> omega
                  case rel => exact ⟨j + 1, HJ2.out, by simp, KD⟩
                · obtain rfl : N = j := by omega
                  clear hlt hj
                  have HHl : Hid ((hs ++ vs).length ≤ 10) := hid (by rw [List.length_append, HI.out.hl, HC.out.2]; have := HC.out.1; omega)
                  go_upto_region 28 with fail
                  have K6 := hid (KQ.out.on (below_one wr (.cells #[.slice vo N vc] 25)))
                  have C6 := hid (Cel.new wr 25 [.slice vo N vc])
                  go_wp2_with (at_builtin; refine app32 rfl _ _ rfl rfl K6.out.h1 K6.out.below.size rfl C6.out HHl.out ?_; intro h6 w6 ht6; have K7 := hid (K6.out.headL ht6); clear ht6)
                  go_roundw
                  case measure => have := HC.out.1; simp [intOf] <;> omega
                  case rel => exact ⟨c + 1, _, vs ++ [.slice vo N vc], rfl, HC.out.1, by simp, by rw [List.length_append, HC.out.2]; rfl, hid (by have := K7.out; rw [List.map_append, ← List.append_assoc]; exact this)⟩
            · obtain rfl : c = 2 := by omega
              have J0 := hid (KJ.start HI.out HQ.out)
              have HVs := hid hvs
              clear hlt hc hvs HQ HI
              go_upto_region 30 with fail
              go_loopw [10, 15] (fun gv i wr => ∃ (c : Nat) (g3 : Value) (gs3 : List Value) (D3 : List RowT), g3 = gv ∧ c ≤ 2 ∧ i = .int .i64 ((t : Int) + (c : Int)) ∧ Hid (KJ W wr p d A (.slice fo N fc) (.slice ko N kc) t c vs D3 h3 hs g3 gs3)) (fun _ i _ => t + 2 - (intOf i).toNat)
              case atStart => exact ⟨0, _, _, _, rfl, by omega, by simp, J0⟩
              case round =>
                obtain ⟨c, g3, gs3, D3, rfl, hc, rfl, HJJ⟩ := hrel
                clear J0
                by_cases hlt : c < 2
                · have q4 : (t : Int) + (c : Int) < (t : Int) + 2 := by omega
                  have w2 : IntKind.wrap .i64 ((t : Int) + 2) = (t : Int) + 2 := wr64 _ (by omega) (by omega)
                  obtain ⟨v, hv⟩ : ∃ v, vs[c]? = some v := ⟨vs[c]'(by rw [HVs.out]; exact hlt), List.getElem?_eq_getElem _⟩
                  have HC := hid (And.intro hlt hv)
                  clear hlt hc hv
                  have J1 := hid HJJ.out.k
                  rw [drop_cons HC.out.2, List.map_cons] at J1
                  have o1 := J1.out.own (v, A) (by simp)
                  unfold Rw at o1
                  simp only [HN.out] at o1
                  obtain ⟨vo, vc, hvf, _⟩ := own_form o1
                  subst hvf
                  have HHl : Hid ((hs ++ vs).length = t + 2) := hid (by rw [List.length_append, HJJ.out.hl, HVs.out])
                  have HAt : Hid ((hs ++ vs)[t + c]? = some (.slice vo N vc)) := hid (by rw [List.getElem?_append_right (by rw [HJJ.out.hl]; omega), HJJ.out.hl, Nat.add_sub_cancel_left]; exact HC.out.2)
                  have HGl : Hid (gs3.length ≤ 10) := hid (by rw [HJJ.out.gl]; have := HC.out.1; omega)
                  obtain ⟨gh, hcc, hhf, _⟩ := row_g J1.out.h1 (by rw [HHl.out]; omega)
                  rw [HHl.out] at hhf
                  subst hhf
                  have HHd : Hid (∀ w Z D g4 gs4, KR W w p d Z D (.slice (some ⟨gh, 0, none⟩) (t + 2) hcc) (hs ++ vs) g4 gs4 → w.cell? ⟨gh, t + c, none⟩ = some (.slice vo N vc)) := hid (fun w Z D g4 gs4 h => by
                    have := h.h1
                    rw [HHl.out] at this
                    exact own_cell this HAt.out)
                  have hk1 : ((t : Int) + (c : Int)).toNat = t + c := by omega
                  have hk2 : (t : Int) + (c : Int) < (t : Int) + 2 := q4
                  have hk3 : (0 : Int) ≤ (t : Int) + (c : Int) := by omega
                  have hk4 : IntKind.wrap .i64 (-((t : Int) + (c : Int))) = -((t : Int) + (c : Int)) := wr64 _ (by omega) (by omega)
                  have hk5 : IntKind.wrap .i64 (-((t : Int) + (c : Int)) - 1) = -((t : Int) + (c : Int)) - 1 := wr64 _ (by omega) (by omega)
                  have HMk : Hid (-((t : Int) + (c : Int)) - 1 = -((t + c : Nat) : Int) - 1) := hid (by omega)
                  clear o1
                  go_upto_region 33 with fail
                  go_loopw [16] (fun i wr => ∃ (j : Nat), j ≤ N ∧ i = .int .i64 (j : Int) ∧ Hid (KR W wr p d ((.slice vo N vc, wrm (t + c) A j) :: (vs.drop (c + 1)).map fun v => (v, A)) D3 (.slice (some ⟨gh, 0, none⟩) (t + 2) hcc) (hs ++ vs) g3 gs3)) (fun i _ => N - (intOf i).toNat)
                  case atStart => exact ⟨0, by omega, rfl, J1⟩
                  case round =>
                    obtain ⟨j, hj, rfl, KQ⟩ := hrel
                    clear J1
                    by_cases hlt : j < N
                    · have q5 : (j : Int) < (N : Int) := by omega
                      have HJ2 := hid hlt
                      have o1 := KQ.out.own (.slice vo N vc, wrm (t + c) A j) (by simp)
                      unfold Rw at o1
                      simp only [wrm_len (t + c) A j (by rw [HN.out]; omega), HN.out] at o1
                      obtain ⟨gv, cv, e1, hg1⟩ := row_g o1 (by omega)
                      cases e1
                      have f1 := row_free o1 j
                      obtain ⟨u, hu⟩ : ∃ u, wr.cell? ⟨gv, j, none⟩ = some u := by
                        obtain ⟨u, hu⟩ : ∃ u, (wrm (t + c) A j)[j]? = some u := ⟨(wrm (t + c) A j)[j]'(by rw [wrm_len _ _ _ (by rw [HN.out]; omega), HN.out]; exact hlt), List.getElem?_eq_getElem _⟩
                        exact ⟨u, hg1 j u hu⟩
                      have ch := HHd.out _ _ _ _ _ KQ.out
                      have K8 := hid (KQ.out.markj HN.out hlt)
                      rw [← HMk.out] at K8
                      clear o1 hg1 hlt hj
                      go_wp2_with fail
                      go_roundw
                      case measure => have := HJ2.out; simp [intOf] <;> omega
                      case rel => exact ⟨j + 1, HJ2.out, by simp, K8⟩
                    · obtain rfl : N = j := by omega
                      clear hlt hj
                      have ch := HHd.out _ _ _ _ _ KQ.out
                      go_upto_region 36 with fail
                      have hw : wrm (t + c) A N = mrk (t + c) N := by rw [← HN.out]; exact wrm_all _ _
                      have L0 := hid (LV.start (by have := KQ.out; rw [hw] at this; exact this))
                      have L1 := hid (L0.out.on (below_one wr (.cells #[.int .i64 (-((t : Int) + (c : Int)) - 1)] 3)))
                      have C1 := hid (Cel.new wr 3 [.int .i64 (-((t : Int) + (c : Int)) - 1)])
                      have hk6 : IntKind.wrap .i64 ((t : Int) + (c : Int) + 1) = (t : Int) + (c : Int) + 1 := wr64 _ (by omega) (by omega)
                      have HLen : Hid ((mrk (t + c) N).length ≤ 1000000) := hid (by rw [mrk_len]; omega)
                      have O1 : Hid ((wr.alloc (.cells #[.int .i64 (-((t : Int) + (c : Int)) - 1)] 3)).ownsRow W.heap.size 3 1 (.slice vo N vc) (mrk (t + c) N).length (mrk (t + c) N)) := hid L1.out.ol
                      clear L0 KQ hw
                      go_wp2_with (first | (at_builtin; refine app25 (v := .slice vo N vc) (C := mrk (t + c) N) (y := -((t : Int) + (c : Int)) - 1) (g := wr.heap.size) rfl _ _ rfl rfl O1.out L1.out.k.below.size rfl C1.out HLen.out ?_; intro v6 w6 ht6; have L2 := hid (L1.out.app ht6); clear ht6 L1; rw [HMk.out] at L2; rw [mrk_snoc] at L2; have o6 := L2.out.ol; unfold Rw at o6; simp only [mrk_len] at o6; obtain ⟨lo, lc, hlf, _⟩ := own_form o6; subst hlf; have L3 := hid (L2.out.on (below_one w6 (.cells #[.slice lo (N + 1) lc] 25))).done; have C3 := hid (Cel.new w6 25 [.slice lo (N + 1) lc]); clear L2 o6) | (at_builtin; refine app32 rfl _ _ rfl rfl L3.out.h2 L3.out.below.size rfl C3.out HGl.out ?_; intro g7 w7 ht7; have K7 := hid (L3.out.headM ht7); clear ht7 L3))
                      go_roundw
                      case measure => have := HC.out.1; simp [intOf] <;> omega
                      case rel => (repeat apply Exists.intro); refine ⟨?_, rfl⟩; exact ⟨c + 1, _, _, _, rfl, HC.out.1, by simp [Int.add_assoc], hid (HJJ.out.next HC.out.2 (by rw [HN.out]; exact K7.out))⟩
                · obtain rfl : c = 2 := by omega
                  have I9 := hid (HJJ.out.done HVs.out)
                  clear hlt hc HJJ
                  obtain ⟨gh, hcc, hhf, hhc⟩ := row_g I9.out.k.h1 (by rw [I9.out.hl]; omega)
                  obtain ⟨gg, gcc, hgf, hgc⟩ := row_g I9.out.k.h2 (by rw [I9.out.gl]; omega)
                  rw [I9.out.hl] at hhf
                  rw [I9.out.gl] at hgf
                  subst hhf hgf
                  have HHc := hid hhc
                  have HGc := hid hgc
                  have w2 : IntKind.wrap .i64 ((t : Int) + 2) = (t : Int) + 2 := wr64 _ (by omega) (by omega)
                  have w1' : IntKind.wrap .i64 ((t : Int) + 1) = (t : Int) + 1 := wr64 _ (by omega) (by omega)
                  clear hhc hgc
                  go_upto_region 38 with fail
                  go_loopw [17] (fun i w => ∃ (k : Nat), k ≤ t + 2 ∧ i = .int .i64 (k : Int) ∧ wr = w) (fun i _ => t + 2 - (intOf i).toNat)
                  case atStart => exact ⟨0, by omega, rfl, rfl⟩
                  case round =>
                    obtain ⟨k, hk, rfl, rfl⟩ := hrel
                    by_cases hlt : k < t + 2
                    · have k1 : (k : Int) ≤ (t : Int) + 1 := by omega
                      have k2 : (k : Int) < (t : Int) + 2 := by omega
                      have HKl := hid hlt
                      obtain ⟨a, b, ha, hb, hda, hdb⟩ := I9.out.m k hlt
                      have oa := I9.out.k.dn _ hda
                      have ob := I9.out.k.dn _ hdb
                      unfold Rw at oa ob
                      simp only [mrk_len, HN.out] at oa ob
                      obtain ⟨ao', ac, haf, _⟩ := own_form oa
                      subst haf
                      obtain ⟨gb, bc, hbf, hbc⟩ := row_g ob (by omega)
                      subst hbf
                      have ca := HHc.out k _ ha
                      have cb := HGc.out k _ hb
                      have hn1 : IntKind.wrap .i64 (-(k : Int)) = -(k : Int) := wr64 _ (by omega) (by omega)
                      have hn2 : IntKind.wrap .i64 (-(k : Int) - 1) = -(k : Int) - 1 := wr64 _ (by omega) (by omega)
                      have HOa := hid oa
                      have HBc := hid (fun j (hj : j < N + 1) => hbc j _ (mrk_at k (N + 1) j hj))
                      clear ha hb hda hdb oa ob hbc hlt hk
                      go_upto_region 41 with fail
                      go_loopw [18] (fun i w => ∃ (j : Nat), j ≤ N + 1 ∧ i = .int .i64 (j : Int) ∧ wr = w) (fun i _ => N + 1 - (intOf i).toNat)
                      case atStart => exact ⟨0, by omega, rfl, rfl⟩
                      case round =>
                        obtain ⟨j, hj, rfl, rfl⟩ := hrel
                        by_cases hlt : j < N + 1
                        · have HJ3 := hid hlt
                          have cj := HBc.out j hlt
                          have j1 : (j : Int) ≤ (N : Int) := by omega
                          have j2 : (j : Int) < (N : Int) + 1 := by omega
                          by_cases hl2 : j < N
                          · have j3 : (j : Int) < (N : Int) := by omega
                            obtain ⟨ga, ca2, e1, hg1⟩ := row_g HOa.out (by omega)
                            cases e1
                            have cl := hg1 j _ (mrk_at k N j hl2)
                            clear hlt hj hl2 hg1
                            go_wp2_with fail
                            go_roundw
                            case measure => have := HJ3.out; simp [intOf] <;> omega
                            case rel => first | exact ⟨j + 1, HJ3.out, by simp, trivial⟩ | exact ⟨j + 1, HJ3.out, by simp, rfl⟩ | ((repeat apply Exists.intro); refine ⟨?_, rfl⟩; first | exact ⟨j + 1, HJ3.out, by simp, trivial⟩ | exact ⟨j + 1, HJ3.out, by simp, rfl⟩)
                          · have j3 : (N : Int) ≤ (j : Int) := by omega
                            clear hlt hj hl2
                            go_wp2_with fail
                            go_roundw
                            case measure => have := HJ3.out; simp [intOf] <;> omega
                            case rel => first | exact ⟨j + 1, HJ3.out, by simp, trivial⟩ | exact ⟨j + 1, HJ3.out, by simp, rfl⟩ | ((repeat apply Exists.intro); refine ⟨?_, rfl⟩; first | exact ⟨j + 1, HJ3.out, by simp, trivial⟩ | exact ⟨j + 1, HJ3.out, by simp, rfl⟩)
                        · have j3 : (N : Int) < (j : Int) := by omega
                          clear hlt hj
                          go_wp2_with fail
                          go_roundw
                          case measure => have := HKl.out; simp [intOf] <;> omega
                          case rel => first | exact ⟨k + 1, HKl.out, by simp, trivial⟩ | exact ⟨k + 1, HKl.out, by simp, rfl⟩ | ((repeat apply Exists.intro); refine ⟨?_, rfl⟩; first | exact ⟨k + 1, HKl.out, by simp, trivial⟩ | exact ⟨k + 1, HKl.out, by simp, rfl⟩)
                    · have k3 : (t : Int) + 1 < (k : Int) := by omega
                      clear hlt hk
                      go_wp2_with fail
                      go_roundw
                      case measure => have := HT2.out; simp [intOf] <;> omega
                      case rel => exact ⟨t + 2, _, _, _, _, _, rfl, rfl, by have := HT2.out; omega, by simp, I9⟩
        · have q1 : (T : Int) ≤ (t : Int) := by omega
          clear hlt ht
          go_upto_region 46 with (go_at_call 11; refine (HWi.out _).mono ?_; rintro e wz ⟨rfl, hw⟩; subst wz)
          go_loopw [19] (fun i w => ∃ (j : Nat), j ≤ N ∧ i = .int .i64 (j : Int) ∧ Hid (KI W w p d A (.slice fo N fc) (.slice ko N kc) t D h2 hs g2 gs)) (fun i _ => N - (intOf i).toNat)
          case atStart => exact ⟨0, by omega, rfl, HI⟩
          case round =>
            obtain ⟨j, hj, rfl, KQ⟩ := hrel
            clear HI
            by_cases hlt : j < N
            · have q5 : (j : Int) < (N : Int) := by omega
              have HJ2 := hid hlt
              obtain ⟨x, hx⟩ : ∃ x : Int, A[j]? = some (.int .i64 x) := by
                obtain ⟨u, hu⟩ : ∃ u, A[j]? = some u := ⟨A[j]'(by rw [HN.out]; exact hlt), List.getElem?_eq_getElem _⟩
                obtain ⟨x, rfl⟩ := HInt.out j u hu
                exact ⟨x, hu⟩
              have o1 := KQ.out.k.dn (.slice fo N fc, A) KQ.out.f
              have o2 := KQ.out.k.dn (.slice ko N kc, A) KQ.out.kp
              unfold Rw at o1 o2
              simp only [HN.out] at o1 o2
              obtain ⟨gf, c1, e1, hg1⟩ := row_g o1 (by omega)
              obtain ⟨gk, c2, e2, hg2⟩ := row_g o2 (by omega)
              cases e1
              cases e2
              have HC1 := hid (hg1 j _ hx)
              have HC2 := hid (hg2 j _ hx)
              clear hx o1 o2 hg1 hg2 hlt hj
              go_upto_region 48 with fail
              have KD := hid (KQ.out.on (Below.refl _ _).drew)
              have HS : wr.drew.cell? ⟨gf, j, none⟩ = some (.int .i64 x) ∧ wr.drew.cell? ⟨gk, j, none⟩ = some (.int .i64 x) := ⟨HC1.out, HC2.out⟩
              clear KQ HC1 HC2
              refine wp_region_held_drew (S := fun w => w.cell? ⟨gf, j, none⟩ = some (.int .i64 x) ∧ w.cell? ⟨gk, j, none⟩ = some (.int .i64 x)) (by kernel_rfl) HS (fun hHeld => ?_)
              generalize World.drew _ = wd at *
              refine wpAnyH_take (i := 0) (oi := { dst := some 162, op := Op.move (Operand.tmp 7), type := 25, pos := "outright.go:296", after := #[], guard := none }) (v := .slice (some ⟨gf, 0, none⟩) N fc) rfl (by kernel_rfl) (by kernel_rfl) (by kernel_rfl) (fun _ _ _ h => h) (Or.inl ⟨by rfl, by intro w hSw; go_simp⟩) (by assumption) ?_
              simp only [Act.put, List.setIfInBounds_toArray, List.set_cons_zero, List.set_cons_succ]
              refine wpAnyH_take (i := 1) (oi := { dst := some 163, op := Op.move (Operand.tmp 19), type := 3, pos := "outright.go:296", after := #[], guard := none }) (v := .int .i64 (j : Int)) rfl (by kernel_rfl) (by kernel_rfl) (by kernel_rfl) (fun _ _ _ h => h) (Or.inl ⟨by rfl, by intro w hSw; go_simp⟩) (by assumption) ?_
              simp only [Act.put, List.setIfInBounds_toArray, List.set_cons_zero, List.set_cons_succ]
              refine wpAnyH_take (i := 2) (oi := { dst := some 164, op := Op.indexAddr 25 (Operand.tmp 162) (Operand.tmp 163), type := 0, pos := "outright.go:296", after := #[{ on := 0, ground := Ground.data }, { on := 1, ground := Ground.data }], guard := none }) (v := .pointer (some ⟨gf, j, none⟩)) rfl (by kernel_rfl) (by kernel_rfl) (by kernel_rfl) (fun _ _ _ h => h) (Or.inl ⟨by rfl, by intro w hSw; go_simp⟩) (by assumption) ?_
              simp only [Act.put, List.setIfInBounds_toArray, List.set_cons_zero, List.set_cons_succ]
              refine wpAnyH_take (i := 3) (oi := { dst := some 165, op := Op.load 3 (Operand.tmp 164), type := 3, pos := "outright.go:296", after := #[{ on := 2, ground := Ground.data }], guard := none }) (v := .int .i64 x) rfl (by kernel_rfl) (by kernel_rfl) (by kernel_rfl) (fun _ _ _ h => h) (Or.inl ⟨by rfl, by intro w hSw; have hc := hSw.1; go_simp⟩) (by assumption) ?_
              simp only [Act.put, List.setIfInBounds_toArray, List.set_cons_zero, List.set_cons_succ]
              refine wpAnyH_take (i := 4) (oi := { dst := some 166, op := Op.move (Operand.tmp 8), type := 25, pos := "outright.go:296", after := #[], guard := none }) (v := .slice (some ⟨gk, 0, none⟩) N kc) rfl (by kernel_rfl) (by kernel_rfl) (by kernel_rfl) (fun _ _ _ h => h) (Or.inl ⟨by rfl, by intro w hSw; go_simp⟩) (by assumption) ?_
              simp only [Act.put, List.setIfInBounds_toArray, List.set_cons_zero, List.set_cons_succ]
              refine wpAnyH_take (i := 5) (oi := { dst := some 167, op := Op.move (Operand.tmp 19), type := 3, pos := "outright.go:296", after := #[], guard := none }) (v := .int .i64 (j : Int)) rfl (by kernel_rfl) (by kernel_rfl) (by kernel_rfl) (fun _ _ _ h => h) (Or.inl ⟨by rfl, by intro w hSw; go_simp⟩) (by assumption) ?_
              simp only [Act.put, List.setIfInBounds_toArray, List.set_cons_zero, List.set_cons_succ]
              refine wpAnyH_take (i := 6) (oi := { dst := some 168, op := Op.indexAddr 25 (Operand.tmp 166) (Operand.tmp 167), type := 0, pos := "outright.go:296", after := #[{ on := 4, ground := Ground.data }, { on := 5, ground := Ground.data }], guard := none }) (v := .pointer (some ⟨gk, j, none⟩)) rfl (by kernel_rfl) (by kernel_rfl) (by kernel_rfl) (fun _ _ _ h => h) (Or.inl ⟨by rfl, by intro w hSw; go_simp⟩) (by assumption) ?_
              simp only [Act.put, List.setIfInBounds_toArray, List.set_cons_zero, List.set_cons_succ]
              refine wpAnyH_take (i := 7) (oi := { dst := some 169, op := Op.load 3 (Operand.tmp 168), type := 3, pos := "outright.go:296", after := #[{ on := 6, ground := Ground.data }], guard := none }) (v := .int .i64 x) rfl (by kernel_rfl) (by kernel_rfl) (by kernel_rfl) (fun _ _ _ h => h) (Or.inl ⟨by rfl, by intro w hSw; have hc := hSw.2; go_simp⟩) (by assumption) ?_
              simp only [Act.put, List.setIfInBounds_toArray, List.set_cons_zero, List.set_cons_succ]
              refine wpAnyH_take (i := 8) (oi := { dst := some 170, op := Op.binOp BinOp.neq 3 (Operand.tmp 165) (Operand.tmp 169) 3, type := 4, pos := "outright.go:296", after := #[{ on := 3, ground := Ground.data }, { on := 7, ground := Ground.data }], guard := none }) (v := .bool false) rfl (by kernel_rfl) (by kernel_rfl) (by kernel_rfl) (fun _ _ _ h => h) (Or.inl ⟨by rfl, by intro w hSw; go_simp⟩) (by assumption) ?_
              simp only [Act.put, List.setIfInBounds_toArray, List.set_cons_zero, List.set_cons_succ]
              refine wpAnyH_done (by kernel_rfl) ?_ _

              go_wp2_with fail
              go_roundw
              case measure => have := HJ2.out; simp [intOf] <;> omega
              case rel => exact ⟨j + 1, HJ2.out, by simp, KD⟩
            · obtain rfl : N = j := by omega
              clear hlt hj
              go_wp2_with fail
              go_roundw
              case measure => have := HJ.out; simp [intOf] <;> omega
              case rel => exact ⟨s + 1, HJ.out, by simp, hid KQ.out.k.od⟩
    · obtain rfl : s = 8 := by omega
      go_wp2_with (go_at_call 12; refine (HK.out _ HR.out.bl).mono ?_; rintro e w2 ⟨rfl, hb⟩; have B2 := hid (below_on HR.out.bl hb); clear hb)
      go_ret
      exact ⟨rfl, B2.out⟩
end Go.Proofs.YtdfnbcbnmiohnaaGreatDoor
