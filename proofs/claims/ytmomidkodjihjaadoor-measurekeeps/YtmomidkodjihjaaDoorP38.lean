import Derived.Test.YtmomidkodjihjaaDoorP37
import Derived.Test.YtmomidkodjihjaaDoorP24
import Derived.Deep.DeepCutAuto
namespace Go.Proofs.YtmomidkodjihjaaDoor
open Go.RowKit
open H
set_option maxRecDepth 100000
set_option maxHeartbeats 8000000
attribute [-simp] Tryd.isAgg44 Tryd.sizeOf44 Tryd.zeroValue44 Tryd.isAgg37 Tryd.sizeOf37 Tryd.zeroValue37
theorem keeps_l (W : World) (hT : Tab W) (h2 : 1 < W.heap.size) (bo : Option Addr) (m d : Nat) (ops : List Lv) (hl : ops.length = m) (hL : LL W bo ops) (hb : m * 56 ≤ 140737488355328) (hW : ∀ x ∈ ops, LvW x) (times : Int) :
    Calls Tryd.prog 6 #[.slice bo m d, .int .i64 times] W fun e W' => e = .returned (.bool true) ∧ Below W.heap.size W W' := by
  have HKn := hid (fun w (hw : Below W.heap.size W w) => known_any w (hT.below hw h2) (by have := hw.size; omega))
  have HCo := hid (copied_any W bo m d ops hl hL hb)
  have HPl := hid (fun w' u (hu : HL W w' u ops) => plain_any W w' u ops hu hL.ld 4 (by decide) (by omega))
  obtain ⟨PL, hPL⟩ : ∃ PL, PL = (ops.take 4).map plainO := ⟨_, rfl⟩
  have okP : ∀ o ∈ PL, o.Ok := by rw [hPL]; exact plainL_ok ops 4
  have wP : Wds (enc PL) := by rw [hPL]; exact wds_enc _ (fun x hx => hW x (List.mem_of_mem_take hx))
  have lP : (enc PL).length ≤ 8208 := by rw [hPL]; exact plainL_len ops 4 (by decide)
  have nP : PL.length ≤ 4 := by rw [hPL, List.length_map, List.length_take]; omega
  rw [← hPL] at HPl
  clear hPL
  have HT := hid (And.intro hT h2)
  have HPp := hid (And.intro okP (And.intro wP (And.intro lP nP)))
  obtain ⟨E, hE⟩ : ∃ E, enc PL = E := ⟨_, rfl⟩
  obtain ⟨EL, hEL⟩ : ∃ EL, E.length = EL := ⟨_, rfl⟩
  have HE := hid (And.intro hE hEL)
  have e8 : EL ≤ 8208 := by rw [← hEL, ← hE]; exact lP
  have HEn := hid (fun (w : World) (ao : Option Addr) (n c : Nat) (l : List Ov) (hn : l.length = n) (h : OL w ao l) (hm : l.map Ov.o = PL) => (by
    have hn4 : n ≤ 4 := by rw [← hn]; have := congrArg List.length hm; rw [List.length_map] at this; omega
    have := encode_ok w ao n c l hn h (by omega) (by rw [hm]; exact okP) (by rw [hm]; omega)
    rw [hm, hE, hEL] at this
    exact this : Calls Tryd.prog 10 #[.slice ao n c] w fun e W' => ∃ p cp, e = .returned (.tuple #[.slice p EL cp, .int .i64 0]) ∧ Holds w W' .u32 24 (.slice p EL cp) E))
  obtain ⟨T, hTt⟩ : ∃ T : Nat, (T : Int) = 2 + wit times 3 := ⟨(2 + wit times 3).toNat, Int.toNat_of_nonneg (by have := wit_lo times 3 (by decide); omega)⟩
  have hT4 : T ≤ 4 := by have := wit_hi times 3 (by decide); omega
  have HWi := hid (fun w => (by have := within_any w times 2 4 3 (by decide) (by decide) (by decide) (by decide); rw [← hTt] at this; exact this : Calls Tryd.prog 14 #[.int .i64 times, .int .i64 2, .int .i64 4] w fun e W' => e = .returned (.int .i64 (T : Int)) ∧ w = W'))
  clear hT h2 hl hL hb hW okP wP lP nP hE hEL hTt
  go_enter Tryd.func6, Tryd.ntmps6
  go_upto_region 2 with (first | (go_at_call 13; refine HCo.out.mono ?_; rintro e w1 ⟨u1, rfl, h1⟩; have H1 := hid h1; clear h1 HCo; try dsimp only) | (go_at_call 12; refine (HPl.out _ _ H1.out).mono ?_; rintro e w2 ⟨u2, lo, rfl, h2, hmap⟩; obtain ⟨al, lc, hv, _, hol⟩ := h2.ol; subst hv; have H2 := hid (And.intro h2.below hol); have HMp := hid hmap; clear h2 hmap hol HPl H1; try dsimp only))
  obtain ⟨N, hN⟩ : ∃ N, lo.length = N := ⟨_, rfl⟩
  have HN := hid hN
  rw [hN]
  clear hN
  go_upto_region 3 with (go_at_call 10; refine (HEn.out _ al N lc lo HN.out H2.out.2 HMp.out).mono ?_; rintro e w3 ⟨a1, c1, rfl, hh⟩; have H3 := hid (And.intro (below_on H2.out.1 hh.below) (And.intro (H2.out.2.on hh.below) (holds_at' hh).1)); clear hh; try dsimp only)
  clear HEn H2
  go_upto_region 6 with (go_at_call 9; refine (HKn.out _ H3.out.1).mono ?_; rintro e w4 ⟨rfl, hb4⟩; have H4 := hid (And.intro (below_on H3.out.1 hb4) (And.intro (H3.out.2.1.on hb4) (H3.out.2.2.below hb4))); clear hb4; try dsimp only)
  clear H3 HKn
  go_upto_region 7 with (at_builtin; refine wpList_append_at rfl _ _ rfl (B := w4.heap.size) (v := .slice none 0 0) (xs := []) rfl (World.ownsRow_nil _ _ _ _) (Nat.le_refl _) rfl HE.out.2 H4.out.2.2 (by omega) ?_; intro v8 w5 hal; have H5 : Hid (Below W.heap.size W w5 ∧ OL w5 al lo ∧ At w5 .u32 a1 E ∧ ∃ ak kc, v8 = .slice ak EL kc ∧ At w5 .u32 ak E) := hid (by
    rcases hal with ⟨g, cap, hv, _⟩ | ⟨ho, hbl⟩
    · cases hv
    · rw [Nat.zero_add, List.nil_append] at ho
      obtain ⟨ak, kc, rfl⟩ := own_frm ho (by decide)
      exact ⟨below_on H4.out.1 hbl, H4.out.2.1.on hbl, H4.out.2.2.below hbl, ak, kc, rfl, own_at ho⟩); clear hal)
  obtain ⟨ak, kc, hv8, hak⟩ := H5.out.2.2.2
  subst hv8
  have hN4 : N ≤ 4 := by have := congrArg List.length HMp.out; rw [List.length_map, HN.out] at this; have := HPp.out.2.2.2; omega
  have HBS : Hid (BS w5 al ak N EL lo E) := hid ⟨HT.out.1.below H5.out.1 HT.out.2, by have := H5.out.1.size; have := HT.out.2; omega, H5.out.2.1, HN.out, hN4, fun x hx => HPp.out.1 _ (by rw [← HMp.out]; exact List.mem_map_of_mem hx), by rw [HMp.out]; exact HE.out.1, HE.out.2, e8, hak, by rw [← HE.out.1]; exact HPp.out.2.1⟩
  have HL0 : Hid (LS w5 w5 N (.slice none 0 0) (.slice none 0 0) (.slice none 0 0) [] [] [] [] []) := hid ⟨(((KS.start w5).add (drow (.slice none 0 0) []) (Below.refl _ _) (World.ownsRow_nil _ _ _ _)).add (drow (.slice none 0 0) []) (Below.refl _ _) (World.ownsRow_nil _ _ _ _)).add (brow (.slice none 0 0) []) (Below.refl _ _) (World.ownsRow_nil _ _ _ _), fun _ h => (by cases h), fun _ h => (by cases h), fun _ h => (by cases h), fun _ _ h => (by simp at h)⟩
  clear H4 hak
  go_wp2_with fail
  go_loopw [9, 10, 11, 12] (fun v9 v10 v11 i wr => ∃ (t : Nat) (u9 u10 u11 : Value) (HB D H : List Hk), t ≤ T ∧ i = .int .i64 (t : Int) ∧ v9 = u9 ∧ v10 = u10 ∧ v11 = u11 ∧ Hid (HB.length = t * (N + N + 2)) ∧ Hid (D.length = t) ∧ Hid (LS w5 wr N u9 u10 u11 HB D (D.map (·.vl)) [] H)) (fun _ _ _ i _ => T - (intOf i).toNat)
  case atStart => exact ⟨0, _, _, _, [], [], [], Nat.zero_le _, rfl, rfl, rfl, rfl, hid (by simp), hid rfl, HL0⟩
  case round =>
    clear HL0
    obtain ⟨t, u9, u10, u11, HB, D, H, ht, rfl, rfl, rfl, rfl, HBl, HDl, HLS⟩ := hrel
    by_cases hlt : t < T
    · have q1 : (t : Int) < (T : Int) := by omega
      go_upto_if 59 with (go_at_call 14; refine (HWi.out _).mono ?_; rintro e w7 ⟨rfl, hw7⟩; subst hw7; try dsimp only)
      go_cut [59] from 59 to 59 (fun v w => Hid (LS w5 w N u9 u10 u11 HB D (D.map (·.vl)) [] H))
      case first =>
        go_wp2_with fail
        go_meet
        exact HLS
      case rest =>
        have hbd : HB.length + (N + N + 2) ≤ 900 := by
          have h1 := HBl.out
          have h2 : t * (N + N + 2) ≤ 4 * (N + N + 2) := Nat.mul_le_mul_right _ (by omega)
          omega
        refine ‹∀ (a : Act) (w : World), Code.wp Tryd.prog _ _ a w → _› _ _ ?_
        refine wp_seq (wp_block ?_)
        refine partA w5 _ al ak N lc EL kc t lo E HBS.out (by omega) u9 u10 u11 HB D H HDl.out hbd hcut.out _ _ _ _ _ _ _ _ _ _ _ _ _ _ _ _ _ _ _ _ _ _ _ _ _ _ _ _ _ _ _ _ _ _ _ _ _ _ _ _ _ _ _ _ _ _ _ _ _ _ _ _ _ _ _ _ _ _ _ _ _ _ _ _ _ _ _ _ _ _ _ _ _ _ _ _ _ _ _ _ _ _ _ _ _ _ _ _ _ _ _ _ _ _ _ _ _ _ _ _ _ _ _ _ _ _ _ _ _ _ _ _ _ _ _ _ _ _ _ _ _ _ _ _ _ _ _ _ _ _ _ _ _ _ _ _ _ _ _ _ _ _ _ _ _ _ _ _ _ _ _ _ _ _ _ _ _ _ _ _ _ _ _ _ _ _ _ _ _ _ _ _ _ _ _ _ _ _ _ _ _ _ _ _ _ _ _ _ _ _ _ _ _ _ _ _ _ _ _ _ _ _ _ _ _ _ _ _ _ _ _ _ _ _ _ _ _ _ _ _ _ _ _ _ _ _ _ _ _ _ _ _ _ _ _ _ _ _ _ _ _ _ _ _ _ _ _ _ _ _ _ _ _ _ _ _ _ _ _ _ _ _ _ _ _ _ _ _ _ _ _ _ _ _ _ _ _ _ _ _ _ _ _ _ _ _ _ _ _ _ _ _ _ _ _ _ _ _ _ _ _ _ _ _ _ _ _ _ _ _ _ _ _ _ _ _ _ _ _ _ _ _ _ _ _ _ _ _ _ _ _ _ _ _ _ _ _ _ _ _ _ _ _ _ _ _ _ _ _ _ _ _ _ _ _ _ _ _ _ _ _ _ _ _ _ _ (fun _ _ t _ _ h => by cases t <;> exact h) (fun w' v9' v10' v11' HB' D' H' _ _ _ _ _ _ _ _ _ _ _ _ _ _ _ _ _ _ _ _ _ _ _ _ _ _ _ _ _ _ _ _ _ _ _ _ _ _ _ _ _ _ _ _ _ _ _ _ _ _ _ _ _ _ _ _ _ _ _ _ _ _ _ _ _ _ _ _ _ _ _ _ _ _ _ _ _ _ _ _ _ _ _ _ _ _ _ _ _ _ _ _ _ _ _ _ _ _ _ _ _ _ _ _ _ _ _ _ _ _ _ _ _ _ _ _ _ _ _ _ _ _ _ _ _ _ _ _ _ _ _ _ _ _ _ _ _ _ _ _ _ _ _ _ _ _ _ _ _ _ _ _ _ _ _ _ _ _ _ _ _ _ _ _ _ _ _ _ _ _ _ _ _ _ _ _ _ _ _ _ _ _ _ _ _ _ _ _ _ _ _ _ _ _ _ _ _ _ _ _ _ _ _ _ _ _ _ _ _ _ _ _ _ _ _ _ _ _ _ _ _ _ _ _ _ _ _ _ _ _ _ _ _ _ _ _ _ _ _ _ _ _ _ _ _ _ _ _ _ _ _ _ _ _ _ _ _ _ _ _ _ _ _ _ _ _ _ _ _ _ _ _ _ _ _ _ _ _ _ _ _ _ _ _ _ _ _ _ _ _ _ _ _ _ _ _ _ _ _ _ _ _ _ _ _ _ _ _ _ _ _ _ _ _ _ _ _ _ _ _ _ _ _ _ _ _ _ _ _ _ _ _ _ hT hl hb => ?_)
        have HT9 := hid hT
        clear hT
        simp only [Exit.inBlock, Exit.then]
        go_wp2_with fail
        go_roundw
        case measure => simp [intOf] <;> omega
        case rel => exact ⟨t + 1, v9', v10', v11', HB', D', H', by omega, by simp, rfl, rfl, rfl, hid (by rw [hb, HBl.out, Nat.succ_mul]), hid hl, HT9⟩
    · have q1 : (T : Int) ≤ (t : Int) := by omega
      have HSm := hid (by
        have := same_any wr a1 ak EL EL c1 kc E E HE.out.2 HE.out.2 (H5.out.2.2.1.below HLS.out.k.below) (HBS.out.kept.below HLS.out.k.below) (by omega)
        rw [decide_eq_true rfl] at this
        exact this : Calls Tryd.prog 11 #[.slice a1 EL c1, .slice ak EL kc] wr fun e W' => e = .returned (.bool true) ∧ Below wr.heap.size wr W')
      go_wp2_with (first | (go_at_call 14; refine (HWi.out _).mono ?_; rintro e w7 ⟨rfl, hw7⟩; subst hw7; try dsimp only) | (go_at_call 11; refine HSm.out.mono ?_; rintro e w8 ⟨rfl, hb8⟩; have H8 := hid (below_on (below_on H5.out.1 HLS.out.k.below) hb8); clear hb8; try dsimp only))
      go_ret
      exact ⟨rfl, H8.out⟩
end Go.Proofs.YtmomidkodjihjaaDoor
