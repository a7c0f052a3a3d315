/- The law's begun 7. -/
import Derived.Test.YtajkhkaidjjioaaPa
import Derived.LaidEqlPtr
namespace Go.Proofs.Ytajkhkaidjjioaa
open Go.RowKit
set_option maxHeartbeats 2000000
set_option maxRecDepth 100000
theorem MS.write_len (m : MS) (s : Bool) (p off v : Int) : (m.write s p off v).P.length = m.P.length := by
  unfold MS.write
  split
  · rfl
  · split
    · simp
    · rfl
theorem MS.zero_len (m : MS) (s : Bool) (p : Int) : (m.zero s p).P.length = m.P.length := by
  unfold MS.zero
  split
  · rfl
  · simp
def e8 : List En := List.replicate 8 En.zero
def e81 : List En := [enS 0, enF 0, En.zero, En.zero, En.zero, En.zero, En.zero, En.zero]
def e82 : List En := [⟨1, 0, 2, 1, false⟩, enF 0, enT 5 0, En.zero, En.zero, En.zero, En.zero, En.zero]
def e83 : List En := [enS 0, enF 0, En.zero, En.zero, En.zero, En.zero, En.zero, En.zero]
def e84 : List En := [⟨1, 0, 0, 1, false⟩, En.zero, En.zero, En.zero, En.zero, En.zero, En.zero, En.zero]
theorem bg1 (P : List (List Int)) (c : Int) : ∃ P' c', DS.takeSpace ⟨⟨8, P, c⟩, 0, e8⟩ 0 1 = ⟨⟨8, P', c'⟩, 1, e81⟩ ∧ DS.bearE ⟨⟨8, P, c⟩, 0, e8⟩ 0 1 = 0 ∧ P'.length = P.length := ⟨_, _, rfl, rfl, by simp [MS.write_len]⟩
theorem bg2 (P : List (List Int)) (c : Int) : DS.take ⟨⟨8, P, c⟩, 1, e81⟩ 2 5 0 = ⟨⟨8, P, c⟩, 1, e82⟩ ∧ DS.takeE ⟨⟨8, P, c⟩, 1, e81⟩ 2 5 0 = 0 := ⟨rfl, rfl⟩
theorem bg3 (P : List (List Int)) (c : Int) : ∃ P' c', DS.give ⟨⟨8, P, c⟩, 1, e82⟩ 2 = ⟨⟨8, P', c'⟩, 1, e83⟩ ∧ DS.giveE ⟨⟨8, P, c⟩, 1, e82⟩ 2 = 0 ∧ P'.length = P.length := ⟨_, _, rfl, rfl, by simp; rfl⟩
theorem bg4 (P : List (List Int)) (c : Int) : ∃ P' c', DS.give ⟨⟨8, P, c⟩, 1, e83⟩ 1 = ⟨⟨8, P', c'⟩, 1, e84⟩ ∧ DS.giveE ⟨⟨8, P, c⟩, 1, e83⟩ 1 = 0 ∧ P'.length = P.length := ⟨_, _, rfl, rfl, by simp; rfl⟩
theorem bg5 (P : List (List Int)) (c : Int) : ∃ P' c', DS.give ⟨⟨8, P, c⟩, 1, e84⟩ 0 = ⟨⟨8, P', c'⟩, 1, e8⟩ ∧ DS.giveE ⟨⟨8, P, c⟩, 1, e84⟩ 0 = 0 ∧ P'.length = P.length := ⟨_, _, rfl, rfl, by simp; rfl⟩
theorem bg0 (P : List (List Int)) (c : Int) (h : P.length = 10) : ∃ P' c', DS.fresh ⟨8, P, c⟩ = ⟨⟨8, P', c'⟩, 0, e8⟩ ∧ P'.length = 10 ∧ MS.word ⟨8, P', c'⟩ true 5 9 = 0 := by
  match P, h with
  | [p0, p1, p2, p3, p4, p5, p6, p7, p8, p9], _ => exact ⟨_, _, rfl, rfl, by rfl⟩
theorem bgF (P : List (List Int)) (c b : Int) : DS.free ⟨⟨8, P, c⟩, b, e8⟩ = 8 := rfl
theorem bgN : ∃ c, MS.write (MS.new 8 2) true 5 9 77 = ⟨8, (MS.write (MS.new 8 2) true 5 9 77).P, c⟩ ∧ (MS.write (MS.new 8 2) true 5 9 77).P.length = 10 := ⟨_, rfl, by rfl⟩
theorem under_p : Try.prog.underlying 24 = some (.pointer 98) := by kernel_rfl
theorem info_m : (Try.prog.info? 98).map (·.size) = some 3 := by kernel_rfl
theorem ptr_ne_self (a : Addr) (w : World) : (binOp .neq 24 (.pointer (some a)) (.pointer (some a))).run Try.prog w = .ok (.bool false) w := by
  obtain ⟨j, hj, _⟩ := Option.map_eq_some_iff.1 info_m
  have h : ∀ d : Nat, (Op.equalIn (d + 1) 24 (.pointer (some a)) (.pointer (some a))).run Try.prog w = .ok true w := fun d => by
    simp [Op.equalIn, run_underlying under_p, sizeOf, typeInfo, hj, run_sameAddr_same]
  simp only [binOp]
  simp [Op.equal, Op.maxDepth, h 9999]
theorem ptr_eq_self (a : Addr) (w : World) : (binOp .eql 24 (.pointer (some a)) (.pointer (some a))).run Try.prog w = .ok (.bool true) w := by
  obtain ⟨j, hj, _⟩ := Option.map_eq_some_iff.1 info_m
  exact run_eql_ptr_same w a under_p hj
theorem ptr_eq_other {g g' : Nat} {w : World} {t t' : TypeId} {cs cs' : List Value} (h : Cel w g t cs) (h' : Cel w g' t' cs') (hne : g ≠ g') : (binOp .eql 24 (.pointer (some ⟨g, 0, none⟩)) (.pointer (some ⟨g', 0, none⟩))).run Try.prog w = .ok (.bool false) w := by
  obtain ⟨j, hj, hs⟩ := Option.map_eq_some_iff.1 info_m
  exact run_eql_ptr_other w under_p hj (by rw [hs]; decide) (by intro e; cases e; exact hne rfl) h h'
theorem NewDB.on {w w' w2 : World} {p : Dp} {d : DS} (h : NewDB w w' p d) (hb : Below w'.heap.size w' w2) : NewDB w w2 p d := ⟨h.db.on hb, below_on h.below hb, h.new⟩
theorem NewDB.step {w w' w2 : World} {p : Dp} {d d' : DS} (h : NewDB w w' p d) (hd : DB w2 p d') (hb : ButL p.w w' w2) : NewDB w w2 p d' := ⟨hd, h.below.trans (hb.below (B := w.heap.size) (fun k hk => h.new k (Dp.w_all hk)) h.below.size), h.new⟩
theorem begun_any (W : World) : Calls Try.prog 7 #[] W fun e W' => ∃ p P c, e = .returned (.tuple #[ptr p.g, ptr p.f.gm]) ∧ NewDB W W' p ⟨⟨8, P, c⟩, 1, e8⟩ ∧ P.length = 10 := by
  have HN := hid (new_any W 8 2 (by decide) (by decide) (by decide) (by decide))
  have HW := hid (fun w f (hm : Mem w f (MS.new 8 2)) => write_any w f _ hm true 5 9 77)
  have HB := hid (fun w f m (hm : Mem w f m) (h : m.ns ≤ 64) => newDB_any w f m hm h)
  have HMy := hid (fun w p d (hw : DB w p d) => memory_any w p d hw)
  have HPk := hid (fun w f m (hm : Mem w f m) => peek_any w f m hm true 5 9)
  have HFr := hid (fun w p d (hw : DB w p d) => free_any w p d hw)
  have HBi := hid (fun w p d (hw : DB w p d) => births_any w p d hw)
  have H1 := hid (fun w p d (hw : DB w p d) => takeSpace_any w p d hw 0 1)
  have H2 := hid (fun w p d (hw : DB w p d) => take_any w p d hw 2 5 0)
  have H3 := hid (fun w p d (hw : DB w p d) => give_any w p d hw 2)
  have H4 := hid (fun w p d (hw : DB w p d) => give_any w p d hw 1)
  have H5 := hid (fun w p d (hw : DB w p d) => give_any w p d hw 0)
  simp only [ptr, fr] at *
  obtain ⟨c0, hc0, hl0⟩ := bgN
  generalize (MS.write (MS.new 8 2) true 5 9 77).P = P0 at *
  have HC0 := hid hc0
  have HL0 := hid hl0
  clear hc0 hl0
  go_enter Try.func7, Try.ntmps7
  go_upto_region 4 with (go_at_call 39; refine HN.out.mono ?_; rintro e w1 ⟨f, rfl, hm⟩; have HM := hid hm; clear hm)
  go_upto_region 5 with (go_at_call 23; refine (HW.out _ _ HM.out.mem).mono ?_; rintro e w2 ⟨rfl, hm, hb⟩; rw [HC0.out] at hm; have HM2 : Hid (NewMem W w2 f ⟨8, P0, c0⟩) := hid ⟨hm, HM.out.below.trans (hb.below (B := W.heap.size) (fun k hk => HM.out.new k (Fp.w_all hk)) HM.out.below.size), HM.out.new⟩; clear hm hb)
  clear HN HW HM
  obtain ⟨P1, c1, he1, hl1, hw1⟩ := bg0 P0 c0 HL0.out
  have HE1 := hid he1
  have HL1 := hid hl1
  have HW1 := hid hw1
  clear he1 hl1 hw1
  go_upto_region 6 with (go_at_call 33; refine (HB.out _ _ _ HM2.out.mem (by show (8 : Nat) ≤ 64; decide)).mono ?_; rintro e w3 ⟨g, gw, rfl, hd, l1, l2, hb⟩; rw [HE1.out] at hd; have HD : Hid (NewDB W w3 ⟨g, gw, f⟩ ⟨⟨8, P1, c1⟩, 0, e8⟩) := hid ⟨hd, HM2.out.below.trans (hb.below (B := W.heap.size) (fun k hk => HM2.out.new k (Fp.w_all hk)) HM2.out.below.size), fun k hk => by
    have := HM2.out.below.size
    simp only [Dp.all, List.mem_cons] at hk
    rcases hk with rfl | rfl | hk
    · omega
    · omega
    · exact HM2.out.new k hk⟩; clear hd hb l1 l2)
  clear HB HM2
  obtain ⟨p, hp⟩ : ∃ p : Dp, p = ⟨g, gw, f⟩ := ⟨_, rfl⟩
  obtain rfl : p.g = g := by rw [hp]
  obtain rfl : p.f = f := by rw [hp]
  rw [← hp] at HD
  clear hp
  have hpn := ptr_ne_self ⟨p.f.gm, 0, none⟩
  have HPk2 := hid (HPk.out _ _ _ HD.out.db.mem)
  rw [HW1.out] at HPk2
  have HFr2 := hid (fun w (hw : DB w p ⟨⟨8, P1, c1⟩, 0, e8⟩) => HFr.out _ _ _ hw)
  rw [bgF P1 c1 0] at HFr2
  clear HPk
  go_upto_region 8 with (first | (go_at_call 13; refine (HMy.out _ _ _ HD.out.db).mono ?_; rintro e w4 ⟨rfl, hw4⟩; subst hw4; clear HMy) | (go_at_call 40; refine HPk2.out.mono ?_; rintro e w5 ⟨rfl, hb⟩; have HD5 := hid (HD.out.on hb); clear hb HPk2) | (go_at_call 16; refine (HFr2.out _ HD5.out.db).mono ?_; rintro e w6 ⟨rfl, hb⟩; have HD6 := hid (HD5.out.on hb); clear hb HFr2))
  clear HD HD5 hpn
  obtain ⟨P2, c2, he, ht, hl⟩ := bg1 P1 c1
  have HE2 := hid he
  have HT2 := hid ht
  have HL2 := hid (hl.trans HL1.out)
  clear he ht hl
  go_upto_region 9 with (go_at_call 18; refine (H1.out _ _ _ HD6.out.db).mono ?_; rw [HE2.out, HT2.out]; rintro e w7 ⟨rfl, hd, hb⟩; have HD7 := hid (HD6.out.step hd hb); clear hd hb)
  clear HD6 HE2 HT2 H1
  have HE3 := hid (bg2 P2 c2)
  go_upto_region 10 with (go_at_call 19; refine (H2.out _ _ _ HD7.out.db).mono ?_; rw [HE3.out.1, HE3.out.2]; rintro e w8 ⟨rfl, hd, hb⟩; have HD8 := hid (HD7.out.step hd hb); clear hd hb)
  clear HD7 HE3 H2
  obtain ⟨P3, c3, he, ht, hl⟩ := bg3 P2 c2
  have HE2 := hid he
  have HT2 := hid ht
  have HL3 := hid (hl.trans HL2.out)
  clear he ht hl
  go_upto_region 11 with (go_at_call 41; refine (H3.out _ _ _ HD8.out.db).mono ?_; rw [HE2.out, HT2.out]; rintro e w9 ⟨rfl, hd, hb⟩; have HD9 := hid (HD8.out.step hd hb); clear hd hb)
  clear HD8 HE2 HT2 H3
  obtain ⟨P4, c4, he, ht, hl⟩ := bg4 P3 c3
  have HE2 := hid he
  have HT2 := hid ht
  have HL4 := hid (hl.trans HL3.out)
  clear he ht hl
  go_upto_region 12 with (go_at_call 41; refine (H4.out _ _ _ HD9.out.db).mono ?_; rw [HE2.out, HT2.out]; rintro e w10 ⟨rfl, hd, hb⟩; have HDA := hid (HD9.out.step hd hb); clear hd hb)
  clear HD9 HE2 HT2 H4
  obtain ⟨P5, c5, he, ht, hl⟩ := bg5 P4 c4
  have HE2 := hid he
  have HT2 := hid ht
  have HL5 := hid (hl.trans HL4.out)
  clear he ht hl
  go_upto_region 13 with (go_at_call 41; refine (H5.out _ _ _ HDA.out.db).mono ?_; rw [HE2.out, HT2.out]; rintro e w11 ⟨rfl, hd, hb⟩; have HDB := hid (HDA.out.step hd hb); clear hd hb)
  clear HDA HE2 HT2 H5
  have HFr3 := hid (fun w (hw : DB w p ⟨⟨8, P5, c5⟩, 1, e8⟩) => HFr.out _ _ _ hw)
  rw [bgF P5 c5 1] at HFr3
  clear HFr
  go_wp2_with (first | (go_at_call 17; refine (HBi.out _ _ _ HDB.out.db).mono ?_; rintro e w12 ⟨rfl, hw⟩; subst hw; clear HBi) | (go_at_call 16; refine (HFr3.out _ HDB.out.db).mono ?_; rintro e w13 ⟨rfl, hb⟩; have HDC := hid (HDB.out.on hb); clear hb HFr3))
  go_ret2
  exact ⟨p, P5, c5, rfl, HDC.out, HL5.out⟩
end Go.Proofs.Ytajkhkaidjjioaa
