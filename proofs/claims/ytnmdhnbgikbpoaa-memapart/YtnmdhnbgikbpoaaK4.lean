/- MemApart (5). -/
import Derived.Test.YtnmdhnbgikbpoaaK3
import Derived.Test.YtnmdhnbgikbpoaaL3
import Derived.Deep.DeepCutAuto
namespace Go.Proofs.Ytnmdhnbgikbpoaa
open Go.RowKit
theorem M4.same {m m' : MS} (h : M4 m) (h' : M4 m') : m.same m' = decide (m.P = m'.P) := by
  unfold MS.same
  rw [h.ns, h'.ns, Bool.eq_iff_iff]
  simp only [Bool.and_eq_true, decide_eq_true_eq]
  constructor
  · rintro ⟨a, b⟩
    rw [← List.take_append_drop 2 m.P, a, b, List.take_append_drop]
  · intro e; rw [e]; exact ⟨rfl, rfl⟩
/-- Some memories of the call's own, apart. -/
structure MA (W wr : World) (L : List (Fp × MS)) : Prop where
  below : Below W.heap.size W wr
  all : ∀ x ∈ L, Mem wr x.1 x.2 ∧ M4 x.2 ∧ (∀ k ∈ x.1.all, W.heap.size ≤ k)
  apart : L.Pairwise (fun x y => ∀ k ∈ x.1.all, k ∉ y.1.all)
section
variable {W wr : World} {L : List (Fp × MS)} (h : MA W wr L)
include h
theorem MA.on {w' : World} (hb : Below wr.heap.size wr w') : MA W w' L := ⟨below_on h.below hb, fun x hx => ⟨(h.all x hx).1.on hb, (h.all x hx).2⟩, h.apart⟩
theorem ma_meter (f : Fp) (m : MS) (hx : (f, m) ∈ L) : Calls Try.prog 19 #[.pointer (some ⟨f.gm, 0, none⟩)] wr fun x w' => x = .returned (.int .i64 m.c) ∧ MA W w' L :=
  (meter_any wr f m (h.all _ hx).1).mono fun _ _ ⟨a, b⟩ => ⟨a, b ▸ h⟩
theorem ma_same (f f' : Fp) (m m' : MS) (hx : (f, m) ∈ L) (hy : (f', m') ∈ L) : Calls Try.prog 26 #[.pointer (some ⟨f.gm, 0, none⟩), .pointer (some ⟨f'.gm, 0, none⟩)] wr fun x w' => x = .returned (.bool (decide (m.P = m'.P))) ∧ MA W w' L :=
  (same_any wr f m (h.all _ hx).1 f' m' (h.all _ hy).1).mono fun _ _ ⟨a, b⟩ => ⟨by rw [a, M4.same (h.all _ hx).2.1 (h.all _ hy).2.1], h.on b⟩
theorem ma_alike (f f' : Fp) (m m' : MS) (hx : (f, m) ∈ L) (hy : (f', m') ∈ L) : Calls Try.prog 27 #[.pointer (some ⟨f.gm, 0, none⟩), .pointer (some ⟨f'.gm, 0, none⟩)] wr fun x w' => x = .returned (.bool (decide (m.P = m'.P))) ∧ MA W w' L :=
  (alike_any wr f m (h.all _ hx).1 (h.all _ hx).2.1 f' m' (h.all _ hy).1 (h.all _ hy).2.1).mono fun _ _ ⟨a, b⟩ => ⟨a, h.on b⟩
theorem MA.more {w' : World} {f' : Fp} {m' : MS} (hn : NewMem wr w' f' m') (h4 : M4 m') : MA W w' (L ++ [(f', m')]) := by
  refine ⟨below_on h.below hn.below, fun x hx => ?_, ?_⟩
  · rw [List.mem_append, List.mem_singleton] at hx
    rcases hx with hx | rfl
    · exact ((h.on hn.below).all x hx)
    · exact ⟨hn.mem, h4, fun k hk => Nat.le_trans h.below.size (hn.new k hk)⟩
  · rw [List.pairwise_append]
    refine ⟨h.apart, by simp, fun x hx y hy k hk hk' => ?_⟩
    rw [List.mem_singleton] at hy
    subst hy
    have a := (h.all x hx).1.lt k hk
    have b := hn.new k hk'
    omega
theorem ma_clone (f : Fp) (m : MS) (hx : (f, m) ∈ L) : Calls Try.prog 25 #[.pointer (some ⟨f.gm, 0, none⟩)] wr fun x w' => ∃ f', x = .returned (.pointer (some ⟨f'.gm, 0, none⟩)) ∧ MA W w' (L ++ [(f', m)]) :=
  (clone_any wr f m (h.all _ hx).1).mono fun _ _ ⟨f', a, b⟩ => ⟨f', a, h.more b (h.all _ hx).2.1⟩
end
theorem MA.turn {W wr w' : World} {A B : List (Fp × MS)} {f : Fp} {m m' : MS} (h : MA W wr (A ++ (f, m) :: B)) (hb : ButL f.w wr w') (hm : Mem w' f m') (h4 : M4 m') : MA W w' (A ++ (f, m') :: B) := by
  have hlo := (h.all (f, m) (by simp)).2.2
  have hap := h.apart
  rw [List.pairwise_append] at hap
  obtain ⟨p1, p2, p3⟩ := hap
  rw [List.pairwise_cons] at p2
  refine ⟨h.below.trans (hb.below (fun k hk => hlo k (Fp.w_all' hk)) h.below.size), fun x hx => ?_, ?_⟩
  · rw [List.mem_append, List.mem_cons] at hx
    rcases hx with hx | rfl | hx
    · have a := h.all x (by simp [hx])
      exact ⟨a.1.frame hb (fun k hk hk' => p3 x hx (f, m) (by simp) k hk (Fp.w_all' hk')), a.2⟩
    · exact ⟨hm, h4, hlo⟩
    · have a := h.all x (by simp [hx])
      exact ⟨a.1.frame hb (fun k hk hk' => p2.1 x hx k (Fp.w_all' hk') hk), a.2⟩
  · rw [List.pairwise_append, List.pairwise_cons]
    refine ⟨p1, ⟨fun y hy => p2.1 y hy, p2.2⟩, fun x hx y hy => ?_⟩
    rw [List.mem_cons] at hy
    rcases hy with rfl | hy
    · exact p3 x hx (f, m) (by simp)
    · exact p3 x hx y (by simp [hy])
theorem ma_acted {W wr : World} {A B : List (Fp × MS)} {f : Fp} {m : MS} (h : MA W wr (A ++ (f, m) :: B)) (a : Ac) : Calls Try.prog 20 #[.pointer (some ⟨f.gm, 0, none⟩), .agg a.cs.toArray] wr fun x w' => x = .returned (.bool true) ∧ MA W w' (A ++ (f, m.act a) :: B) :=
  (acted_any wr f m (h.all (f, m) (by simp)).1 (h.all (f, m) (by simp)).2.1 a).mono fun _ _ ⟨x, b, c⟩ => ⟨x, h.turn c b ((h.all (f, m) (by simp)).2.1.act a)⟩
theorem m4_new' : M4 (MS.new 2 2) := ⟨rfl, by simp [MS.new], by show wrap64 0 = 0; exact wrap_in 0 (by omega)⟩
set_option maxRecDepth 40000 in
set_option maxHeartbeats 8000000 in
theorem apart_any (W : World) (a1 : Option Addr) (c1 : Nat) (x1 : List Ac) (h1 : AtA W a1 x1) (n1 : x1.length ≤ 140737488351232) (a2 : Option Addr) (c2 : Nat) (x2 : List Ac) (h2 : AtA W a2 x2) (n2 : x2.length ≤ 140737488351232) (a3 : Option Addr) (c3 : Nat) (x3 : List Ac) (h3 : AtA W a3 x3) (n3 : x3.length ≤ 140737488351232) :
    Calls Try.prog 5 #[.slice a1 x1.length c1, .slice a2 x2.length c2, .slice a3 x3.length c3] W fun x w' => x = .returned (.bool true) ∧ Below W.heap.size W w' := by
  have i1 : (x1.length : Int) ≤ 140737488351232 := by omega
  have i2 : (x2.length : Int) ≤ 140737488351232 := by omega
  have i3 : (x3.length : Int) ≤ 140737488351232 := by omega
  have HN2 : Hid (∀ x, Calls Try.prog 7 #[.int .i64 2, .int .i64 2] x fun y w' => ∃ f, y = .returned (.tuple #[ptr f.gm, .int .i64 0]) ∧ NewMem x w' f (MS.new 2 2)) := hid (fun x => new_any x 2 2 (by decide) (by decide) (by decide) (by decide))
  have A1 := hid h1
  have A2 := hid h2
  have A3 := hid h3
  clear h1 h2 h3 n1 n2 n3
  go_enter Try.func5, Try.ntmps5
  go_wp2_with fail
  refine (HN2.out _).mono ?_
  rintro x w1 ⟨f1, rfl, hm⟩
  have HM : Hid (MA W w1 [(f1, MS.new 2 2)]) := hid ⟨hm.below, fun x hx => by rw [List.mem_singleton] at hx; subst hx; exact ⟨hm.mem, m4_new', hm.new⟩, by simp⟩
  clear hm HN2
  simp only [ptr]
  go_wp2_with fail
  go_loopw [9] (fun v wr => ∃ (q : Nat) (m : MS), q ≤ x1.length ∧ q ≤ 60 ∧ v = .int .i64 (q : Int) ∧ Hid (MA W wr [(f1, m)])) (fun v _ => 60 - (intOf v).toNat)
  case atStart => exact ⟨0, MS.new 2 2, Nat.zero_le _, Nat.zero_le _, rfl, HM⟩
  case round =>
    obtain ⟨q, m1, hq1, hq2, rfl, HL⟩ := hrel
    clear HM
    have q2 : (q : Int) ≤ 60 := by omega
    by_cases hs : q < x1.length ∧ q < 60
    · obtain ⟨hs1, hs2⟩ := hs
      have e2 : (q : Int) < (x1.length : Int) := by omega
      have e3 : (q : Int) < 60 := by omega
      rcases A1.out with h | ⟨b, off, rfl, hb, hr⟩
      · rw [h] at hs1; simp at hs1
      have HR : Hid (wr.rangeAt b (off + q * 5) x1[q].cs) := hid (fun j v hv => by rw [(HL.out.below).cell (p := ⟨b, off + q * 5 + j, none⟩) hb]; exact hr q hs1 j v hv)
      have HAC := hid (ma_acted (A := []) (B := []) HL.out x1[q])
      have HCS : Hid (x1[q].cs.length = 5) := hid rfl
      clear hr
      generalize m1.act x1[q] = mm at *
      generalize x1[q].cs = acs at *
      go_wp2_with (first | (refine wpList_load_mid rfl 50 _ rfl b (off + q * 5) rfl acs _ HR.out under50' rfl (by rw [size50, HCS.out]) ?_))
      refine HAC.out.mono ?_
      rintro x w3 ⟨rfl, hm⟩
      have HM := hid hm
      clear hm HAC HL HR HCS
      go_wp2_with fail
      go_roundw
      case measure => simp [intOf] <;> omega
      case rel => exact ⟨q + 1, mm, by omega, by omega, by go_num, HM⟩
    · go_upto_region 5 with fail
      go_cut [32] from 25 to 32 (fun r w1 => w1 = wr ∧ r = .bool false)
      case first =>
        by_cases h1 : q < x1.length
        · have e2 : (q : Int) < (x1.length : Int) := by omega
          have e3 : ¬ (q : Int) < 60 := by omega
          go_wp2_with fail
          go_meet
          exact ⟨rfl, rfl⟩
        · have e2 : ¬ (q : Int) < (x1.length : Int) := by omega
          go_wp2_with fail
          go_meet
          exact ⟨rfl, rfl⟩
      case rest =>
        obtain ⟨rfl, rfl⟩ := hcut
        have HM := HL
        clear HL
        go_wp2_with fail
        refine (ma_clone HM.out f1 m1 (by simp)).mono ?_
        clear HM
        rintro x wk ⟨f2, rfl, hm⟩
        have HM := hid hm
        clear hm
        simp only [List.cons_append, List.nil_append] at HM
        go_wp2_with fail
        refine (ma_meter HM.out f2 m1 (by simp)).mono ?_
        clear HM
        rintro x wk ⟨rfl, hm⟩
        have HM := hid hm
        clear hm
        go_wp2_with fail
        refine (ma_meter HM.out f1 m1 (by simp)).mono ?_
        clear HM
        rintro x wk ⟨rfl, hm⟩
        have HM := hid hm
        clear hm
        go_wp2_with fail
        refine (ma_same HM.out f2 f1 m1 m1 (by simp) (by simp)).mono ?_
        clear HM
        rintro x wk ⟨rfl, hm⟩
        have HM := hid hm
        clear hm
        simp only [decide_true]
        go_wp2_with fail
        refine (ma_same HM.out f1 f2 m1 m1 (by simp) (by simp)).mono ?_
        clear HM
        rintro x wk ⟨rfl, hm⟩
        have HM := hid hm
        clear hm
        simp only [decide_true]
        go_wp2_with fail
        refine (ma_clone HM.out f1 m1 (by simp)).mono ?_
        clear HM
        rintro x wk ⟨f3, rfl, hm⟩
        have HM := hid hm
        clear hm
        simp only [List.cons_append, List.nil_append] at HM
        go_wp2_with fail
        go_loopw [12] (fun v wr => ∃ (q : Nat) (m : MS), q ≤ x2.length ∧ q ≤ 60 ∧ v = .int .i64 (q : Int) ∧ Hid (MA W wr [(f1, m1), (f2, m), (f3, m1)])) (fun v _ => 60 - (intOf v).toNat)
        case atStart => exact ⟨0, m1, Nat.zero_le _, Nat.zero_le _, rfl, HM⟩
        case round =>
          obtain ⟨q, m2, hq1, hq2, rfl, HL⟩ := hrel
          clear HM
          have q2 : (q : Int) ≤ 60 := by omega
          by_cases hs : q < x2.length ∧ q < 60
          · obtain ⟨hs1, hs2⟩ := hs
            have e2 : (q : Int) < (x2.length : Int) := by omega
            have e3 : (q : Int) < 60 := by omega
            rcases A2.out with h | ⟨b, off, rfl, hb, hr⟩
            · rw [h] at hs1; simp at hs1
            have HR : Hid (wr.rangeAt b (off + q * 5) x2[q].cs) := hid (fun j v hv => by rw [(HL.out.below).cell (p := ⟨b, off + q * 5 + j, none⟩) hb]; exact hr q hs1 j v hv)
            have HAC := hid (ma_acted (A := [(f1, m1)]) (B := [(f3, m1)]) HL.out x2[q])
            have HCS : Hid (x2[q].cs.length = 5) := hid rfl
            clear hr
            generalize m2.act x2[q] = mm at *
            generalize x2[q].cs = acs at *
            go_wp2_with (first | (refine wpList_load_mid rfl 50 _ rfl b (off + q * 5) rfl acs _ HR.out under50' rfl (by rw [size50, HCS.out]) ?_))
            refine HAC.out.mono ?_
            rintro x w3 ⟨rfl, hm⟩
            have HM := hid hm
            clear hm HAC HL HR HCS
            go_wp2_with fail
            go_roundw
            case measure => simp [intOf] <;> omega
            case rel => exact ⟨q + 1, mm, by omega, by omega, by go_num, HM⟩
          · go_upto_region 13 with fail
            go_cut [73] from 66 to 73 (fun r w1 => w1 = wr ∧ r = .bool false)
            case first =>
              by_cases h1 : q < x2.length
              · have e2 : (q : Int) < (x2.length : Int) := by omega
                have e3 : ¬ (q : Int) < 60 := by omega
                go_wp2_with fail
                go_meet
                exact ⟨rfl, rfl⟩
              · have e2 : ¬ (q : Int) < (x2.length : Int) := by omega
                go_wp2_with fail
                go_meet
                exact ⟨rfl, rfl⟩
            case rest =>
              obtain ⟨rfl, rfl⟩ := hcut
              have HM := HL
              clear HL
              go_wp2_with fail
              refine (ma_same HM.out f1 f3 m1 m1 (by simp) (by simp)).mono ?_
              clear HM
              rintro x wk ⟨rfl, hm⟩
              have HM := hid hm
              clear hm
              simp only [decide_true]
              go_wp2_with fail
              refine (ma_meter HM.out f1 m1 (by simp)).mono ?_
              clear HM
              rintro x wk ⟨rfl, hm⟩
              have HM := hid hm
              clear hm
              go_wp2_with fail
              refine (ma_meter HM.out f3 m1 (by simp)).mono ?_
              clear HM
              rintro x wk ⟨rfl, hm⟩
              have HM := hid hm
              clear hm
              go_wp2_with fail
              refine (ma_clone HM.out f2 m2 (by simp)).mono ?_
              clear HM
              rintro x wk ⟨f4, rfl, hm⟩
              have HM := hid hm
              clear hm
              simp only [List.cons_append, List.nil_append] at HM
              go_wp2_with fail
              go_loopw [14] (fun v wr => ∃ (q : Nat) (m : MS), q ≤ x3.length ∧ q ≤ 60 ∧ v = .int .i64 (q : Int) ∧ Hid (MA W wr [(f1, m), (f2, m2), (f3, m1), (f4, m2)])) (fun v _ => 60 - (intOf v).toNat)
              case atStart => exact ⟨0, m1, Nat.zero_le _, Nat.zero_le _, rfl, HM⟩
              case round =>
                obtain ⟨q, m3, hq1, hq2, rfl, HL⟩ := hrel
                clear HM
                have q2 : (q : Int) ≤ 60 := by omega
                by_cases hs : q < x3.length ∧ q < 60
                · obtain ⟨hs1, hs2⟩ := hs
                  have e2 : (q : Int) < (x3.length : Int) := by omega
                  have e3 : (q : Int) < 60 := by omega
                  rcases A3.out with h | ⟨b, off, rfl, hb, hr⟩
                  · rw [h] at hs1; simp at hs1
                  have HR : Hid (wr.rangeAt b (off + q * 5) x3[q].cs) := hid (fun j v hv => by rw [(HL.out.below).cell (p := ⟨b, off + q * 5 + j, none⟩) hb]; exact hr q hs1 j v hv)
                  have HAC := hid (ma_acted (A := []) (B := [(f2, m2), (f3, m1), (f4, m2)]) HL.out x3[q])
                  have HCS : Hid (x3[q].cs.length = 5) := hid rfl
                  clear hr
                  generalize m3.act x3[q] = mm at *
                  generalize x3[q].cs = acs at *
                  go_wp2_with (first | (refine wpList_load_mid rfl 50 _ rfl b (off + q * 5) rfl acs _ HR.out under50' rfl (by rw [size50, HCS.out]) ?_))
                  refine HAC.out.mono ?_
                  rintro x w3 ⟨rfl, hm⟩
                  have HM := hid hm
                  clear hm HAC HL HR HCS
                  go_wp2_with fail
                  go_roundw
                  case measure => simp [intOf] <;> omega
                  case rel => exact ⟨q + 1, mm, by omega, by omega, by go_num, HM⟩
                · go_upto_region 20 with fail
                  go_cut [106] from 99 to 106 (fun r w1 => w1 = wr ∧ r = .bool false)
                  case first =>
                    by_cases h1 : q < x3.length
                    · have e2 : (q : Int) < (x3.length : Int) := by omega
                      have e3 : ¬ (q : Int) < 60 := by omega
                      go_wp2_with fail
                      go_meet
                      exact ⟨rfl, rfl⟩
                    · have e2 : ¬ (q : Int) < (x3.length : Int) := by omega
                      go_wp2_with fail
                      go_meet
                      exact ⟨rfl, rfl⟩
                  case rest =>
                    obtain ⟨rfl, rfl⟩ := hcut
                    have HM := HL
                    clear HL
                    go_wp2_with fail
                    refine (ma_same HM.out f2 f4 m2 m2 (by simp) (by simp)).mono ?_
                    clear HM
                    rintro x wk ⟨rfl, hm⟩
                    have HM := hid hm
                    clear hm
                    simp only [decide_true]
                    go_wp2_with fail
                    refine (ma_meter HM.out f2 m2 (by simp)).mono ?_
                    clear HM
                    rintro x wk ⟨rfl, hm⟩
                    have HM := hid hm
                    clear hm
                    go_wp2_with fail
                    refine (ma_meter HM.out f4 m2 (by simp)).mono ?_
                    clear HM
                    rintro x wk ⟨rfl, hm⟩
                    have HM := hid hm
                    clear hm
                    go_wp2_with fail
                    refine (ma_same HM.out f1 f2 m3 m2 (by simp) (by simp)).mono ?_
                    clear HM
                    rintro x wk ⟨rfl, hm⟩
                    have HM := hid hm
                    clear hm
                    go_wp2_with fail
                    refine (ma_alike HM.out f1 f2 m3 m2 (by simp) (by simp)).mono ?_
                    clear HM
                    rintro x wk ⟨rfl, hm⟩
                    have HM := hid hm
                    clear hm
                    go_wp2_with fail
                    refine (ma_same HM.out f3 f1 m1 m3 (by simp) (by simp)).mono ?_
                    clear HM
                    rintro x wk ⟨rfl, hm⟩
                    have HM := hid hm
                    clear hm
                    go_wp2_with fail
                    refine (ma_alike HM.out f3 f1 m1 m3 (by simp) (by simp)).mono ?_
                    clear HM
                    rintro x wk ⟨rfl, hm⟩
                    have HM := hid hm
                    clear hm
                    go_wp2_with fail
                    go_ret
                    exact ⟨ret_bool (by simp), HM.out.below⟩
end Go.Proofs.Ytnmdhnbgikbpoaa
