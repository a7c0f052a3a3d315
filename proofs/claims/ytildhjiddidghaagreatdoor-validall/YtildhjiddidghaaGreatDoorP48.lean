import Derived.Test.YtildhjiddidghaaGreatDoorP47
import Derived.Test.YtildhjiddidghaaGreatDoorP31
import Derived.Test.YtildhjiddidghaaGreatDoorP34
namespace Go.Proofs.YtildhjiddidghaaGreatDoor
open Go.RowKit
set_option maxHeartbeats 8000000
set_option maxRecDepth 100000
theorem own_there {d : DS} (h : d.Ok) {k : Nat} (hk : k < d.m.ns) : d.there (d.at k).o = true ∧ d.ent (d.at k).o = d.ownr k := by
  obtain ⟨ho, hol⟩ := h.onat hk
  have : d.there (d.at k).o = true := by rw [ho]; unfold DS.there; simp; omega
  refine ⟨this, ?_⟩
  unfold DS.ent
  rw [if_pos this]
  rfl
theorem aliveN_d (W : World) (p : Rp) (d : DS) (h : RDB W p d) (k : Nat) (hk : k < d.m.ns) : Calls Tryz.prog 132 #[ptr p.g, .int .i64 (k : Int)] W fun e W' => e = .returned (.bool (d.alive k)) ∧ W = W' := by
  have hh := alive_d W p d h k hk
  obtain ⟨e1, e2⟩ := own_there h.ok hk
  rw [e1, e2, Bool.true_and] at hh
  exact hh
theorem isOwn_d (W : World) (p : Rp) (d : DS) (h : RDB W p d) (k : Nat) (hk : k < d.m.ns) : Calls Tryz.prog 127 #[ptr p.g, .int .i64 (d.at k).o, .int .i64 1] W fun e W' => e = .returned (.bool (d.hasSp k)) ∧ W = W' := by
  have hh := is_d W p d h (d.at k).o 1
  obtain ⟨e1, e2⟩ := own_there h.ok hk
  rw [e1, e2, Bool.true_and] at hh
  exact hh
theorem own_s {d : DS} (h : d.Ok) {k : Nat} (hk : k < d.m.ns) (hs : d.hasSp k = false) : (d.ownr k).s ≠ 1 := by
  obtain ⟨_, hol⟩ := h.onat hk
  have := (En.ok_iff _).1 (h.ok _ hol)
  have hn := this.ns
  unfold DS.hasSp DS.ownr at hs
  unfold DS.ownr
  generalize d.at (d.at k).o.toNat = X at *
  have ht : X.t ≠ 1 := by simpa using hs
  have := hn ht
  omega
theorem thread_d (w : World) (p : Rp) (d : DS) (h : RDB w p d) (k : Nat) (hk : k < d.m.ns) :
    Calls Tryz.prog 136 #[ptr p.g, .int .i64 (k : Int)] w fun e w' => e = .returned (.bool (d.thr k)) ∧ Below w.heap.size w w' := by
  have HV := hid h
  have HZr := hid (zero_d w p d h (k : Int) 18 1024 (by decide) (by decide))
  have HZ2 := hid (fun w h => zero_d w p d h (k : Int) 1 18 (by decide) (by decide))
  have HW := hid (fun w h off => word_d w p d h (k : Int) off)
  have HOw := hid (fun w h => isOwn_d w p d h k hk)
  have hoo := h.ok.onat hk
  have HC2 := hid (fun w (h : RDB w p d) => And.intro h.c1 (And.intro (h.row k hk).2.2.2.2 (And.intro (h.row k hk).2.1 (h.row _ hoo.2).2.2.2.1)))
  have HNs := hid (own_s h.ok hk)
  have HAt : Hid (∀ i, i < 17 → (u32s (d.wds (k : Int) 1 17))[i]? = some (.int .u32 (d.m.word true (k : Int) ((1 + i : Nat) : Int)))) := hid (fun i hi => by
    rw [u32s, List.getElem?_map, DS.wds, List.getElem?_map, List.getElem?_range hi]; rfl)
  have HD : Hid (d.thr k = (d.zr (k : Int) 18 1024 && (if (d.at k).e = true then R.gw (d.m.word true (k : Int) ((1 + 16 : Nat) : Int)) && ((d.ownr k).s != 1) else d.zr (k : Int) 1 18))) := hid rfl
  have HS := hid (fun j => wds_succ d (k : Int) 1 j)
  have HS0 : Hid (d.wds (k : Int) 1 0 = []) := hid rfl
  have HSl := hid (fun j => d.wds_len (k : Int) 1 j)
  have q1 : (k : Int) < (d.m.ns : Int) := by omega
  have q2 : ((d.at k).o.toNat : Int) < (d.m.ns : Int) := by omega
  have how : (d.at (d.at k).o.toNat).s = (d.ownr k).s := rfl
  simp only [how] at HC2
  rw [hoo.1] at HOw HC2
  simp only [Int.toNat_natCast] at HC2
  clear h hk hoo how
  simp only [ptr] at *
  generalize (d.at k).o.toNat = oo at *
  generalize d.thr k = z at *
  generalize d.zr (k : Int) 1 18 = y at *
  generalize (d.ownr k).s = s at *
  generalize d.hasSp k = sp at *
  generalize d.m.ns = n at *
  generalize (d.at k).e = en at *
  cases hz : d.zr (k : Int) 18 1024
  · rw [hz] at HZr
    rw [hz, Bool.false_and] at HD
    clear hz
    go_enter Tryz.func136, Tryz.ntmps136
    go_wp2_with (go_at_call 126; refine HZr.out.mono ?_; rintro e w1 ⟨rfl, hb⟩; have B1 := hid hb; clear hb)
    go_ret
    rw [HD.out]
    exact ⟨rfl, B1.out⟩
  · rw [hz] at HZr
    rw [hz, Bool.true_and] at HD
    clear hz
    cases en
    · rw [if_neg (by decide)] at HD
      go_enter Tryz.func136, Tryz.ntmps136
      go_upto_region 3 with (go_at_call 126; refine HZr.out.mono ?_; rintro e w1 ⟨rfl, hb⟩; have B1 := hid hb; obtain ⟨x2, x3, _, _⟩ := HC2.out _ (HV.out.on hb); clear hb)
      go_wp2_with (go_at_call 126; refine (HZ2.out _ (HV.out.on B1.out)).mono ?_; rintro e w2 ⟨rfl, hb⟩; have B2 := hid (below_on B1.out hb); clear hb)
      go_ret
      rw [HD.out]
      exact ⟨rfl, B2.out⟩
    · rw [if_pos rfl] at HD
      go_enter Tryz.func136, Tryz.ntmps136
      go_upto_region 3 with (go_at_call 126; refine HZr.out.mono ?_; rintro e w1 ⟨rfl, hb⟩; have B1 := hid hb; obtain ⟨x2, x3, _, _⟩ := HC2.out _ (HV.out.on hb); clear hb)
      go_upto_region 7 with fail
      clear x2 x3
      go_loopw [5, 6] (fun t i wr => ∃ (j : Nat) (T : Value), j ≤ 17 ∧ i = .int .i64 (j : Int) ∧ t = T ∧ Hid (Hl w wr T (d.wds (k : Int) 1 j))) (fun _ i _ => 17 - (intOf i).toNat)
      case atStart => exact ⟨0, _, Nat.zero_le _, rfl, rfl, hid (by rw [HS0.out]; exact ⟨World.ownsRow_nil _ _ _ _, B1.out⟩)⟩
      case round =>
        obtain ⟨j, T, hj, rfl, hT, HQ⟩ := hrel
        clear B1 HZr HZ2
        obtain ⟨ao, c, hv, hf⟩ := HQ.out.form
        subst hv
        subst hT
        have HFm := hid hf
        clear hf
        by_cases hlt : j < 17
        · have q3 : (j : Int) < 17 := by omega
          have kw : IntKind.wrap .i64 (1 + (j : Int)) = ((1 + j : Nat) : Int) := by rw [IntKind.wrap_i64]; omega
          have HJ := hid hlt
          have HWj := hid (HW.out · · ((1 + j : Nat) : Int))
          have HSj := hid (HS.out j)
          have HLj := hid (HSl.out j)
          clear hlt hj HFm HAt HD
          generalize d.m.word true (k : Int) ((1 + j : Nat) : Int) = u at *
          generalize ((1 + j : Nat) : Int) = lj at *
          generalize d.wds (k : Int) 1 j = A at *
          go_wp2_with (first | (go_at_call 156; refine (HWj.out _ (HV.out.on HQ.out.below)).mono ?_; rintro e w2 ⟨rfl, hb⟩; have HQ1 : Hid (Hl w (w2.alloc (.cells #[.int .u32 u] 22)) (.slice ao A.length c) A) := (hid ((HQ.out.on hb).on (below_one _ _))); clear hb) | (at_builtin; refine wpList_append_w (W := w) rfl _ _ rfl (.slice ao A.length c) A rfl HQ1.out ⟨w2.heap.size, 0, none⟩ 1 1 [u] rfl rfl (Cel.new w2 22 [.int .u32 u]).src (by have a := HLj.out; have b := HJ.out; omega) ?_; intro v' w' h' hgr; have HQ2 := hid h'; clear h' hgr))
          go_roundw
          case measure => have := HJ.out; simp [intOf] <;> omega
          case rel => exact ⟨j + 1, _, HJ.out, by simp, rfl, hid (by rw [HSj.out]; exact HQ2.out)⟩
        · have hjn : j = 17 := by omega
          subst hjn
          have hyl := HSl.out 17
          clear hlt hj HS HS0 HSl HW
          obtain ⟨g, rfl, _, hg, _, hcl⟩ := HFm.out (by omega)
          rw [hyl]
          have HUn : Hid (∃ f : R.F, Calls Tryz.prog 162 #[.slice (some ⟨g, 0, none⟩) 17 c] wr fun e W' => e = .returned (.tuple #[.agg f.cs.toArray, .int .i64 (if R.gw (d.m.word true (k : Int) ((1 + 16 : Nat) : Int)) = true then 0 else 80)]) ∧ Below wr.heap.size wr W') := hid (by
            have hu := R.runpack_yes wr g 0 c (fun i => d.m.word true (k : Int) ((1 + i : Nat) : Int)) ⟨hg, fun i hi => by rw [Nat.zero_add]; exact hcl i _ (HAt.out i hi)⟩
            unfold R.unpackV R.flaggedV at hu
            by_cases hg : R.gw (d.m.word true (k : Int) ((1 + 16 : Nat) : Int)) = true
            · rw [if_pos hg] at hu
              rw [if_pos hg]
              exact ⟨_, hu⟩
            · rw [if_neg hg] at hu
              rw [if_neg hg]
              exact ⟨_, hu⟩)
          obtain ⟨f, hf⟩ := HUn.out
          have HF := hid hf
          have HB := hid HQ.out.below
          clear hf HUn HQ HFm hcl hg hyl HAt
          generalize hG : R.gw (d.m.word true (k : Int) ((1 + 16 : Nat) : Int)) = G at *
          clear hG
          go_upto_region 11 with (first | (go_at_call 162; refine HF.out.mono ?_; rintro e w3 ⟨rfl, hb⟩; have B3 := hid (below_on HB.out hb); clear hb HF) | (refine wpList_store_st rfl 207 _ _ rfl w3.heap.size f.cs rfl rfl (Cel.new w3 207 [.int .u32 0, .int .u32 0, .int .u32 0, .int .u32 0, .int .u32 0, .int .u32 0, .int .u32 0, .int .u32 0, .int .u32 0, .int .u32 0, .int .u32 0, .int .u32 0, .int .u32 0, .int .u32 0, .int .u32 0, .int .u32 0, .bool false, .bool false, .bool false]) (by rw [R.size25, R.F.len]) (by rw [R.F.len]; rfl) f.all ?_; intro w4 hc hb hs; have B4 := hid (below_on B3.out ((below_one w3 _).trans (hb.below (B := w3.heap.size) (by simp) (by simp)))); clear hc hb hs))
          have HV4 := hid (HV.out.on B4.out)
          obtain ⟨x2, x3, x4, x5⟩ := HC2.out _ HV4.out
          cases G
          · rw [Bool.false_and] at HD
            simp only [Bool.false_eq_true, if_false]
            go_wp2_with fail
            go_ret
            rw [HD.out]
            exact ⟨rfl, B4.out⟩
          · rw [Bool.true_and] at HD
            simp only [if_true]
            cases sp
            · have HD2 : Hid (z = true) := hid (by rw [HD.out]; simpa using HNs.out rfl)
              go_wp2_with (go_at_call 127; refine (HOw.out _ HV4.out).mono ?_; rintro e wx ⟨rfl, hx⟩; subst wx)
              go_ret
              rw [HD2.out]
              exact ⟨rfl, B4.out⟩
            · go_wp2_with (go_at_call 127; refine (HOw.out _ HV4.out).mono ?_; rintro e wx ⟨rfl, hx⟩; subst wx)
              go_ret
              rw [HD.out]
              exact ⟨by simp [bne], B4.out⟩
end Go.Proofs.YtildhjiddidghaaGreatDoor
namespace Go.Proofs.YtildhjiddidghaaGreatDoor
open Go.RowKit
set_option maxHeartbeats 8000000
set_option maxRecDepth 100000
theorem nmd_pos {d : DS} {k q : Nat} : ∀ n, (∀ j, j < n → d.nm1 k j = true) → 0 < d.nmd k n q → d.isOf q 4 (d.at k).o = true
  | 0, _, h => absurd h (Nat.lt_irrefl 0)
  | n + 1, ha, h => by
    by_cases hc : pfE (d.w k n) = 0 ∧ (pf (d.w k n)).toNat = q
    · have := ha n (by omega)
      unfold DS.nm1 at this
      rw [hc.1, hc.2] at this
      simpa using this
    · unfold DS.nmd at h
      rw [if_neg hc] at h
      exact nmd_pos n (fun j hj => ha j (by omega)) h
theorem names_d (w : World) (p : Rp) (d : DS) (h : RDB w p d) (hu : d.m.U) (k : Nat) (hk : k < d.m.ns) :
    Calls Tryz.prog 133 #[ptr p.g, .int .i64 (k : Int)] w fun e w' => e = .returned (.bool (d.names k)) ∧ Below w.heap.size w w' := by
  have HV := hid h
  have HZr := hid (zero_d w p d h (k : Int) 256 1024 (by decide) (by decide))
  have HW : Hid (∀ w (j : Nat), RDB w p d → Calls Tryz.prog 156 #[ptr p.g, .int .i64 (k : Int), .int .i64 (j : Int)] w fun e w' => e = .returned (.int .u32 (d.w k j)) ∧ Below w.heap.size w w') := hid (fun w j h => word_d w p d h (k : Int) (j : Int))
  have HPf := hid (fun w j => rpf_any w (d.w k j))
  have HNat := hid (fun j => pf_nat (u := d.w k j) (hu.word true (k : Int) (j : Int)).1)
  have HI := hid (fun w h q => ofN_d w p d h q 4 (d.at k).o)
  have HC2 := hid (fun w (h : RDB w p d) => And.intro h.c1 (h.row k hk).2.1)
  have HN := hid (And.intro hk h.ok.n64)
  have HD : Hid (d.names k = (d.zr (k : Int) 256 1024 && ((List.range 256).all (d.nm1 k) && (List.range d.m.ns).all (d.nq k)))) := hid rfl
  have HA : Hid (∀ j, d.nm1 k j = ((pfE (d.w k j) == 92) || ((pfE (d.w k j) == 0) && d.isOf (pf (d.w k j)).toNat 4 (d.at k).o))) := hid (fun _ => rfl)
  have HB : Hid (∀ q, d.nq k q = !(d.isOf q 4 (d.at k).o && (d.nmd k 256 q != 1))) := hid (fun _ => rfl)
  have HLt := hid (fun q => @isOf_lt d q 4 (d.at k).o)
  have HL0 := hid (nmL_zero d k)
  have HLs := hid (fun j => @nmL_skip d k j)
  have HLh := hid (fun j q => @nmL_hit d k j q)
  have HLa := hid (fun j q hq => ints_at _ q _ (nmL_at d k j q hq))
  have HLe := hid (fun q j => nmd_le d k q j)
  have HNP := hid (fun q => @nmd_pos d k q 256)
  have q1 : (k : Int) < (d.m.ns : Int) := by omega
  clear h hu hk
  simp only [ptr] at *
  generalize d.names k = z at *
  generalize hA : d.nm1 k = A at *
  generalize hB : d.nq k = B at *
  clear hA hB
  generalize (d.at k).o = ow at *
  cases hz : d.zr (k : Int) 256 1024
  · rw [hz] at HZr
    rw [hz, Bool.false_and] at HD
    clear hz
    go_enter Tryz.func133, Tryz.ntmps133
    go_wp2_with (go_at_call 126; refine HZr.out.mono ?_; rintro e w1 ⟨rfl, hb⟩; have B1 := hid hb; clear hb)
    go_ret
    rw [HD.out]
    exact ⟨rfl, B1.out⟩
  · rw [hz] at HZr
    rw [hz, Bool.true_and] at HD
    clear hz
    generalize hn : d.m.ns = n at *
    clear hn
    go_enter Tryz.func133, Tryz.ntmps133
    go_upto_region 3 with (go_at_call 126; refine HZr.out.mono ?_; rintro e w1 ⟨rfl, hb⟩; have B1 := hid hb; clear hb)
    obtain ⟨x2, x3⟩ := HC2.out _ (HV.out.on B1.out)
    go_upto_region 5 with (at_make; refine wpList_make_cel rfl _ _ 96 3 rfl (.int .i64 0) 8 under96 info3 rfl n _ _ rfl rfl rfl rfl (by have := HN.out; omega) (by have := HN.out; omega) ?_; intro w2 hc hb hs; have C2 := hid (And.intro hc (And.intro (below_on B1.out hb) B1.out.size)); clear hc hb hs)
    clear x2 x3
    generalize w1.heap.size = gN at *
    have HNE := hid C2.out.2.2
    go_upto_region 6 with fail
    go_loopw [7] (fun i wr => ∃ j : Nat, j ≤ 256 ∧ i = .int .i64 (j : Int) ∧ Hid (Cel wr gN 3 (ints (d.nmL k j)) ∧ Below w.heap.size w wr ∧ ∀ q, q < j → A q = true)) (fun i _ => 256 - (intOf i).toNat)
    case atStart => exact ⟨0, Nat.zero_le _, rfl, hid ⟨by rw [HL0.out]; exact C2.out.1, C2.out.2.1, by intro q hq; omega⟩⟩
    case round =>
      obtain ⟨j, hj, rfl, HQ⟩ := hrel
      clear C2 B1
      by_cases hlt : j < 256
      · have q2 : (j : Int) < 256 := by omega
        have HWj := hid (HW.out · j ·)
        have HPj := hid (HPf.out · j)
        have HNj := HNat.out j
        have HAj := hid (HA.out j)
        have hE0 : d.w k j = 0 → pfE (d.w k j) = 92 := fun e => by rw [e]; rfl
        have hE1 : d.w k j ≠ 0 → pfE (d.w k j) = 0 ∨ pfE (d.w k j) = 90 := fun e => by
          unfold pfE
          rw [if_neg e]
          split
          · exact .inl rfl
          · exact .inr rfl
        have HJ := hid hlt
        have HVj := hid (HV.out.on HQ.out.2.1)
        have HSj := hid (HLs.out j)
        have HHj := hid (HLh.out j)
        clear hlt hj
        generalize pfE (d.w k j) = E at *
        generalize hM : pf (d.w k j) = M at *
        clear hM
        generalize d.w k j = u at *
        obtain ⟨pn, hpn⟩ : ∃ pn, M.toNat = pn := ⟨_, rfl⟩
        rw [hpn] at HNj HAj HHj
        rw [HNj] at HPj
        clear HNj hpn
        by_cases hu0 : u = 0
        · obtain rfl := hE0 hu0
          subst hu0
          have hA : A j = true := by rw [HAj.out]; rfl
          have HAt2 := hid hA
          have HSt := hid (HSj.out (by decide))
          clear hA hE0 hE1
          go_wp2_with (go_at_call 156; refine (HWj.out _ HVj.out).mono ?_; rintro e w3 ⟨rfl, hb⟩; have C3 := hid (And.intro (HQ.out.1.on hb) (below_on HQ.out.2.1 hb)); clear hb)
          go_roundw
          case measure => have := HJ.out; simp [intOf] <;> omega
          case rel => exact ⟨j + 1, HJ.out, by simp, hid ⟨by rw [HSt.out]; exact C3.out.1, C3.out.2, fun q hq => by
            by_cases e : q = j
            · rw [e]; exact HAt2.out
            · exact HQ.out.2.2 q (by omega)⟩⟩
        · have hu1 : (u == 0) = false := by simpa using hu0
          have hE := hE1 hu0
          clear hE0 hE1 hu0
          rcases hE with rfl | rfl
          · have HAj2 : Hid (A j = d.isOf pn 4 ow) := hid (by rw [HAj.out]; simp)
            have HIj := hid (HI.out · · pn)
            cases hy : d.isOf pn 4 ow
            · rw [hy] at HIj HAj2
              clear hy
              go_wp2_with (first | (go_at_call 156; refine (HWj.out _ HVj.out).mono ?_; rintro e w3 ⟨rfl, hb⟩; have C3 := hid (And.intro (HQ.out.1.on hb) (And.intro (below_on HQ.out.2.1 hb) (HVj.out.on hb))); clear hb) | (go_at_call 159; refine (HPj.out _).mono ?_; rintro e wx ⟨rfl, hw⟩; subst wx) | (go_at_call 158; refine (HIj.out _ C3.out.2.2).mono ?_; rintro e wx ⟨rfl, hw⟩; subst wx))
              go_ret
              rw [HD.out, all_no HJ.out HAj2.out]
              exact ⟨rfl, C3.out.2.1⟩
            · have hpn := HLt.out pn hy
              rw [hy] at HIj HAj2
              clear hy
              have HS := hid (HHj.out pn rfl rfl hpn)
              have HY0 : Hid (∀ w', Cel w' gN 3 (ints (d.nmL k j)) → w'.cell? ⟨gN, pn, none⟩ = some (.int .i64 (d.nmd k j pn : Int))) := hid (fun w' hc => by rw [hc.cell]; exact HLa.out j pn hpn)
              have hle := HLe.out pn j
              have hj6 := HJ.out
              have q4 : (pn : Int) < (n : Int) := by omega
              have q5 : (d.nmd k j pn : Int) ≤ 256 := by omega
              have HC5 : Hid (∀ w', Cel w' gN 3 (ints (d.nmL k j)) → Cel (w'.setCell ⟨gN, pn, none⟩ (.int .i64 ((d.nmd k j pn : Int) + 1))) gN 3 (ints (d.nmL k (j + 1)))) := hid (fun w' hc => by
                have := hc.setCell pn (.int .i64 ((d.nmd k j pn + 1 : Nat) : Int))
                rw [ints_set, ← HS.out] at this
                exact this)
              clear hle hj6 hpn
              generalize d.nmd k j pn = a at *
              go_wp2_with (first | (go_at_call 156; refine (HWj.out _ HVj.out).mono ?_; rintro e w3 ⟨rfl, hb⟩; have C3 := hid (And.intro (HQ.out.1.on hb) (And.intro (below_on HQ.out.2.1 hb) (HVj.out.on hb))); have y0 := HY0.out _ C3.out.1; have y1 := C3.out.1.free pn; clear hb) | (go_at_call 159; refine (HPj.out _).mono ?_; rintro e wx ⟨rfl, hw⟩; subst wx) | (go_at_call 158; refine (HIj.out _ C3.out.2.2).mono ?_; rintro e wx ⟨rfl, hw⟩; subst wx))
              go_roundw
              case measure => have := HJ.out; simp [intOf] <;> omega
              case rel => exact ⟨j + 1, HJ.out, by simp, hid ⟨HC5.out _ C3.out.1, C3.out.2.1.trans ((ButL.setCell _ gN pn _ (by simp : gN ∈ [gN])).below (B := w.heap.size) (fun q hq => by rw [List.mem_singleton] at hq; have := HNE.out; omega) C3.out.2.1.size), fun q hq => by
                by_cases e : q = j
                · rw [e]; exact HAj2.out
                · exact HQ.out.2.2 q (by omega)⟩⟩
          · have HAj2 : Hid (A j = false) := hid (by rw [HAj.out]; simp)
            go_wp2_with (first | (go_at_call 156; refine (HWj.out _ HVj.out).mono ?_; rintro e w3 ⟨rfl, hb⟩; have C3 := hid (below_on HQ.out.2.1 hb); clear hb) | (go_at_call 159; refine (HPj.out _).mono ?_; rintro e wx ⟨rfl, hw⟩; subst wx))
            go_ret
            rw [HD.out, all_no HJ.out HAj2.out]
            exact ⟨rfl, C3.out⟩
      · have hj4 : j = 256 := by omega
        subst hj4
        clear hlt hj
        rw [all_yes HQ.out.2.2, Bool.true_and] at HD
        have HNQ := hid (fun q => HNP.out q HQ.out.2.2)
        have HQ0 := hid (And.intro HQ.out.1 HQ.out.2.1)
        clear HQ HNP
        go_upto_region 15 with fail
        go_loopw [11] (fun i w' => ∃ q : Nat, q ≤ n ∧ i = .int .i64 (q : Int) ∧ w' = wr ∧ Hid (∀ r, r < q → B r = true)) (fun i _ => n - (intOf i).toNat)
        case atStart => exact ⟨0, Nat.zero_le _, rfl, rfl, hid (by intro r hr; omega)⟩
        case round =>
          obtain ⟨q, hq, rfl, hw', HQ2⟩ := hrel
          subst hw'
          have HVq := hid (HV.out.on HQ0.out.2)
          obtain ⟨x2, x3⟩ := HC2.out _ HVq.out
          have hnn := HN.out
          by_cases hlt : q < n
          · have q2 : (q : Int) < (n : Int) := by omega
            have q3 : (q : Int) ≤ 64 := by omega
            have y0 : World.cell? _ ⟨gN, q, none⟩ = some (.int .i64 (d.nmd k 256 q : Int)) := (HQ0.out.1.cell q).trans (HLa.out 256 q hlt)
            have HJ := hid hlt
            have HIq := hid (HI.out _ HVq.out q)
            have HBq := hid (HB.out q)
            have HPq := hid (HNQ.out q)
            clear hlt hq hnn x3
            generalize d.nmd k 256 q = a at *
            generalize d.isOf q 4 ow = y at *
            by_cases h1 : 1 < a
            · have h1' : 1 < (a : Int) := by omega
              have HBf : Hid (B q = false) := hid (by rw [HBq.out, HPq.out (by omega)]; simp; omega)
              clear h1
              go_wp2_with fail
              go_ret
              rw [HD.out, all_no HJ.out HBf.out]
              exact ⟨rfl, HQ0.out.2⟩
            · have h1' : ¬ (1 < (a : Int)) := by omega
              cases y
              · have HBt : Hid (B q = true) := hid (by rw [HBq.out]; rfl)
                clear h1
                go_wp2_with (go_at_call 158; refine HIq.out.mono ?_; rintro e wx ⟨rfl, hw⟩; subst wx)
                go_roundw
                case measure => have := HJ.out; simp [intOf] <;> omega
                case rel => refine ⟨_, _, _, _, _, _, _, _, _, _, _, _, _, _, _, _, _, _, _, _, _, _, _, _, _, _, _, _, _, ?_, rfl⟩; exact ⟨q + 1, HJ.out, by simp, trivial, hid (fun r hr => by
                  by_cases e : r = q
                  · rw [e]; exact HBt.out
                  · exact HQ2.out r (by omega))⟩
              · by_cases h0 : a = 0
                · subst h0
                  have HBf : Hid (B q = false) := hid (by rw [HBq.out]; rfl)
                  clear h1
                  go_wp2_with (go_at_call 158; refine HIq.out.mono ?_; rintro e wx ⟨rfl, hw⟩; subst wx)
                  go_ret
                  rw [HD.out, all_no HJ.out HBf.out]
                  exact ⟨rfl, HQ0.out.2⟩
                · obtain rfl : a = 1 := by omega
                  have HBt : Hid (B q = true) := hid (by rw [HBq.out]; rfl)
                  clear h1 h0
                  go_wp2_with (go_at_call 158; refine HIq.out.mono ?_; rintro e wx ⟨rfl, hw⟩; subst wx)
                  go_roundw
                  case measure => have := HJ.out; simp [intOf] <;> omega
                  case rel => refine ⟨_, _, _, _, _, _, _, _, _, _, _, _, _, _, _, _, _, _, _, _, _, _, _, _, _, _, _, _, _, ?_, rfl⟩; exact ⟨q + 1, HJ.out, by simp, trivial, hid (fun r hr => by
                    by_cases e : r = q
                    · rw [e]; exact HBt.out
                    · exact HQ2.out r (by omega))⟩
          · have hqn : q = n := by omega
            subst hqn
            clear hlt hq hnn x3
            rw [all_yes HQ2.out] at HD
            go_wp2_with fail
            go_ret
            rw [HD.out]
            exact ⟨rfl, HQ0.out.2⟩
end Go.Proofs.YtildhjiddidghaaGreatDoor
namespace Go.Proofs.YtildhjiddidghaaGreatDoor
open Go.RowKit
set_option maxHeartbeats 4000000
set_option maxRecDepth 100000
structure Hn (W wr : World) (v : Value) (L : List Nat) : Prop where
  own : wr.ownsRow W.heap.size 3 1 v L.length (ints L)
  below : Below W.heap.size W wr
theorem Hn.start (W : World) : Hn W W (.slice none 0 0) [] := ⟨World.ownsRow_nil _ _ _ _, Below.refl _ _⟩
theorem Hn.on {W w w' : World} {v : Value} {L : List Nat} (h : Hn W w v L) (hb : Below w.heap.size w w') : Hn W w' v L :=
  ⟨⟨h.own.1, h.own.2.imp id fun ⟨g, cap, cur, hv, hB, hg, r⟩ => ⟨g, cap, cur, hv, hB, (hb.block g (Array.getElem?_eq_some_iff.1 hg).1).trans hg, r⟩⟩, below_on h.below hb⟩
theorem Hn.form {W w : World} {v : Value} {L : List Nat} (h : Hn W w v L) : ∃ ao c, v = .slice ao L.length c := by
  rcases h.own.2 with ⟨hv, h0⟩ | ⟨g, cap, cur, hv, r⟩
  · exact ⟨none, 0, by rw [hv, h0]⟩
  · exact ⟨_, cap, hv⟩
theorem wpList_append_n {W w : World} {ops : Array Oper} {rest : List Oper} {o : Oper} {a : Act} {Q : Exit → Act → World → Prop} (hgd : o.guard = none) (s x : Operand)
    (ho : o.op = .call { callee := .builtin .append, args := #[s, x], argTypes := #[96, 96] }) (v : Value) (L : List Nat) (hs : a.eval s = v) (H : Hn W w v L) (ad : Addr) (c k : Nat) (hx : a.eval x = .slice (some ad) 1 c)
    (hsrc : ∀ j u, [Value.int .i64 (k : Int)][j]? = some u → w.cell? (ad.add j) = some u) (hbytes : (L.length + 1) * 8 ≤ 140737488355328)
    (h : ∀ v' w', Hn W w' v' (L ++ [k]) → wpList Tryz.prog ops Q rest (a.put o.dst v') w') : wpList Tryz.prog ops Q (o :: rest) a w := by
  obtain ⟨i, hi, hz, hsize, hby⟩ := info_parts info3
  obtain ⟨v', w', hr, h1, h2, _⟩ := run_append_own (P := Tryz.prog) w W.heap.size 96 o.type 3 i (.int .i64 0) 1 8 under45 hi hz hsize hby rfl (by decide) v L.length _ H.own ad 1 c [.int .i64 (k : Int)] rfl hsrc (by intro u hu; rw [List.mem_singleton] at hu; subst hu; rfl) (by unfold maxLen; omega) hbytes H.below.size
  have hH : Hn W w' v' (L ++ [k]) := ⟨by rw [List.length_append, ints_snoc]; exact h1, H.below.grown h2 H.below.size (fun g hg => (H.own.lt g hg).1)⟩
  refine wpList_plain hgd fun K hK => ?_
  unfold Oper.wp execOp
  simp only [ho, resolve, invoke, builtin, Sem.run_bind, Sem.run_pure, Result.andThen_ok, List.map_toArray, List.map_cons, List.map_nil, hs, hx, hr]
  exact hK _ _ (h _ _ hH)
theorem rowned_any (W : World) (p : Rp) (d : DS) (h : RDB W p d) (s : Int) :
    Calls Tryz.prog 128 #[ptr p.g, .int .i64 s] W fun x W' => ∃ v, x = .returned v ∧ Hn W W' v (d.owned s) := by
  unfold DS.owned
  have c1 := h.c1
  by_cases hs : d.there s = true
  · obtain ⟨s0, s1, es⟩ := there_lt hs
    have s2 : s < (d.m.ns : Int) := by omega
    obtain ⟨x0, _, _, _, _⟩ := h.row s.toNat s1
    rw [← ent_at hs] at x0
    by_cases ht : (d.ent s).t = 1
    · rw [if_pos ht]
      rw [ht] at x0
      have HW := hid h
      have HN : Hid (d.m.ns ≤ 64) := hid h.ok.n64
      have HR := hid (fun w (hw : RDB w p d) k hk => And.intro hw.c1 (And.intro (hw.row k hk).1 (hw.row k hk).2.1))
      have HC := hid (fun w (hw : RDB w p d) => hw.c1)
      generalize hF : (fun k : Nat => isO s (k : Int) (d.at k)) = F
      have HF : Hid (∀ k, F k = ((k : Int) != s && ((d.at k).o == s && (d.at k).t != 0))) := hid (fun k => by rw [← hF]; rfl)
      clear h hF hs ht
      generalize s.toNat = q at *
      subst es
      generalize d.m.ns = n at *
      simp only [ptr] at *
      have HS0 := hid (Hn.start W)
      go_enter Tryz.func128, Tryz.ntmps128
      go_wp2_with fail
      clear x0 c1
      have z1 : decide (n ≤ q) = false := by simpa using s1
      have z2 : decide ((q : Int) < 0) = false := by simp
      simp only [z1, z2, Bool.or_self]
      clear z1 z2
      go_loopw [5, 6] (fun l i wr => ∃ j : Nat, j ≤ n ∧ i = .int .i64 (j : Int) ∧ Hid (Hn W wr l (lstN F j))) (fun _ i _ => n - (intOf i).toNat)
      case atStart => exact ⟨0, Nat.zero_le _, rfl, HS0⟩
      case round =>
        obtain ⟨j, hj, rfl, HQ⟩ := hrel
        clear HS0
        by_cases hlt : j < n
        · have q1 : (j : Int) < (n : Int) := by omega
          obtain ⟨c1, x0, x1⟩ := HR.out _ (HW.out.on HQ.out.below) j hlt
          have hfj := HF.out j
          have HJ := hid hlt
          have hn64 := HN.out
          have j64 : (j : Int) ≤ 64 := by omega
          have HS : Hid (lstN F (j + 1) = lstN F j ++ (if F j = true then [j] else [])) := hid rfl
          generalize d.at j = D at *
          obtain ⟨ao, cc, hvf⟩ := HQ.out.form
          have hll := lstN_len F j
          subst hvf
          by_cases e1 : j = q
          · subst e1
            have : F j = false := by rw [hfj]; simp
            rw [this, if_neg (by decide), List.append_nil] at HS
            clear hfj this hll hn64 hlt hj
            generalize lstN F j = LL at *
            go_wp2_with fail
            go_roundw
            case measure => have := HJ.out; simp [intOf] <;> omega
            case rel => exact ⟨j + 1, HJ.out, by simp, by rw [HS.out]; exact HQ⟩
          · have e1' : ((j : Int) != (q : Int)) = true := by rw [bne_iff_ne]; omega
            by_cases e2 : D.t = 0
            · have : F j = false := by rw [hfj, e2]; simp
              rw [this, if_neg (by decide), List.append_nil] at HS
              rw [e2] at x0
              clear hfj this hll hn64 hlt hj e1 e2
              generalize lstN F j = LL at *
              go_wp2_with fail
              go_roundw
              case measure => have := HJ.out; simp [intOf] <;> omega
              case rel => exact ⟨j + 1, HJ.out, by simp, by rw [HS.out]; exact HQ⟩
            · have e2' : (D.t != 0) = true := by simpa using e2
              by_cases e3 : D.o = (q : Int)
              · have : F j = true := by rw [hfj, e1', e2', e3]; simp
                rw [this, if_pos rfl] at HS
                have HQ1 := hid (HQ.out.on (below_one wr (.cells #[.int .i64 (j : Int)] 3)))
                have hby : ((lstN F j).length + 1) * 8 ≤ 140737488355328 := by omega
                rw [e3] at x1
                clear hfj this hll hn64 hlt hj e1 e2 e3
                generalize lstN F j = LL at *
                go_wp2_with (at_builtin; refine wpList_append_n (W := W) rfl _ _ rfl (.slice ao LL.length cc) LL rfl HQ1.out ⟨wr.heap.size, 0, none⟩ 1 j rfl (Cel.new wr 3 [.int .i64 (j : Int)]).src hby ?_; intro v' w2 H2; obtain ⟨ao2, cc2, rfl⟩ := H2.form; have HN2 := hid H2; clear H2)
                go_roundw
                case measure => have := HJ.out; simp [intOf] <;> omega
                case rel => exact ⟨j + 1, HJ.out, by simp, by rw [HS.out]; have h9 := HN2.out; rw [List.length_append] at h9; exact hid h9⟩
              · have e3' : (D.o == (q : Int)) = false := by simpa using e3
                have : F j = false := by rw [hfj, e3']; simp
                rw [this, if_neg (by decide), List.append_nil] at HS
                clear hfj this hll hn64 hlt hj e1 e2 e3
                generalize lstN F j = LL at *
                go_wp2_with fail
                go_roundw
                case measure => have := HJ.out; simp [intOf] <;> omega
                case rel => exact ⟨j + 1, HJ.out, by simp, by rw [HS.out]; exact HQ⟩
        · have hjn : j = n := by omega
          subst hjn
          have c1 := HC.out _ (HW.out.on HQ.out.below)
          go_wp2_with fail
          go_ret
          exact ⟨_, rfl, HQ.out⟩
    · rw [if_neg ht]
      have ht' : ((d.ent s).t != 1) = true := by simpa using ht
      have ht'' : ((d.ent s).t == 1) = false := by simpa using ht
      have HS0 := hid (Hn.start W)
      generalize d.ent s = D at *
      clear h hs ht
      generalize s.toNat = q at *
      subst es
      generalize d.m.ns = n at *
      simp only [ptr] at *
      go_enter Tryz.func128, Tryz.ntmps128
      go_wp2_with fail
      go_ret
      exact ⟨_, rfl, HS0.out⟩
  · have hs' : d.there s = false := by simpa using hs
    have e0 : (d.ent s).t ≠ 1 := by rw [DS.ent_no hs']; decide
    rw [if_neg e0]
    have HS0 := hid (Hn.start W)
    rcases there_cases hs' with hc | ⟨h0, hc⟩
    · clear h hs hs' e0
      generalize d.m.ns = n at *
      simp only [ptr] at *
      go_enter Tryz.func128, Tryz.ntmps128
      go_wp2_with fail
      go_ret
      exact ⟨_, rfl, HS0.out⟩
    · clear h hs hs' e0
      generalize d.m.ns = n at *
      simp only [ptr] at *
      go_enter Tryz.func128, Tryz.ntmps128
      go_wp2_with fail
      go_ret
      exact ⟨_, rfl, HS0.out⟩
end Go.Proofs.YtildhjiddidghaaGreatDoor
