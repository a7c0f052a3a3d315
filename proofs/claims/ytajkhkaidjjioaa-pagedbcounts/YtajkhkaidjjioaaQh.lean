/- The law's sums 25. -/
import Derived.Test.YtajkhkaidjjioaaQg
namespace Go.Proofs.Ytajkhkaidjjioaa
open Go.RowKit
set_option maxHeartbeats 4000000
set_option maxRecDepth 100000
theorem own_cel {w : World} {B : Nat} {v : Value} {A : List Nat} (h : w.ownsRow B 3 1 v A.length (ints A)) : ∃ ao cap, v = .slice ao A.length cap ∧ (0 < A.length → ∃ gl cs, ao = some ⟨gl, 0, none⟩ ∧ Cel w gl 3 cs ∧ B ≤ gl ∧ ∀ (j : Nat) (u : Value), (ints A)[j]? = some u → cs[j]? = some u) := by
  rcases h.2 with ⟨hv, h0⟩ | ⟨g, cap, cur, hv, hB, hg, r⟩
  · exact ⟨none, 0, by rw [hv, h0], fun hp => by omega⟩
  · have hc : Cel w g 3 cur.toList := by unfold Cel; rw [hg]
    refine ⟨some ⟨g, 0, none⟩, cap, hv, fun _ => ⟨g, cur.toList, rfl, hc, hB, fun j u hu => ?_⟩⟩
    have := h.cells (g := g) (by rw [hv]; rfl) j u hu
    rw [Addr.add_mid, Nat.zero_add, hc.cell] at this
    exact this
/-- A database that is looked at, and a bag of the call's own. -/
structure DQ (W x : World) (p : Dp) (d : DS) (L : List (Nat × TypeId × List Value)) : Prop where
  db : DB x p d
  bag : Bag W x L
theorem DQ.on {W x x' : World} {p : Dp} {d : DS} {L : List (Nat × TypeId × List Value)} (h : DQ W x p d L) (hb : Below x.heap.size x x') : DQ W x' p d L := ⟨h.db.on hb, h.bag.on hb⟩
theorem DQ.add {W x x2 : World} {p : Dp} {d : DS} {L : List (Nat × TypeId × List Value)} {u : TypeId} {ds es : List Value} (h : DQ W x p d L) (hc : Cel x2 x.heap.size u es) (hb : ButL [x.heap.size] (x.alloc (.cells ds.toArray u)) x2) : DQ W x2 p d ((x.heap.size, u, es) :: L) :=
  ⟨(h.db.on (below_one x (.cells ds.toArray u))).frame hb (fun k hk hm => by rw [List.mem_singleton] at hm; have := h.db.lt k hk; omega), h.bag.add hc hb⟩
theorem lstN_mem (f : Nat → Bool) (n : Nat) : ∀ x ∈ lstN f n, x < n ∧ f x = true := by
  induction n with
  | zero => intro x hx; cases hx
  | succ n ih =>
    intro x hx
    rw [lstN, List.mem_append] at hx
    rcases hx with hx | hx
    · have := ih x hx; exact ⟨by omega, this.2⟩
    · split at hx
      · rename_i hf; rw [List.mem_singleton] at hx; subst hx; exact ⟨by omega, hf⟩
      · cases hx
theorem lstN_sorted (f : Nat → Bool) (n : Nat) : (lstN f n).Pairwise (· < ·) := by
  induction n with
  | zero => exact List.Pairwise.nil
  | succ n ih =>
    rw [lstN, List.pairwise_append]
    refine ⟨ih, ?_, fun a ha b hb => ?_⟩
    · split
      · exact List.pairwise_singleton _ _
      · exact List.Pairwise.nil
    · split at hb
      · rw [List.mem_singleton] at hb; subst hb; exact (lstN_mem f b a ha).1
      · cases hb
/-- What is asked of the list of a space's pages. -/
theorem owned_is {d : DS} {k : Nat} {x : Nat} (hk : k < d.m.ns) (i : Nat) (hx : (d.owned (k : Int))[i]? = some x) : x < d.m.ns ∧ x ≠ k ∧ (d.at x).o = (k : Int) ∧ (d.at x).t ≠ 0 ∧ (d.at k).t = 1 := by
  have hm := List.mem_of_getElem? hx
  unfold DS.owned at hm
  split at hm
  · rename_i ht
    have h1 := lstN_mem _ _ x hm
    have h2 := (isO_iff _ _ _).1 h1.2
    have htr : d.there (k : Int) = true := decide_eq_true ⟨by omega, by omega⟩
    rw [ent_at htr, Int.toNat_natCast] at ht
    exact ⟨h1.1, by omega, h2.2.1, h2.2.2, ht⟩
  · cases hm
theorem owned_up {d : DS} {s : Int} (i : Nat) {x y : Nat} (hy : (d.owned s)[i]? = some y) (hx : (d.owned s)[i + 1]? = some x) : y < x := by
  have hp : (d.owned s).Pairwise (· < ·) := by
    unfold DS.owned
    split
    · exact lstN_sorted _ _
    · exact List.Pairwise.nil
  obtain ⟨h1, h2⟩ := List.getElem?_eq_some_iff.1 hy
  obtain ⟨h3, h4⟩ := List.getElem?_eq_some_iff.1 hx
  have := List.pairwise_iff_getElem.1 hp i (i + 1) h1 h3 (by omega)
  rw [h2, h4] at this
  exact this
theorem owned_len {d : DS} {k : Nat} (hk : k < d.m.ns) : (d.owned (k : Int)).length = if spc (d.at k) = true then cntN (fun j => isO (k : Int) (j : Int) (d.at j)) d.m.ns else 0 := by
  have htr : d.there (k : Int) = true := decide_eq_true ⟨by omega, by omega⟩
  unfold DS.owned
  rw [ent_at htr, Int.toNat_natCast]
  by_cases e : (d.at k).t = 1
  · rw [if_pos e, if_pos (by simp [spc, e]), lstN_cnt]
  · rw [if_neg e, if_neg (by simp [spc, e])]; rfl
theorem free_zero {x : En} (h : x.ok = true) (ht : x.t = 0) : x = En.zero := by
  have hk := (En.ok_iff x).1 h
  obtain ⟨t, o, r, s, e⟩ := x
  simp only at ht
  subst ht
  have h1 := hk.z rfl
  have h2 := hk.ns (by simp)
  have h3 : e = false := by
    cases e
    · rfl
    · have := hk.en rfl; cases this
  simp only at h1 h2
  rw [h1, h2.1, h2.2, h3]
  rfl
def sumG (d : DS) (p : Nat) : Nat := if spc (d.at p) = true then 1 + (d.owned (p : Int)).length else 0
theorem sums_eq {d : DS} (h : InvF d.at d.m.ns) : cntN (fun k => isF (d.at k)) d.m.ns + sumN (sumG d) d.m.ns = d.m.ns := by
  have := sums_all h
  rw [sumN_ext (g := sumG d)] at this
  · exact this
  · intro p hp
    unfold sumG
    rw [owned_len hp]
    cases spc (d.at p) <;> rfl
theorem sumN_le {f : Nat → Nat} {n m : Nat} (h : n ≤ m) : sumN f n ≤ sumN f m := by
  induction m with
  | zero => have : n = 0 := by omega
            subst this; exact Nat.le_refl _
  | succ m ih =>
    by_cases e : n = m + 1
    · subst e; exact Nat.le_refl _
    · have := ih (by omega); rw [sumN]; omega
theorem sums_any (W : World) (p : Dp) (d : DS) (h : DB W p d) (hI : InvF d.at d.m.ns) (h8 : d.m.ns = 8) :
    Calls Try.prog 25 #[ptr p.g] W fun e W' => e = .returned (.bool true) ∧ Below W.heap.size W W' := by
  have D0 : Hid (DQ W W p d []) := hid ⟨h, ⟨by simp, Below.refl _ _⟩⟩
  have HOk := hid h.ok
  have HI := hid hI
  have H8 := hid h8
  have HA : Hid (∀ w (hw : DB w p d) (k : Nat), k < 8 → Calls Try.prog 29 #[ptr p.g, .int .i64 (k : Int)] w fun e W' => e = .returned (d.at k).v ∧ Below w.heap.size w W') := hid (fun w hw k hk => by
    have := lat_any w p d hw (k : Int)
    rw [ent_at (decide_eq_true ⟨by omega, by omega⟩), Int.toNat_natCast] at this
    exact this)
  have HOw := hid (fun w (hw : DB w p d) (k : Nat) => owned_any w p d hw (k : Int))
  have HFr := hid (fun w (hw : DB w p d) => free_any w p d hw)
  have HSum := hid (sums_eq hI)
  have HSl := hid (fun (n : Nat) (hn : n ≤ d.m.ns) => sumN_le (f := sumG d) hn)
  clear h hI h8
  simp only [ptr, En.v] at HA HOw HFr ⊢
  go_enter Try.func25, Try.ntmps25
  go_wp2_with fail
  go_loopw [3, 4, 5] (fun c s i wr => ∃ j : Nat, j ≤ 8 ∧ i = .int .i64 (j : Int) ∧ c = .int .i64 ((cntN (fun k => isF (d.at k)) j : Nat) : Int) ∧ s = .int .i64 ((sumN (sumG d) j : Nat) : Int) ∧ Hid (DQ W wr p d [])) (fun _ _ i _ => 8 - (intOf i).toNat)
  case atStart => exact ⟨0, Nat.zero_le _, rfl, rfl, rfl, D0⟩
  case round =>
    obtain ⟨j, hj, rfl, rfl, rfl, HQ⟩ := hrel
    clear D0
    by_cases hlt : j < 8
    · have q1 : (j : Int) < 8 := by omega
      have HJ : Hid (j < 8) := hid hlt
      have hb1 : ((cntN (fun k => isF (d.at k)) j : Nat) : Int) ≤ 8 := by have := cntN_le (fun k => isF (d.at k)) j; omega
      have hb2 : ((sumN (sumG d) (j + 1) : Nat) : Int) ≤ 8 := by have := HSl.out (j + 1) (by rw [H8.out]; omega); have := HSum.out; have := H8.out; omega
      have HC1 : Hid (cntN (fun k => isF (d.at k)) (j + 1) = cntN (fun k => isF (d.at k)) j + (if isF (d.at j) = true then 1 else 0)) := hid rfl
      have HS1 : Hid (sumN (sumG d) (j + 1) = sumN (sumG d) j + sumG d j) := hid rfl
      have hb3 : ((sumN (sumG d) j : Nat) : Int) + ((sumG d j : Nat) : Int) ≤ 8 := by have := HS1.out; omega
      have HSG : Hid (sumG d j = if spc (d.at j) = true then 1 + (d.owned (j : Int)).length else 0) := hid rfl
      have HIs := hid (fun i x (hx : (d.owned (j : Int))[i]? = some x) => owned_is (by rw [H8.out]; exact hlt) i hx)
      have HUp := hid (fun i x y hy hx => owned_up (d := d) (s := (j : Int)) i (x := x) (y := y) hy hx)
      have HOj := hid (HOk.out.ok j (by rw [H8.out]; exact hlt))
      have HSp := hid (fun ht => HI.out.sp j (by rw [H8.out]; exact hlt) ht)
      have HW2 := hid (fun ht => HI.out.ow j (by rw [H8.out]; exact hlt) ht)
      have HLe := hid (owned_len (d := d) (k := j) (by rw [H8.out]; exact hlt))
      clear hb2 hlt hj
      generalize hce : cntN (fun k => isF (d.at k)) (j + 1) = c1 at *
      have HCe := hid hce
      clear hce
      generalize cntN (fun k => isF (d.at k)) j = c0 at *
      generalize hse : sumN (sumG d) (j + 1) = s1 at *
      have HSe := hid hse
      clear hse
      generalize sumN (sumG d) j = s0 at *
      generalize hA : d.owned (j : Int) = A at *
      have HAe := hid hA
      clear hA
      have HOj2 : Hid (∀ w (hw : DB w p d), Calls Try.prog 20 #[.pointer (some ⟨p.g, 0, none⟩), .int .i64 (j : Int)] w fun x w' => ∃ v, x = .returned v ∧ w'.ownsRow w.heap.size 3 1 v A.length (ints A) ∧ Below w.heap.size w w') := hid (fun w hw => by have := HOw.out w hw j; rwa [HAe.out] at this)
      have HAj := hid (fun w hw => HA.out w hw j HJ.out)
      generalize hE : d.at j = E at *
      obtain ⟨xt, xo, xr, xs, xx⟩ := E
      have HEe := hid hE
      clear hE
      go_upto_region 7 with (first | (go_at_call 29; refine (HAj.out _ HQ.out.db).mono ?_; rintro e w1 ⟨rfl, hb⟩; have D1 := hid (HQ.out.on hb); clear hb) | (refine wpList_store_st rfl 62 _ _ rfl w1.heap.size (En.mk xt xo xr xs xx).cs rfl rfl (Cel.new w1 62 En.zero.cs) sizeE rfl rfl ?_; intro w2 hc hb hs; have D2 := hid (D1.out.add hc hb); clear hc hb hs))
      clear D1 HQ HAj
      generalize w1.heap.size = g6 at *
      go_upto_region 8 with (go_at_call 20; refine (HOj2.out _ D2.out.db).mono ?_; rintro e w3 ⟨v, rfl, hown, hb⟩; obtain ⟨ao, cap, rfl, hcel⟩ := own_cel hown; have D3 := hid (D2.out.on hb); have HCl := hid hcel; clear hb hown hcel)
      clear D2 HOj2
      have c0' := (D3.out.bag.get 0 rfl).cell 0
      have c1' := (D3.out.bag.get 0 rfl).cell 1
      have c2' := (D3.out.bag.get 0 rfl).cell 2
      simp only [En.cs, List.getElem?_cons_zero, List.getElem?_cons_succ] at c0' c1' c2'
      by_cases ht0 : xt = 0
      · subst ht0
        have hz := free_zero HOj.out rfl
        simp only [En.zero, En.mk.injEq, true_and] at hz
        obtain ⟨rfl, rfl, rfl, rfl⟩ := hz
        have hl0 : A.length = 0 := HLe.out
        have hc1 : c1 = c0 + 1 := HC1.out
        have hs1 : s1 = s0 := by rw [HS1.out, HSG.out]; simp [spc]
        have HSZ : Hid (∀ w : World, (Op.equalIn 10000 62 (.agg En.zero.cs.toArray) (.agg En.zero.cs.toArray)).run Try.prog w = .ok true w) := hid (fun w => (eqE w 9996 En.zero En.zero).trans (by rw [En.same_self]))
        have HcN := hid (And.intro hc1 hs1)
        rw [hl0]
        clear hc1 hs1 HC1 HS1 HSG HIs HUp HOj HSp HW2 HLe HCl hb3 hl0
        go_wp2_with (first | (refine wpList_load_mid rfl 62 _ rfl g6 0 rfl _ _ ((D3.out.bag.get 0 rfl).range) underE rfl (by rw [sizeE]; rfl) ?_) | (refine wpList_build_zE rfl rfl ?_) | (refine wpList_ne rfl 62 _ _ rfl _ _ rfl rfl guardE true (HSZ.out _) ?_))
        go_roundw
        case measure => have := HJ.out; simp [intOf] <;> omega
        case rel => exact ⟨j + 1, HJ.out, by simp, by rw [HCe.out, HcN.out.1]; simp, by rw [HSe.out, HcN.out.2], hid ⟨D3.out.db, ⟨by simp, D3.out.bag.below⟩⟩⟩
      · have ht0' : (xt == 0) = false := by simpa using ht0
        have hsp := HSp.out ht0
        have hc1 : c1 = c0 := by rw [HC1.out]; simp [isF, ht0]
        have HAo := hid (fun w hw => HA.out w hw xo.toNat (by have := hsp.2.1; have := H8.out; omega))
        rw [Int.toNat_of_nonneg hsp.1] at HAo
        have hot := hsp.2.2
        generalize hO : d.at xo.toNat = O at *
        obtain ⟨ot, oo, orr, os, ox⟩ := O
        simp only at hot
        subst hot
        simp only [En.cs] at HAo
        have hfd : ∀ w : World, (Instr.field 62 (.agg #[.int .i64 1, .int .i64 oo, .int .i64 orr, .int .i64 os, .bool ox]) 0).run Try.prog w = .ok (.int .i64 1) w := fun _ => by kernel_rfl
        have HcN := hid hc1
        clear hc1 HC1 HOj HSp hsp hO
        go_upto_region 14 with (go_at_call 29; refine (HAo.out _ D3.out.db).mono ?_; rintro e w4 ⟨rfl, hb⟩; have D4 := hid (D3.out.on hb); have HCl4 : Hid (0 < A.length → ∃ gl cs, ao = some ⟨gl, 0, none⟩ ∧ Cel w4 gl 3 cs ∧ ∀ (j : Nat) (u : Value), (ints A)[j]? = some u → cs[j]? = some u) := hid (fun hp => by obtain ⟨gl, cs, h1, h2, _, h3⟩ := HCl.out hp; exact ⟨gl, cs, h1, h2.on hb, h3⟩); clear hb)
        clear D3 HAo hfd c0' c1' c2' HCl
        have c0' := (D4.out.bag.get 0 rfl).cell 0
        have c1' := (D4.out.bag.get 0 rfl).cell 1
        have c2' := (D4.out.bag.get 0 rfl).cell 2
        simp only [En.cs, List.getElem?_cons_zero, List.getElem?_cons_succ] at c0' c1' c2'
        by_cases ht1 : xt = 1
        · subst ht1
          obtain ⟨ho, hr⟩ := HW2.out rfl
          try simp only at ho hr
          have hlen : A.length = cntN (fun k => isO (j : Int) (k : Int) (d.at k)) d.m.ns := HLe.out
          have hr2 : xr = (A.length : Int) := by rw [hr, hlen]
          have hg1 : sumG d j = 1 + A.length := HSG.out
          have hs1 : s1 = s0 + (1 + A.length) := by rw [HS1.out, hg1]
          have hb4 : (s0 : Int) + (1 + (A.length : Int)) ≤ 8 := by omega
          subst ho hr2
          have HsN := hid hs1
          clear hs1 hg1 hlen hr HW2 HLe HSG HS1 hb3
          go_upto_region 20 with fail
          go_wp2_with fail
          go_loopw [8] (fun i wr => ∃ k : Nat, k ≤ A.length ∧ i = .int .i64 (k : Int) ∧ Hid (DQ W wr p d [(g6, 62, (En.mk 1 (j : Int) (A.length : Int) xs xx).cs)] ∧ (0 < A.length → ∃ gl cs, ao = some ⟨gl, 0, none⟩ ∧ Cel wr gl 3 cs ∧ ∀ (j : Nat) (u : Value), (ints A)[j]? = some u → cs[j]? = some u))) (fun i _ => A.length - (intOf i).toNat)
          case atStart => exact ⟨0, Nat.zero_le _, rfl, hid ⟨D4.out, HCl4.out⟩⟩
          case round =>
            obtain ⟨k, hk, rfl, HZ⟩ := hrel
            clear D4 HCl4
            by_cases hkl : k < A.length
            · obtain ⟨gl, cs, rfl, hcl, hpre⟩ := HZ.out.2 (by omega)
              have k1 : (k : Int) < (A.length : Int) := by omega
              have k8 : (k : Int) ≤ 8 := by omega
              have HK : Hid (k < A.length) := hid hkl
              obtain ⟨x, hx⟩ : ∃ x, A[k]? = some x := ⟨A[k], List.getElem?_eq_getElem hkl⟩
              obtain ⟨x8, xj, xo2, xt2, _⟩ := HIs.out k x hx
              have HAx := hid (fun w hw => HA.out w hw x (by have := H8.out; omega))
              have HCk : Hid (∀ w : World, Cel w gl 3 cs → w.cell? ⟨gl, k, none⟩ = some (.int .i64 (x : Int))) := hid (fun w hw => by rw [hw.cell]; exact hpre k _ (by rw [ints, List.getElem?_map, hx]; rfl))
              have DZ := hid (HZ.out.1.on (Below.refl _ _).drew)
              have HCz := hid (hcl.on (Below.refl _ _).drew)
              have x0 : (0 : Int) ≤ (x : Int) := by omega
              have x1 : (x : Int) < 8 := by have := H8.out; omega
              have xj' : ((x : Int) == (j : Int)) = false := by rw [beq_eq_false_iff_ne]; omega
              generalize hX : d.at x = X at *
              obtain ⟨yt, yo, yr, ys, yx⟩ := X
              simp only at xo2 xt2
              subst xo2
              have yt' : (yt == 0) = false := by simpa using xt2
              simp only [En.cs] at HAx
              have hfd1 : ∀ w : World, (Instr.field 62 (.agg #[.int .i64 yt, .int .i64 (j : Int), .int .i64 yr, .int .i64 ys, .bool yx]) 1).run Try.prog w = .ok (.int .i64 (j : Int)) w := fun _ => by kernel_rfl
              have hfd0 : ∀ w : World, (Instr.field 62 (.agg #[.int .i64 yt, .int .i64 (j : Int), .int .i64 yr, .int .i64 ys, .bool yx]) 0).run Try.prog w = .ok (.int .i64 yt) w := fun _ => by kernel_rfl
              clear hX xt2 hkl hk xj
              cases k with
              | zero =>
                have HPre := hid hpre
                clear hx hpre HZ hcl
                rw [show ((0 : Nat) : Int) = 0 from rfl]
                go_upto_region 23 with fail
                refine wp_region_held_drew (S := fun w => w.cell? ⟨gl, 0, none⟩ = some (.int .i64 (x : Int))) (by kernel_rfl) (HCk.out _ HCz.out) (fun hHeld => ?_)
                refine wpAnyH_take (i := 0) (oi := { dst := some 66, op := Op.move (Operand.tmp 7), type := 45, pos := "outright.go:68", after := #[], guard := none }) (v := .slice (some ⟨gl, 0, none⟩) A.length cap) rfl (by kernel_rfl) (by kernel_rfl) (by kernel_rfl) (fun _ _ _ h => h) (Or.inl ⟨by rfl, by intro w hSw; go_simp⟩) (by assumption) ?_
                simp only [Act.put, List.setIfInBounds_toArray, List.set_cons_zero, List.set_cons_succ]
                refine wpAnyH_take (i := 1) (oi := { dst := some 67, op := Op.move (Operand.tmp 8), type := 3, pos := "outright.go:68", after := #[], guard := none }) (v := .int .i64 0) rfl (by kernel_rfl) (by kernel_rfl) (by kernel_rfl) (fun _ _ _ h => h) (Or.inl ⟨by rfl, by intro w hSw; go_simp⟩) (by assumption) ?_
                simp only [Act.put, List.setIfInBounds_toArray, List.set_cons_zero, List.set_cons_succ]
                refine wpAnyH_take (i := 2) (oi := { dst := some 68, op := Op.indexAddr 45 (Operand.tmp 66) (Operand.tmp 67), type := 0, pos := "outright.go:68", after := #[{ on := 0, ground := Ground.data }, { on := 1, ground := Ground.data }], guard := none }) (v := .pointer (some ⟨gl, 0, none⟩)) rfl (by kernel_rfl) (by kernel_rfl) (by kernel_rfl) (fun _ _ _ h => h) (Or.inl ⟨by rfl, by intro w hSw; go_simp⟩) (by assumption) ?_
                simp only [Act.put, List.setIfInBounds_toArray, List.set_cons_zero, List.set_cons_succ]
                refine wpAnyH_take (i := 3) (oi := { dst := some 69, op := Op.load 3 (Operand.tmp 68), type := 3, pos := "outright.go:68", after := #[{ on := 2, ground := Ground.data }], guard := none }) (v := .int .i64 (x : Int)) rfl (by kernel_rfl) (by kernel_rfl) (by kernel_rfl) (fun _ _ _ h => h) (Or.inl ⟨by rfl, by intro w hSw; have hc := hSw; go_simp⟩) (by assumption) ?_
                simp only [Act.put, List.setIfInBounds_toArray, List.set_cons_zero, List.set_cons_succ]
                refine wpAnyH_take (i := 4) (oi := { dst := some 70, op := Op.binOp BinOp.lss 3 (Operand.tmp 69) (Operand.const (Value.int IntKind.i64 0)) 3, type := 4, pos := "outright.go:68", after := #[{ on := 3, ground := Ground.data }], guard := none }) (v := .bool false) rfl (by kernel_rfl) (by kernel_rfl) (by kernel_rfl) (fun _ _ _ h => h) (Or.inl ⟨by rfl, by intro w hSw; go_simp⟩) (by assumption) ?_
                simp only [Act.put, List.setIfInBounds_toArray, List.set_cons_zero, List.set_cons_succ]
                refine wpAnyH_take (i := 5) (oi := { dst := some 71, op := Op.move (Operand.tmp 70), type := 4, pos := "outright.go:68", after := #[{ on := 4, ground := Ground.data }], guard := none }) (v := .bool false) rfl (by kernel_rfl) (by kernel_rfl) (by kernel_rfl) (fun _ _ _ h => h) (Or.inl ⟨by rfl, by intro w hSw; go_simp⟩) (by assumption) ?_
                simp only [Act.put, List.setIfInBounds_toArray, List.set_cons_zero, List.set_cons_succ]
                refine wpAnyH_take (i := 6) (oi := { dst := some 72, op := Op.move (Operand.tmp 7), type := 45, pos := "outright.go:68", after := #[{ on := 5, ground := Ground.guard }], guard := some (5, false) }) (v := .slice (some ⟨gl, 0, none⟩) A.length cap) rfl (by kernel_rfl) (by kernel_rfl) (by kernel_rfl) (fun _ _ _ h => h) (Or.inl ⟨by rfl, by intro w hSw; go_simp⟩) (by assumption) ?_
                simp only [Act.put, List.setIfInBounds_toArray, List.set_cons_zero, List.set_cons_succ]
                refine wpAnyH_take (i := 7) (oi := { dst := some 73, op := Op.move (Operand.tmp 8), type := 3, pos := "outright.go:68", after := #[{ on := 5, ground := Ground.guard }], guard := some (5, false) }) (v := .int .i64 0) rfl (by kernel_rfl) (by kernel_rfl) (by kernel_rfl) (fun _ _ _ h => h) (Or.inl ⟨by rfl, by intro w hSw; go_simp⟩) (by assumption) ?_
                simp only [Act.put, List.setIfInBounds_toArray, List.set_cons_zero, List.set_cons_succ]
                refine wpAnyH_take (i := 8) (oi := { dst := some 74, op := Op.indexAddr 45 (Operand.tmp 72) (Operand.tmp 73), type := 0, pos := "outright.go:68", after := #[{ on := 6, ground := Ground.data }, { on := 7, ground := Ground.data }, { on := 5, ground := Ground.guard }], guard := some (5, false) }) (v := .pointer (some ⟨gl, 0, none⟩)) rfl (by kernel_rfl) (by kernel_rfl) (by kernel_rfl) (fun _ _ _ h => h) (Or.inl ⟨by rfl, by intro w hSw; go_simp⟩) (by assumption) ?_
                simp only [Act.put, List.setIfInBounds_toArray, List.set_cons_zero, List.set_cons_succ]
                refine wpAnyH_take (i := 9) (oi := { dst := some 75, op := Op.load 3 (Operand.tmp 74), type := 3, pos := "outright.go:68", after := #[{ on := 8, ground := Ground.data }, { on := 5, ground := Ground.guard }], guard := some (5, false) }) (v := .int .i64 (x : Int)) rfl (by kernel_rfl) (by kernel_rfl) (by kernel_rfl) (fun _ _ _ h => h) (Or.inl ⟨by rfl, by intro w hSw; have hc := hSw; go_simp⟩) (by assumption) ?_
                simp only [Act.put, List.setIfInBounds_toArray, List.set_cons_zero, List.set_cons_succ]
                refine wpAnyH_take (i := 10) (oi := { dst := some 76, op := Op.binOp BinOp.geq 3 (Operand.tmp 75) (Operand.const (Value.int IntKind.i64 8)) 3, type := 4, pos := "outright.go:68", after := #[{ on := 9, ground := Ground.data }, { on := 5, ground := Ground.guard }], guard := some (5, false) }) (v := .bool false) rfl (by kernel_rfl) (by kernel_rfl) (by kernel_rfl) (fun _ _ _ h => h) (Or.inl ⟨by rfl, by intro w hSw; go_simp⟩) (by assumption) ?_
                simp only [Act.put, List.setIfInBounds_toArray, List.set_cons_zero, List.set_cons_succ]
                refine wpAnyH_take (i := 11) (oi := { dst := some 77, op := Op.pick (Operand.tmp 71) (Operand.const (Value.bool true)) (Operand.tmp 76), type := 4, pos := "outright.go:68", after := #[{ on := 5, ground := Ground.data }, { on := 10, ground := Ground.data }], guard := none }) (v := .bool false) rfl (by kernel_rfl) (by kernel_rfl) (by kernel_rfl) (fun _ _ _ h => h) (Or.inl ⟨by rfl, by intro w hSw; go_simp⟩) (by assumption) ?_
                simp only [Act.put, List.setIfInBounds_toArray, List.set_cons_zero, List.set_cons_succ]
                refine wpAnyH_take (i := 12) (oi := { dst := some 78, op := Op.move (Operand.tmp 77), type := 4, pos := "outright.go:68", after := #[{ on := 11, ground := Ground.data }, { on := 5, ground := Ground.chain }], guard := none }) (v := .bool false) rfl (by kernel_rfl) (by kernel_rfl) (by kernel_rfl) (fun _ _ _ h => h) (Or.inl ⟨by rfl, by intro w hSw; go_simp⟩) (by assumption) ?_
                simp only [Act.put, List.setIfInBounds_toArray, List.set_cons_zero, List.set_cons_succ]
                refine wpAnyH_take (i := 13) (oi := { dst := some 79, op := Op.move (Operand.tmp 7), type := 45, pos := "outright.go:68", after := #[{ on := 12, ground := Ground.guard }], guard := some (12, false) }) (v := .slice (some ⟨gl, 0, none⟩) A.length cap) rfl (by kernel_rfl) (by kernel_rfl) (by kernel_rfl) (fun _ _ _ h => h) (Or.inl ⟨by rfl, by intro w hSw; go_simp⟩) (by assumption) ?_
                simp only [Act.put, List.setIfInBounds_toArray, List.set_cons_zero, List.set_cons_succ]
                refine wpAnyH_take (i := 14) (oi := { dst := some 80, op := Op.move (Operand.tmp 8), type := 3, pos := "outright.go:68", after := #[{ on := 12, ground := Ground.guard }], guard := some (12, false) }) (v := .int .i64 0) rfl (by kernel_rfl) (by kernel_rfl) (by kernel_rfl) (fun _ _ _ h => h) (Or.inl ⟨by rfl, by intro w hSw; go_simp⟩) (by assumption) ?_
                simp only [Act.put, List.setIfInBounds_toArray, List.set_cons_zero, List.set_cons_succ]
                refine wpAnyH_take (i := 15) (oi := { dst := some 81, op := Op.indexAddr 45 (Operand.tmp 79) (Operand.tmp 80), type := 0, pos := "outright.go:68", after := #[{ on := 13, ground := Ground.data }, { on := 14, ground := Ground.data }, { on := 12, ground := Ground.guard }], guard := some (12, false) }) (v := .pointer (some ⟨gl, 0, none⟩)) rfl (by kernel_rfl) (by kernel_rfl) (by kernel_rfl) (fun _ _ _ h => h) (Or.inl ⟨by rfl, by intro w hSw; go_simp⟩) (by assumption) ?_
                simp only [Act.put, List.setIfInBounds_toArray, List.set_cons_zero, List.set_cons_succ]
                refine wpAnyH_take (i := 16) (oi := { dst := some 82, op := Op.load 3 (Operand.tmp 81), type := 3, pos := "outright.go:68", after := #[{ on := 15, ground := Ground.data }, { on := 12, ground := Ground.guard }], guard := some (12, false) }) (v := .int .i64 (x : Int)) rfl (by kernel_rfl) (by kernel_rfl) (by kernel_rfl) (fun _ _ _ h => h) (Or.inl ⟨by rfl, by intro w hSw; have hc := hSw; go_simp⟩) (by assumption) ?_
                simp only [Act.put, List.setIfInBounds_toArray, List.set_cons_zero, List.set_cons_succ]
                refine wpAnyH_take (i := 17) (oi := { dst := some 83, op := Op.move (Operand.tmp 5), type := 3, pos := "outright.go:68", after := #[{ on := 12, ground := Ground.guard }], guard := some (12, false) }) (v := .int .i64 (j : Int)) rfl (by kernel_rfl) (by kernel_rfl) (by kernel_rfl) (fun _ _ _ h => h) (Or.inl ⟨by rfl, by intro w hSw; go_simp⟩) (by assumption) ?_
                simp only [Act.put, List.setIfInBounds_toArray, List.set_cons_zero, List.set_cons_succ]
                refine wpAnyH_take (i := 18) (oi := { dst := some 84, op := Op.binOp BinOp.eql 3 (Operand.tmp 82) (Operand.tmp 83) 3, type := 4, pos := "outright.go:68", after := #[{ on := 16, ground := Ground.data }, { on := 17, ground := Ground.data }, { on := 12, ground := Ground.guard }], guard := some (12, false) }) (v := .bool false) rfl (by kernel_rfl) (by kernel_rfl) (by kernel_rfl) (fun _ _ _ h => h) (Or.inl ⟨by rfl, by intro w hSw; go_simp⟩) (by assumption) ?_
                simp only [Act.put, List.setIfInBounds_toArray, List.set_cons_zero, List.set_cons_succ]
                refine wpAnyH_take (i := 19) (oi := { dst := some 85, op := Op.pick (Operand.tmp 78) (Operand.const (Value.bool true)) (Operand.tmp 84), type := 4, pos := "outright.go:68", after := #[{ on := 12, ground := Ground.data }, { on := 18, ground := Ground.data }], guard := none }) (v := .bool false) rfl (by kernel_rfl) (by kernel_rfl) (by kernel_rfl) (fun _ _ _ h => h) (Or.inl ⟨by rfl, by intro w hSw; go_simp⟩) (by assumption) ?_
                simp only [Act.put, List.setIfInBounds_toArray, List.set_cons_zero, List.set_cons_succ]
                refine wpAnyH_take (i := 20) (oi := { dst := some 86, op := Op.move (Operand.tmp 85), type := 4, pos := "outright.go:68", after := #[{ on := 19, ground := Ground.data }, { on := 12, ground := Ground.chain }], guard := none }) (v := .bool false) rfl (by kernel_rfl) (by kernel_rfl) (by kernel_rfl) (fun _ _ _ h => h) (Or.inl ⟨by rfl, by intro w hSw; go_simp⟩) (by assumption) ?_
                simp only [Act.put, List.setIfInBounds_toArray, List.set_cons_zero, List.set_cons_succ]
                refine wpAnyH_take (i := 21) (oi := { dst := some 87, op := Op.move (Operand.tmp 0), type := 23, pos := "outright.go:68", after := #[{ on := 20, ground := Ground.guard }], guard := some (20, false) }) (v := .pointer (some ⟨p.g, 0, none⟩)) rfl (by kernel_rfl) (by kernel_rfl) (by kernel_rfl) (fun _ _ _ h => h) (Or.inl ⟨by rfl, by intro w hSw; go_simp⟩) (by assumption) ?_
                simp only [Act.put, List.setIfInBounds_toArray, List.set_cons_zero, List.set_cons_succ]
                refine wpAnyH_take (i := 22) (oi := { dst := some 88, op := Op.move (Operand.tmp 7), type := 45, pos := "outright.go:68", after := #[{ on := 20, ground := Ground.guard }], guard := some (20, false) }) (v := .slice (some ⟨gl, 0, none⟩) A.length cap) rfl (by kernel_rfl) (by kernel_rfl) (by kernel_rfl) (fun _ _ _ h => h) (Or.inl ⟨by rfl, by intro w hSw; go_simp⟩) (by assumption) ?_
                simp only [Act.put, List.setIfInBounds_toArray, List.set_cons_zero, List.set_cons_succ]
                refine wpAnyH_take (i := 23) (oi := { dst := some 89, op := Op.move (Operand.tmp 8), type := 3, pos := "outright.go:68", after := #[{ on := 20, ground := Ground.guard }], guard := some (20, false) }) (v := .int .i64 0) rfl (by kernel_rfl) (by kernel_rfl) (by kernel_rfl) (fun _ _ _ h => h) (Or.inl ⟨by rfl, by intro w hSw; go_simp⟩) (by assumption) ?_
                simp only [Act.put, List.setIfInBounds_toArray, List.set_cons_zero, List.set_cons_succ]
                refine wpAnyH_take (i := 24) (oi := { dst := some 90, op := Op.indexAddr 45 (Operand.tmp 88) (Operand.tmp 89), type := 0, pos := "outright.go:68", after := #[{ on := 22, ground := Ground.data }, { on := 23, ground := Ground.data }, { on := 20, ground := Ground.guard }], guard := some (20, false) }) (v := .pointer (some ⟨gl, 0, none⟩)) rfl (by kernel_rfl) (by kernel_rfl) (by kernel_rfl) (fun _ _ _ h => h) (Or.inl ⟨by rfl, by intro w hSw; go_simp⟩) (by assumption) ?_
                simp only [Act.put, List.setIfInBounds_toArray, List.set_cons_zero, List.set_cons_succ]
                refine wpAnyH_take (i := 25) (oi := { dst := some 91, op := Op.load 3 (Operand.tmp 90), type := 3, pos := "outright.go:68", after := #[{ on := 24, ground := Ground.data }, { on := 20, ground := Ground.guard }], guard := some (20, false) }) (v := .int .i64 (x : Int)) rfl (by kernel_rfl) (by kernel_rfl) (by kernel_rfl) (fun _ _ _ h => h) (Or.inl ⟨by rfl, by intro w hSw; have hc := hSw; go_simp⟩) (by assumption) ?_
                simp only [Act.put, List.setIfInBounds_toArray, List.set_cons_zero, List.set_cons_succ]
                refine wpAnyH_take (i := 28) (oi := { dst := some 94, op := Op.move (Operand.tmp 5), type := 3, pos := "outright.go:68", after := #[{ on := 20, ground := Ground.guard }], guard := some (20, false) }) (v := .int .i64 (j : Int)) rfl (by kernel_rfl) (by kernel_rfl) (by kernel_rfl) (fun _ _ _ h => h) (Or.inl ⟨by rfl, by intro w hSw; go_simp⟩) (by assumption) ?_
                simp only [Act.put, List.setIfInBounds_toArray, List.set_cons_zero, List.set_cons_succ]
                refine wpAnyH_ready (rs := [26]) (by kernel_rfl) (by simp) (AllReadyH.cons (o := { dst := some 92, op := Op.call { callee := Callee.value (Operand.func 29), args := #[Operand.tmp 87, Operand.tmp 91], argTypes := #[23, 3] }, type := 62, pos := "outright.go:68", after := #[{ on := 21, ground := Ground.data }, { on := 25, ground := Ground.data }, { on := 20, ground := Ground.chain }, { on := 20, ground := Ground.guard }], guard := some (20, false) }) rfl (fun KQ hK => ?_) AllReadyH.nil)
                go_simp
                refine (HAx.out _ DZ.out.db).mono ?_
                rintro e w5 ⟨rfl, hb⟩
                have DY := hid (DZ.out.on hb)
                have HCy1 := hid (HCz.out.on hb)
                clear hb
                go_wp2_with fail
                refine hK.out _ _ (HCk.out _ HCy1.out) (fun hHeld => ?_)
                clear hK KQ
                try simp only [Act.put, List.setIfInBounds_toArray, List.set_cons_zero, List.set_cons_succ]
                refine wpAnyH_take (i := 27) (oi := { dst := some 93, op := Op.field 62 (Operand.tmp 92) 1, type := 3, pos := "outright.go:68", after := #[{ on := 26, ground := Ground.data }, { on := 20, ground := Ground.guard }], guard := some (20, false) }) (v := .int .i64 (j : Int)) rfl (by kernel_rfl) (by kernel_rfl) (by kernel_rfl) (fun _ _ _ h => h) (Or.inl ⟨by rfl, by intro w hSw; go_simp⟩) (by assumption) ?_
                simp only [Act.put, List.setIfInBounds_toArray, List.set_cons_zero, List.set_cons_succ]
                refine wpAnyH_take (i := 29) (oi := { dst := some 95, op := Op.binOp BinOp.neq 3 (Operand.tmp 93) (Operand.tmp 94) 3, type := 4, pos := "outright.go:68", after := #[{ on := 27, ground := Ground.data }, { on := 28, ground := Ground.data }, { on := 20, ground := Ground.guard }], guard := some (20, false) }) (v := .bool false) rfl (by kernel_rfl) (by kernel_rfl) (by kernel_rfl) (fun _ _ _ h => h) (Or.inl ⟨by rfl, by intro w hSw; go_simp⟩) (by assumption) ?_
                simp only [Act.put, List.setIfInBounds_toArray, List.set_cons_zero, List.set_cons_succ]
                refine wpAnyH_take (i := 30) (oi := { dst := some 96, op := Op.pick (Operand.tmp 86) (Operand.const (Value.bool true)) (Operand.tmp 95), type := 4, pos := "outright.go:68", after := #[{ on := 20, ground := Ground.data }, { on := 29, ground := Ground.data }], guard := none }) (v := .bool false) rfl (by kernel_rfl) (by kernel_rfl) (by kernel_rfl) (fun _ _ _ h => h) (Or.inl ⟨by rfl, by intro w hSw; go_simp⟩) (by assumption) ?_
                simp only [Act.put, List.setIfInBounds_toArray, List.set_cons_zero, List.set_cons_succ]
                refine wpAnyH_take (i := 31) (oi := { dst := some 97, op := Op.move (Operand.tmp 96), type := 4, pos := "outright.go:68", after := #[{ on := 30, ground := Ground.data }, { on := 26, ground := Ground.chain }], guard := none }) (v := .bool false) rfl (by kernel_rfl) (by kernel_rfl) (by kernel_rfl) (fun _ _ _ h => h) (Or.inl ⟨by rfl, by intro w hSw; go_simp⟩) (by assumption) ?_
                simp only [Act.put, List.setIfInBounds_toArray, List.set_cons_zero, List.set_cons_succ]
                refine wpAnyH_take (i := 32) (oi := { dst := some 98, op := Op.move (Operand.tmp 0), type := 23, pos := "outright.go:68", after := #[{ on := 31, ground := Ground.guard }], guard := some (31, false) }) (v := .pointer (some ⟨p.g, 0, none⟩)) rfl (by kernel_rfl) (by kernel_rfl) (by kernel_rfl) (fun _ _ _ h => h) (Or.inl ⟨by rfl, by intro w hSw; go_simp⟩) (by assumption) ?_
                simp only [Act.put, List.setIfInBounds_toArray, List.set_cons_zero, List.set_cons_succ]
                refine wpAnyH_take (i := 33) (oi := { dst := some 99, op := Op.move (Operand.tmp 7), type := 45, pos := "outright.go:68", after := #[{ on := 31, ground := Ground.guard }], guard := some (31, false) }) (v := .slice (some ⟨gl, 0, none⟩) A.length cap) rfl (by kernel_rfl) (by kernel_rfl) (by kernel_rfl) (fun _ _ _ h => h) (Or.inl ⟨by rfl, by intro w hSw; go_simp⟩) (by assumption) ?_
                simp only [Act.put, List.setIfInBounds_toArray, List.set_cons_zero, List.set_cons_succ]
                refine wpAnyH_take (i := 34) (oi := { dst := some 100, op := Op.move (Operand.tmp 8), type := 3, pos := "outright.go:68", after := #[{ on := 31, ground := Ground.guard }], guard := some (31, false) }) (v := .int .i64 0) rfl (by kernel_rfl) (by kernel_rfl) (by kernel_rfl) (fun _ _ _ h => h) (Or.inl ⟨by rfl, by intro w hSw; go_simp⟩) (by assumption) ?_
                simp only [Act.put, List.setIfInBounds_toArray, List.set_cons_zero, List.set_cons_succ]
                refine wpAnyH_take (i := 35) (oi := { dst := some 101, op := Op.indexAddr 45 (Operand.tmp 99) (Operand.tmp 100), type := 0, pos := "outright.go:68", after := #[{ on := 33, ground := Ground.data }, { on := 34, ground := Ground.data }, { on := 31, ground := Ground.guard }], guard := some (31, false) }) (v := .pointer (some ⟨gl, 0, none⟩)) rfl (by kernel_rfl) (by kernel_rfl) (by kernel_rfl) (fun _ _ _ h => h) (Or.inl ⟨by rfl, by intro w hSw; go_simp⟩) (by assumption) ?_
                simp only [Act.put, List.setIfInBounds_toArray, List.set_cons_zero, List.set_cons_succ]
                refine wpAnyH_take (i := 36) (oi := { dst := some 102, op := Op.load 3 (Operand.tmp 101), type := 3, pos := "outright.go:68", after := #[{ on := 35, ground := Ground.data }, { on := 31, ground := Ground.guard }], guard := some (31, false) }) (v := .int .i64 (x : Int)) rfl (by kernel_rfl) (by kernel_rfl) (by kernel_rfl) (fun _ _ _ h => h) (Or.inl ⟨by rfl, by intro w hSw; have hc := hSw; go_simp⟩) (by assumption) ?_
                simp only [Act.put, List.setIfInBounds_toArray, List.set_cons_zero, List.set_cons_succ]
                refine wpAnyH_ready (rs := [37]) (by kernel_rfl) (by simp) (AllReadyH.cons (o := { dst := some 103, op := Op.call { callee := Callee.value (Operand.func 29), args := #[Operand.tmp 98, Operand.tmp 102], argTypes := #[23, 3] }, type := 62, pos := "outright.go:68", after := #[{ on := 32, ground := Ground.data }, { on := 36, ground := Ground.data }, { on := 31, ground := Ground.chain }, { on := 31, ground := Ground.guard }], guard := some (31, false) }) rfl (fun KQ hK => ?_) AllReadyH.nil)
                go_simp
                refine (HAx.out _ DY.out.db).mono ?_
                rintro e w6 ⟨rfl, hb⟩
                have DX := hid (DY.out.on hb)
                have HCx1 := hid (HCy1.out.on hb)
                clear hb
                go_wp2_with fail
                refine hK.out _ _ (HCk.out _ HCx1.out) (fun hHeld => ?_)
                clear hK KQ
                try simp only [Act.put, List.setIfInBounds_toArray, List.set_cons_zero, List.set_cons_succ]
                refine wpAnyH_take (i := 38) (oi := { dst := some 104, op := Op.field 62 (Operand.tmp 103) 0, type := 44, pos := "outright.go:68", after := #[{ on := 37, ground := Ground.data }, { on := 31, ground := Ground.guard }], guard := some (31, false) }) (v := .int .i64 yt) rfl (by kernel_rfl) (by kernel_rfl) (by kernel_rfl) (fun _ _ _ h => h) (Or.inl ⟨by rfl, by intro w hSw; go_simp⟩) (by assumption) ?_
                simp only [Act.put, List.setIfInBounds_toArray, List.set_cons_zero, List.set_cons_succ]
                refine wpAnyH_take (i := 39) (oi := { dst := some 105, op := Op.binOp BinOp.eql 44 (Operand.tmp 104) (Operand.const (Value.int IntKind.i64 0)) 44, type := 4, pos := "outright.go:68", after := #[{ on := 38, ground := Ground.data }, { on := 31, ground := Ground.guard }], guard := some (31, false) }) (v := .bool false) rfl (by kernel_rfl) (by kernel_rfl) (by kernel_rfl) (fun _ _ _ h => h) (Or.inl ⟨by rfl, by intro w hSw; go_simp⟩) (by assumption) ?_
                simp only [Act.put, List.setIfInBounds_toArray, List.set_cons_zero, List.set_cons_succ]
                refine wpAnyH_take (i := 40) (oi := { dst := some 106, op := Op.pick (Operand.tmp 97) (Operand.const (Value.bool true)) (Operand.tmp 105), type := 4, pos := "outright.go:68", after := #[{ on := 31, ground := Ground.data }, { on := 39, ground := Ground.data }], guard := none }) (v := .bool false) rfl (by kernel_rfl) (by kernel_rfl) (by kernel_rfl) (fun _ _ _ h => h) (Or.inl ⟨by rfl, by intro w hSw; go_simp⟩) (by assumption) ?_
                simp only [Act.put, List.setIfInBounds_toArray, List.set_cons_zero, List.set_cons_succ]
                refine wpAnyH_take (i := 41) (oi := { dst := some 107, op := Op.move (Operand.tmp 106), type := 4, pos := "outright.go:68", after := #[{ on := 40, ground := Ground.data }, { on := 37, ground := Ground.chain }], guard := none }) (v := .bool false) rfl (by kernel_rfl) (by kernel_rfl) (by kernel_rfl) (fun _ _ _ h => h) (Or.inl ⟨by rfl, by intro w hSw; go_simp⟩) (by assumption) ?_
                simp only [Act.put, List.setIfInBounds_toArray, List.set_cons_zero, List.set_cons_succ]
                refine wpAnyH_take (i := 42) (oi := { dst := some 108, op := Op.move (Operand.tmp 8), type := 3, pos := "outright.go:68", after := #[{ on := 41, ground := Ground.guard }], guard := some (41, false) }) (v := .int .i64 0) rfl (by kernel_rfl) (by kernel_rfl) (by kernel_rfl) (fun _ _ _ h => h) (Or.inl ⟨by rfl, by intro w hSw; go_simp⟩) (by assumption) ?_
                simp only [Act.put, List.setIfInBounds_toArray, List.set_cons_zero, List.set_cons_succ]
                refine wpAnyH_take (i := 43) (oi := { dst := some 109, op := Op.binOp BinOp.gtr 3 (Operand.tmp 108) (Operand.const (Value.int IntKind.i64 0)) 3, type := 4, pos := "outright.go:68", after := #[{ on := 42, ground := Ground.data }, { on := 41, ground := Ground.guard }], guard := some (41, false) }) (v := .bool false) rfl (by kernel_rfl) (by kernel_rfl) (by kernel_rfl) (fun _ _ _ h => h) (Or.inl ⟨by rfl, by intro w hSw; go_simp⟩) (by assumption) ?_
                simp only [Act.put, List.setIfInBounds_toArray, List.set_cons_zero, List.set_cons_succ]
                refine wpAnyH_take (i := 44) (oi := { dst := some 110, op := Op.move (Operand.tmp 109), type := 4, pos := "outright.go:68", after := #[{ on := 43, ground := Ground.data }, { on := 41, ground := Ground.chain }, { on := 41, ground := Ground.guard }], guard := some (41, false) }) (v := .bool false) rfl (by kernel_rfl) (by kernel_rfl) (by kernel_rfl) (fun _ _ _ h => h) (Or.inl ⟨by rfl, by intro w hSw; go_simp⟩) (by assumption) ?_
                simp only [Act.put, List.setIfInBounds_toArray, List.set_cons_zero, List.set_cons_succ]
                refine wpAnyH_take (i := 45) (oi := { dst := some 111, op := Op.move (Operand.tmp 7), type := 45, pos := "outright.go:68", after := #[{ on := 44, ground := Ground.guard }], guard := some (44, true) }) (v := undef) rfl (by kernel_rfl) (by kernel_rfl) (by kernel_rfl) (fun _ _ _ h => h) (Or.inr ⟨by rfl, rfl⟩) (by assumption) ?_
                simp only [Act.put, List.setIfInBounds_toArray, List.set_cons_zero, List.set_cons_succ]
                refine wpAnyH_take (i := 46) (oi := { dst := some 112, op := Op.move (Operand.tmp 8), type := 3, pos := "outright.go:68", after := #[{ on := 44, ground := Ground.guard }], guard := some (44, true) }) (v := undef) rfl (by kernel_rfl) (by kernel_rfl) (by kernel_rfl) (fun _ _ _ h => h) (Or.inr ⟨by rfl, rfl⟩) (by assumption) ?_
                simp only [Act.put, List.setIfInBounds_toArray, List.set_cons_zero, List.set_cons_succ]
                refine wpAnyH_take (i := 47) (oi := { dst := some 113, op := Op.indexAddr 45 (Operand.tmp 111) (Operand.tmp 112), type := 0, pos := "outright.go:68", after := #[{ on := 45, ground := Ground.data }, { on := 46, ground := Ground.data }, { on := 44, ground := Ground.guard }], guard := some (44, true) }) (v := undef) rfl (by kernel_rfl) (by kernel_rfl) (by kernel_rfl) (fun _ _ _ h => h) (Or.inr ⟨by rfl, rfl⟩) (by assumption) ?_
                simp only [Act.put, List.setIfInBounds_toArray, List.set_cons_zero, List.set_cons_succ]
                refine wpAnyH_take (i := 48) (oi := { dst := some 114, op := Op.load 3 (Operand.tmp 113), type := 3, pos := "outright.go:68", after := #[{ on := 47, ground := Ground.data }, { on := 44, ground := Ground.guard }], guard := some (44, true) }) (v := undef) rfl (by kernel_rfl) (by kernel_rfl) (by kernel_rfl) (fun _ _ _ h => h) (Or.inr ⟨by rfl, rfl⟩) (by assumption) ?_
                simp only [Act.put, List.setIfInBounds_toArray, List.set_cons_zero, List.set_cons_succ]
                refine wpAnyH_take (i := 49) (oi := { dst := some 115, op := Op.move (Operand.tmp 7), type := 45, pos := "outright.go:68", after := #[{ on := 44, ground := Ground.guard }], guard := some (44, true) }) (v := undef) rfl (by kernel_rfl) (by kernel_rfl) (by kernel_rfl) (fun _ _ _ h => h) (Or.inr ⟨by rfl, rfl⟩) (by assumption) ?_
                simp only [Act.put, List.setIfInBounds_toArray, List.set_cons_zero, List.set_cons_succ]
                refine wpAnyH_take (i := 50) (oi := { dst := some 116, op := Op.move (Operand.tmp 8), type := 3, pos := "outright.go:68", after := #[{ on := 44, ground := Ground.guard }], guard := some (44, true) }) (v := undef) rfl (by kernel_rfl) (by kernel_rfl) (by kernel_rfl) (fun _ _ _ h => h) (Or.inr ⟨by rfl, rfl⟩) (by assumption) ?_
                simp only [Act.put, List.setIfInBounds_toArray, List.set_cons_zero, List.set_cons_succ]
                refine wpAnyH_take (i := 51) (oi := { dst := some 117, op := Op.binOp BinOp.sub 3 (Operand.tmp 116) (Operand.const (Value.int IntKind.i64 1)) 3, type := 3, pos := "outright.go:68", after := #[{ on := 50, ground := Ground.data }, { on := 44, ground := Ground.guard }], guard := some (44, true) }) (v := undef) rfl (by kernel_rfl) (by kernel_rfl) (by kernel_rfl) (fun _ _ _ h => h) (Or.inr ⟨by rfl, rfl⟩) (by assumption) ?_
                simp only [Act.put, List.setIfInBounds_toArray, List.set_cons_zero, List.set_cons_succ]
                refine wpAnyH_take (i := 52) (oi := { dst := some 118, op := Op.indexAddr 45 (Operand.tmp 115) (Operand.tmp 117), type := 0, pos := "outright.go:68", after := #[{ on := 49, ground := Ground.data }, { on := 51, ground := Ground.data }, { on := 44, ground := Ground.guard }], guard := some (44, true) }) (v := undef) rfl (by kernel_rfl) (by kernel_rfl) (by kernel_rfl) (fun _ _ _ h => h) (Or.inr ⟨by rfl, rfl⟩) (by assumption) ?_
                simp only [Act.put, List.setIfInBounds_toArray, List.set_cons_zero, List.set_cons_succ]
                refine wpAnyH_take (i := 53) (oi := { dst := some 119, op := Op.load 3 (Operand.tmp 118), type := 3, pos := "outright.go:68", after := #[{ on := 52, ground := Ground.data }, { on := 44, ground := Ground.guard }], guard := some (44, true) }) (v := undef) rfl (by kernel_rfl) (by kernel_rfl) (by kernel_rfl) (fun _ _ _ h => h) (Or.inr ⟨by rfl, rfl⟩) (by assumption) ?_
                simp only [Act.put, List.setIfInBounds_toArray, List.set_cons_zero, List.set_cons_succ]
                refine wpAnyH_take (i := 54) (oi := { dst := some 120, op := Op.binOp BinOp.leq 3 (Operand.tmp 114) (Operand.tmp 119) 3, type := 4, pos := "outright.go:68", after := #[{ on := 48, ground := Ground.data }, { on := 53, ground := Ground.data }, { on := 44, ground := Ground.guard }], guard := some (44, true) }) (v := undef) rfl (by kernel_rfl) (by kernel_rfl) (by kernel_rfl) (fun _ _ _ h => h) (Or.inr ⟨by rfl, rfl⟩) (by assumption) ?_
                simp only [Act.put, List.setIfInBounds_toArray, List.set_cons_zero, List.set_cons_succ]
                refine wpAnyH_take (i := 55) (oi := { dst := some 121, op := Op.pick (Operand.tmp 110) (Operand.tmp 120) (Operand.const (Value.bool false)), type := 4, pos := "outright.go:68", after := #[{ on := 44, ground := Ground.data }, { on := 54, ground := Ground.data }, { on := 41, ground := Ground.guard }], guard := some (41, false) }) (v := .bool false) rfl (by kernel_rfl) (by kernel_rfl) (by kernel_rfl) (fun _ _ _ h => h) (Or.inl ⟨by rfl, by intro w hSw; go_simp⟩) (by assumption) ?_
                simp only [Act.put, List.setIfInBounds_toArray, List.set_cons_zero, List.set_cons_succ]
                refine wpAnyH_take (i := 56) (oi := { dst := some 122, op := Op.pick (Operand.tmp 107) (Operand.const (Value.bool true)) (Operand.tmp 121), type := 4, pos := "outright.go:68", after := #[{ on := 41, ground := Ground.data }, { on := 55, ground := Ground.data }], guard := none }) (v := .bool false) rfl (by kernel_rfl) (by kernel_rfl) (by kernel_rfl) (fun _ _ _ h => h) (Or.inl ⟨by rfl, by intro w hSw; go_simp⟩) (by assumption) ?_
                simp only [Act.put, List.setIfInBounds_toArray, List.set_cons_zero, List.set_cons_succ]
                refine wpAnyH_done (by kernel_rfl) ?_ _
                go_wp2_with fail
                go_roundw
                case measure => have := HK.out; simp [intOf] <;> omega
                case rel => exact ⟨0 + 1, HK.out, by simp, hid ⟨DX.out, fun _ => ⟨gl, cs, rfl, HCx1.out, HPre.out⟩⟩⟩
              | succ k =>
                obtain ⟨y, hy⟩ : ∃ y, A[k]? = some y := ⟨A[k]'(by have := HK.out; omega), List.getElem?_eq_getElem (by have := HK.out; omega)⟩
                have yx0 := HUp.out k x y hy hx
                have HCy : Hid (∀ w : World, Cel w gl 3 cs → w.cell? ⟨gl, k, none⟩ = some (.int .i64 (y : Int))) := hid (fun w hw => by rw [hw.cell]; exact hpre k _ (by rw [ints, List.getElem?_map, hy]; rfl))
                have HPre := hid hpre
                have yx1 : ¬ ((x : Int) ≤ (y : Int)) := by omega
                have yx2 : (y : Int) < (x : Int) := by omega
                clear yx1 yx0
                have kw : IntKind.wrap .i64 ((k : Int) + 1 - 1) = (k : Int) := by rw [wr64 _ (by omega) (by omega)]; omega
                have k0 : (0 : Int) < (k : Int) + 1 := by omega
                have kn : ¬ ((k : Int) + 1 < 0) := by omega
                have kw2 : IntKind.wrap .i64 (k : Int) = (k : Int) := wr64 _ (by omega) (by omega)
                have yx3 : y < x := by omega
                have k2 : (k : Int) < (A.length : Int) := by omega
                clear hx hy hpre HZ hcl
                rw [show (((k + 1 : Nat)) : Int) = (k : Int) + 1 from rfl] at *
                go_upto_region 23 with fail
                refine wp_region_held_drew (S := fun w => w.cell? ⟨gl, k + 1, none⟩ = some (.int .i64 (x : Int)) ∧ w.cell? ⟨gl, k, none⟩ = some (.int .i64 (y : Int))) (by kernel_rfl) ⟨HCk.out _ HCz.out, HCy.out _ HCz.out⟩ (fun hHeld => ?_)
                refine wpAnyH_take (i := 0) (oi := { dst := some 66, op := Op.move (Operand.tmp 7), type := 45, pos := "outright.go:68", after := #[], guard := none }) (v := .slice (some ⟨gl, 0, none⟩) A.length cap) rfl (by kernel_rfl) (by kernel_rfl) (by kernel_rfl) (fun _ _ _ h => h) (Or.inl ⟨by rfl, by intro w hSw; go_simp⟩) (by assumption) ?_
                simp only [Act.put, List.setIfInBounds_toArray, List.set_cons_zero, List.set_cons_succ]
                refine wpAnyH_take (i := 1) (oi := { dst := some 67, op := Op.move (Operand.tmp 8), type := 3, pos := "outright.go:68", after := #[], guard := none }) (v := .int .i64 ((k : Int) + 1)) rfl (by kernel_rfl) (by kernel_rfl) (by kernel_rfl) (fun _ _ _ h => h) (Or.inl ⟨by rfl, by intro w hSw; go_simp⟩) (by assumption) ?_
                simp only [Act.put, List.setIfInBounds_toArray, List.set_cons_zero, List.set_cons_succ]
                refine wpAnyH_take (i := 2) (oi := { dst := some 68, op := Op.indexAddr 45 (Operand.tmp 66) (Operand.tmp 67), type := 0, pos := "outright.go:68", after := #[{ on := 0, ground := Ground.data }, { on := 1, ground := Ground.data }], guard := none }) (v := .pointer (some ⟨gl, k + 1, none⟩)) rfl (by kernel_rfl) (by kernel_rfl) (by kernel_rfl) (fun _ _ _ h => h) (Or.inl ⟨by rfl, by intro w hSw; go_simp⟩) (by assumption) ?_
                simp only [Act.put, List.setIfInBounds_toArray, List.set_cons_zero, List.set_cons_succ]
                refine wpAnyH_take (i := 3) (oi := { dst := some 69, op := Op.load 3 (Operand.tmp 68), type := 3, pos := "outright.go:68", after := #[{ on := 2, ground := Ground.data }], guard := none }) (v := .int .i64 (x : Int)) rfl (by kernel_rfl) (by kernel_rfl) (by kernel_rfl) (fun _ _ _ h => h) (Or.inl ⟨by rfl, by intro w hSw; have hc := hSw.1; go_simp⟩) (by assumption) ?_
                simp only [Act.put, List.setIfInBounds_toArray, List.set_cons_zero, List.set_cons_succ]
                refine wpAnyH_take (i := 4) (oi := { dst := some 70, op := Op.binOp BinOp.lss 3 (Operand.tmp 69) (Operand.const (Value.int IntKind.i64 0)) 3, type := 4, pos := "outright.go:68", after := #[{ on := 3, ground := Ground.data }], guard := none }) (v := .bool false) rfl (by kernel_rfl) (by kernel_rfl) (by kernel_rfl) (fun _ _ _ h => h) (Or.inl ⟨by rfl, by intro w hSw; go_simp⟩) (by assumption) ?_
                simp only [Act.put, List.setIfInBounds_toArray, List.set_cons_zero, List.set_cons_succ]
                refine wpAnyH_take (i := 5) (oi := { dst := some 71, op := Op.move (Operand.tmp 70), type := 4, pos := "outright.go:68", after := #[{ on := 4, ground := Ground.data }], guard := none }) (v := .bool false) rfl (by kernel_rfl) (by kernel_rfl) (by kernel_rfl) (fun _ _ _ h => h) (Or.inl ⟨by rfl, by intro w hSw; go_simp⟩) (by assumption) ?_
                simp only [Act.put, List.setIfInBounds_toArray, List.set_cons_zero, List.set_cons_succ]
                refine wpAnyH_take (i := 6) (oi := { dst := some 72, op := Op.move (Operand.tmp 7), type := 45, pos := "outright.go:68", after := #[{ on := 5, ground := Ground.guard }], guard := some (5, false) }) (v := .slice (some ⟨gl, 0, none⟩) A.length cap) rfl (by kernel_rfl) (by kernel_rfl) (by kernel_rfl) (fun _ _ _ h => h) (Or.inl ⟨by rfl, by intro w hSw; go_simp⟩) (by assumption) ?_
                simp only [Act.put, List.setIfInBounds_toArray, List.set_cons_zero, List.set_cons_succ]
                refine wpAnyH_take (i := 7) (oi := { dst := some 73, op := Op.move (Operand.tmp 8), type := 3, pos := "outright.go:68", after := #[{ on := 5, ground := Ground.guard }], guard := some (5, false) }) (v := .int .i64 ((k : Int) + 1)) rfl (by kernel_rfl) (by kernel_rfl) (by kernel_rfl) (fun _ _ _ h => h) (Or.inl ⟨by rfl, by intro w hSw; go_simp⟩) (by assumption) ?_
                simp only [Act.put, List.setIfInBounds_toArray, List.set_cons_zero, List.set_cons_succ]
                refine wpAnyH_take (i := 8) (oi := { dst := some 74, op := Op.indexAddr 45 (Operand.tmp 72) (Operand.tmp 73), type := 0, pos := "outright.go:68", after := #[{ on := 6, ground := Ground.data }, { on := 7, ground := Ground.data }, { on := 5, ground := Ground.guard }], guard := some (5, false) }) (v := .pointer (some ⟨gl, k + 1, none⟩)) rfl (by kernel_rfl) (by kernel_rfl) (by kernel_rfl) (fun _ _ _ h => h) (Or.inl ⟨by rfl, by intro w hSw; go_simp⟩) (by assumption) ?_
                simp only [Act.put, List.setIfInBounds_toArray, List.set_cons_zero, List.set_cons_succ]
                refine wpAnyH_take (i := 9) (oi := { dst := some 75, op := Op.load 3 (Operand.tmp 74), type := 3, pos := "outright.go:68", after := #[{ on := 8, ground := Ground.data }, { on := 5, ground := Ground.guard }], guard := some (5, false) }) (v := .int .i64 (x : Int)) rfl (by kernel_rfl) (by kernel_rfl) (by kernel_rfl) (fun _ _ _ h => h) (Or.inl ⟨by rfl, by intro w hSw; have hc := hSw.1; go_simp⟩) (by assumption) ?_
                simp only [Act.put, List.setIfInBounds_toArray, List.set_cons_zero, List.set_cons_succ]
                refine wpAnyH_take (i := 10) (oi := { dst := some 76, op := Op.binOp BinOp.geq 3 (Operand.tmp 75) (Operand.const (Value.int IntKind.i64 8)) 3, type := 4, pos := "outright.go:68", after := #[{ on := 9, ground := Ground.data }, { on := 5, ground := Ground.guard }], guard := some (5, false) }) (v := .bool false) rfl (by kernel_rfl) (by kernel_rfl) (by kernel_rfl) (fun _ _ _ h => h) (Or.inl ⟨by rfl, by intro w hSw; go_simp⟩) (by assumption) ?_
                simp only [Act.put, List.setIfInBounds_toArray, List.set_cons_zero, List.set_cons_succ]
                refine wpAnyH_take (i := 11) (oi := { dst := some 77, op := Op.pick (Operand.tmp 71) (Operand.const (Value.bool true)) (Operand.tmp 76), type := 4, pos := "outright.go:68", after := #[{ on := 5, ground := Ground.data }, { on := 10, ground := Ground.data }], guard := none }) (v := .bool false) rfl (by kernel_rfl) (by kernel_rfl) (by kernel_rfl) (fun _ _ _ h => h) (Or.inl ⟨by rfl, by intro w hSw; go_simp⟩) (by assumption) ?_
                simp only [Act.put, List.setIfInBounds_toArray, List.set_cons_zero, List.set_cons_succ]
                refine wpAnyH_take (i := 12) (oi := { dst := some 78, op := Op.move (Operand.tmp 77), type := 4, pos := "outright.go:68", after := #[{ on := 11, ground := Ground.data }, { on := 5, ground := Ground.chain }], guard := none }) (v := .bool false) rfl (by kernel_rfl) (by kernel_rfl) (by kernel_rfl) (fun _ _ _ h => h) (Or.inl ⟨by rfl, by intro w hSw; go_simp⟩) (by assumption) ?_
                simp only [Act.put, List.setIfInBounds_toArray, List.set_cons_zero, List.set_cons_succ]
                refine wpAnyH_take (i := 13) (oi := { dst := some 79, op := Op.move (Operand.tmp 7), type := 45, pos := "outright.go:68", after := #[{ on := 12, ground := Ground.guard }], guard := some (12, false) }) (v := .slice (some ⟨gl, 0, none⟩) A.length cap) rfl (by kernel_rfl) (by kernel_rfl) (by kernel_rfl) (fun _ _ _ h => h) (Or.inl ⟨by rfl, by intro w hSw; go_simp⟩) (by assumption) ?_
                simp only [Act.put, List.setIfInBounds_toArray, List.set_cons_zero, List.set_cons_succ]
                refine wpAnyH_take (i := 14) (oi := { dst := some 80, op := Op.move (Operand.tmp 8), type := 3, pos := "outright.go:68", after := #[{ on := 12, ground := Ground.guard }], guard := some (12, false) }) (v := .int .i64 ((k : Int) + 1)) rfl (by kernel_rfl) (by kernel_rfl) (by kernel_rfl) (fun _ _ _ h => h) (Or.inl ⟨by rfl, by intro w hSw; go_simp⟩) (by assumption) ?_
                simp only [Act.put, List.setIfInBounds_toArray, List.set_cons_zero, List.set_cons_succ]
                refine wpAnyH_take (i := 15) (oi := { dst := some 81, op := Op.indexAddr 45 (Operand.tmp 79) (Operand.tmp 80), type := 0, pos := "outright.go:68", after := #[{ on := 13, ground := Ground.data }, { on := 14, ground := Ground.data }, { on := 12, ground := Ground.guard }], guard := some (12, false) }) (v := .pointer (some ⟨gl, k + 1, none⟩)) rfl (by kernel_rfl) (by kernel_rfl) (by kernel_rfl) (fun _ _ _ h => h) (Or.inl ⟨by rfl, by intro w hSw; go_simp⟩) (by assumption) ?_
                simp only [Act.put, List.setIfInBounds_toArray, List.set_cons_zero, List.set_cons_succ]
                refine wpAnyH_take (i := 16) (oi := { dst := some 82, op := Op.load 3 (Operand.tmp 81), type := 3, pos := "outright.go:68", after := #[{ on := 15, ground := Ground.data }, { on := 12, ground := Ground.guard }], guard := some (12, false) }) (v := .int .i64 (x : Int)) rfl (by kernel_rfl) (by kernel_rfl) (by kernel_rfl) (fun _ _ _ h => h) (Or.inl ⟨by rfl, by intro w hSw; have hc := hSw.1; go_simp⟩) (by assumption) ?_
                simp only [Act.put, List.setIfInBounds_toArray, List.set_cons_zero, List.set_cons_succ]
                refine wpAnyH_take (i := 17) (oi := { dst := some 83, op := Op.move (Operand.tmp 5), type := 3, pos := "outright.go:68", after := #[{ on := 12, ground := Ground.guard }], guard := some (12, false) }) (v := .int .i64 (j : Int)) rfl (by kernel_rfl) (by kernel_rfl) (by kernel_rfl) (fun _ _ _ h => h) (Or.inl ⟨by rfl, by intro w hSw; go_simp⟩) (by assumption) ?_
                simp only [Act.put, List.setIfInBounds_toArray, List.set_cons_zero, List.set_cons_succ]
                refine wpAnyH_take (i := 18) (oi := { dst := some 84, op := Op.binOp BinOp.eql 3 (Operand.tmp 82) (Operand.tmp 83) 3, type := 4, pos := "outright.go:68", after := #[{ on := 16, ground := Ground.data }, { on := 17, ground := Ground.data }, { on := 12, ground := Ground.guard }], guard := some (12, false) }) (v := .bool false) rfl (by kernel_rfl) (by kernel_rfl) (by kernel_rfl) (fun _ _ _ h => h) (Or.inl ⟨by rfl, by intro w hSw; go_simp⟩) (by assumption) ?_
                simp only [Act.put, List.setIfInBounds_toArray, List.set_cons_zero, List.set_cons_succ]
                refine wpAnyH_take (i := 19) (oi := { dst := some 85, op := Op.pick (Operand.tmp 78) (Operand.const (Value.bool true)) (Operand.tmp 84), type := 4, pos := "outright.go:68", after := #[{ on := 12, ground := Ground.data }, { on := 18, ground := Ground.data }], guard := none }) (v := .bool false) rfl (by kernel_rfl) (by kernel_rfl) (by kernel_rfl) (fun _ _ _ h => h) (Or.inl ⟨by rfl, by intro w hSw; go_simp⟩) (by assumption) ?_
                simp only [Act.put, List.setIfInBounds_toArray, List.set_cons_zero, List.set_cons_succ]
                refine wpAnyH_take (i := 20) (oi := { dst := some 86, op := Op.move (Operand.tmp 85), type := 4, pos := "outright.go:68", after := #[{ on := 19, ground := Ground.data }, { on := 12, ground := Ground.chain }], guard := none }) (v := .bool false) rfl (by kernel_rfl) (by kernel_rfl) (by kernel_rfl) (fun _ _ _ h => h) (Or.inl ⟨by rfl, by intro w hSw; go_simp⟩) (by assumption) ?_
                simp only [Act.put, List.setIfInBounds_toArray, List.set_cons_zero, List.set_cons_succ]
                refine wpAnyH_take (i := 21) (oi := { dst := some 87, op := Op.move (Operand.tmp 0), type := 23, pos := "outright.go:68", after := #[{ on := 20, ground := Ground.guard }], guard := some (20, false) }) (v := .pointer (some ⟨p.g, 0, none⟩)) rfl (by kernel_rfl) (by kernel_rfl) (by kernel_rfl) (fun _ _ _ h => h) (Or.inl ⟨by rfl, by intro w hSw; go_simp⟩) (by assumption) ?_
                simp only [Act.put, List.setIfInBounds_toArray, List.set_cons_zero, List.set_cons_succ]
                refine wpAnyH_take (i := 22) (oi := { dst := some 88, op := Op.move (Operand.tmp 7), type := 45, pos := "outright.go:68", after := #[{ on := 20, ground := Ground.guard }], guard := some (20, false) }) (v := .slice (some ⟨gl, 0, none⟩) A.length cap) rfl (by kernel_rfl) (by kernel_rfl) (by kernel_rfl) (fun _ _ _ h => h) (Or.inl ⟨by rfl, by intro w hSw; go_simp⟩) (by assumption) ?_
                simp only [Act.put, List.setIfInBounds_toArray, List.set_cons_zero, List.set_cons_succ]
                refine wpAnyH_take (i := 23) (oi := { dst := some 89, op := Op.move (Operand.tmp 8), type := 3, pos := "outright.go:68", after := #[{ on := 20, ground := Ground.guard }], guard := some (20, false) }) (v := .int .i64 ((k : Int) + 1)) rfl (by kernel_rfl) (by kernel_rfl) (by kernel_rfl) (fun _ _ _ h => h) (Or.inl ⟨by rfl, by intro w hSw; go_simp⟩) (by assumption) ?_
                simp only [Act.put, List.setIfInBounds_toArray, List.set_cons_zero, List.set_cons_succ]
                refine wpAnyH_take (i := 24) (oi := { dst := some 90, op := Op.indexAddr 45 (Operand.tmp 88) (Operand.tmp 89), type := 0, pos := "outright.go:68", after := #[{ on := 22, ground := Ground.data }, { on := 23, ground := Ground.data }, { on := 20, ground := Ground.guard }], guard := some (20, false) }) (v := .pointer (some ⟨gl, k + 1, none⟩)) rfl (by kernel_rfl) (by kernel_rfl) (by kernel_rfl) (fun _ _ _ h => h) (Or.inl ⟨by rfl, by intro w hSw; go_simp⟩) (by assumption) ?_
                simp only [Act.put, List.setIfInBounds_toArray, List.set_cons_zero, List.set_cons_succ]
                refine wpAnyH_take (i := 25) (oi := { dst := some 91, op := Op.load 3 (Operand.tmp 90), type := 3, pos := "outright.go:68", after := #[{ on := 24, ground := Ground.data }, { on := 20, ground := Ground.guard }], guard := some (20, false) }) (v := .int .i64 (x : Int)) rfl (by kernel_rfl) (by kernel_rfl) (by kernel_rfl) (fun _ _ _ h => h) (Or.inl ⟨by rfl, by intro w hSw; have hc := hSw.1; go_simp⟩) (by assumption) ?_
                simp only [Act.put, List.setIfInBounds_toArray, List.set_cons_zero, List.set_cons_succ]
                refine wpAnyH_take (i := 28) (oi := { dst := some 94, op := Op.move (Operand.tmp 5), type := 3, pos := "outright.go:68", after := #[{ on := 20, ground := Ground.guard }], guard := some (20, false) }) (v := .int .i64 (j : Int)) rfl (by kernel_rfl) (by kernel_rfl) (by kernel_rfl) (fun _ _ _ h => h) (Or.inl ⟨by rfl, by intro w hSw; go_simp⟩) (by assumption) ?_
                simp only [Act.put, List.setIfInBounds_toArray, List.set_cons_zero, List.set_cons_succ]
                refine wpAnyH_ready (rs := [26]) (by kernel_rfl) (by simp) (AllReadyH.cons (o := { dst := some 92, op := Op.call { callee := Callee.value (Operand.func 29), args := #[Operand.tmp 87, Operand.tmp 91], argTypes := #[23, 3] }, type := 62, pos := "outright.go:68", after := #[{ on := 21, ground := Ground.data }, { on := 25, ground := Ground.data }, { on := 20, ground := Ground.chain }, { on := 20, ground := Ground.guard }], guard := some (20, false) }) rfl (fun KQ hK => ?_) AllReadyH.nil)
                go_simp
                refine (HAx.out _ DZ.out.db).mono ?_
                rintro e w5 ⟨rfl, hb⟩
                have DY := hid (DZ.out.on hb)
                have HCy1 := hid (HCz.out.on hb)
                clear hb
                go_wp2_with fail
                refine hK.out _ _ ⟨HCk.out _ HCy1.out, HCy.out _ HCy1.out⟩ (fun hHeld => ?_)
                clear hK KQ
                try simp only [Act.put, List.setIfInBounds_toArray, List.set_cons_zero, List.set_cons_succ]
                refine wpAnyH_take (i := 27) (oi := { dst := some 93, op := Op.field 62 (Operand.tmp 92) 1, type := 3, pos := "outright.go:68", after := #[{ on := 26, ground := Ground.data }, { on := 20, ground := Ground.guard }], guard := some (20, false) }) (v := .int .i64 (j : Int)) rfl (by kernel_rfl) (by kernel_rfl) (by kernel_rfl) (fun _ _ _ h => h) (Or.inl ⟨by rfl, by intro w hSw; go_simp⟩) (by assumption) ?_
                simp only [Act.put, List.setIfInBounds_toArray, List.set_cons_zero, List.set_cons_succ]
                refine wpAnyH_take (i := 29) (oi := { dst := some 95, op := Op.binOp BinOp.neq 3 (Operand.tmp 93) (Operand.tmp 94) 3, type := 4, pos := "outright.go:68", after := #[{ on := 27, ground := Ground.data }, { on := 28, ground := Ground.data }, { on := 20, ground := Ground.guard }], guard := some (20, false) }) (v := .bool false) rfl (by kernel_rfl) (by kernel_rfl) (by kernel_rfl) (fun _ _ _ h => h) (Or.inl ⟨by rfl, by intro w hSw; go_simp⟩) (by assumption) ?_
                simp only [Act.put, List.setIfInBounds_toArray, List.set_cons_zero, List.set_cons_succ]
                refine wpAnyH_take (i := 30) (oi := { dst := some 96, op := Op.pick (Operand.tmp 86) (Operand.const (Value.bool true)) (Operand.tmp 95), type := 4, pos := "outright.go:68", after := #[{ on := 20, ground := Ground.data }, { on := 29, ground := Ground.data }], guard := none }) (v := .bool false) rfl (by kernel_rfl) (by kernel_rfl) (by kernel_rfl) (fun _ _ _ h => h) (Or.inl ⟨by rfl, by intro w hSw; go_simp⟩) (by assumption) ?_
                simp only [Act.put, List.setIfInBounds_toArray, List.set_cons_zero, List.set_cons_succ]
                refine wpAnyH_take (i := 31) (oi := { dst := some 97, op := Op.move (Operand.tmp 96), type := 4, pos := "outright.go:68", after := #[{ on := 30, ground := Ground.data }, { on := 26, ground := Ground.chain }], guard := none }) (v := .bool false) rfl (by kernel_rfl) (by kernel_rfl) (by kernel_rfl) (fun _ _ _ h => h) (Or.inl ⟨by rfl, by intro w hSw; go_simp⟩) (by assumption) ?_
                simp only [Act.put, List.setIfInBounds_toArray, List.set_cons_zero, List.set_cons_succ]
                refine wpAnyH_take (i := 32) (oi := { dst := some 98, op := Op.move (Operand.tmp 0), type := 23, pos := "outright.go:68", after := #[{ on := 31, ground := Ground.guard }], guard := some (31, false) }) (v := .pointer (some ⟨p.g, 0, none⟩)) rfl (by kernel_rfl) (by kernel_rfl) (by kernel_rfl) (fun _ _ _ h => h) (Or.inl ⟨by rfl, by intro w hSw; go_simp⟩) (by assumption) ?_
                simp only [Act.put, List.setIfInBounds_toArray, List.set_cons_zero, List.set_cons_succ]
                refine wpAnyH_take (i := 33) (oi := { dst := some 99, op := Op.move (Operand.tmp 7), type := 45, pos := "outright.go:68", after := #[{ on := 31, ground := Ground.guard }], guard := some (31, false) }) (v := .slice (some ⟨gl, 0, none⟩) A.length cap) rfl (by kernel_rfl) (by kernel_rfl) (by kernel_rfl) (fun _ _ _ h => h) (Or.inl ⟨by rfl, by intro w hSw; go_simp⟩) (by assumption) ?_
                simp only [Act.put, List.setIfInBounds_toArray, List.set_cons_zero, List.set_cons_succ]
                refine wpAnyH_take (i := 34) (oi := { dst := some 100, op := Op.move (Operand.tmp 8), type := 3, pos := "outright.go:68", after := #[{ on := 31, ground := Ground.guard }], guard := some (31, false) }) (v := .int .i64 ((k : Int) + 1)) rfl (by kernel_rfl) (by kernel_rfl) (by kernel_rfl) (fun _ _ _ h => h) (Or.inl ⟨by rfl, by intro w hSw; go_simp⟩) (by assumption) ?_
                simp only [Act.put, List.setIfInBounds_toArray, List.set_cons_zero, List.set_cons_succ]
                refine wpAnyH_take (i := 35) (oi := { dst := some 101, op := Op.indexAddr 45 (Operand.tmp 99) (Operand.tmp 100), type := 0, pos := "outright.go:68", after := #[{ on := 33, ground := Ground.data }, { on := 34, ground := Ground.data }, { on := 31, ground := Ground.guard }], guard := some (31, false) }) (v := .pointer (some ⟨gl, k + 1, none⟩)) rfl (by kernel_rfl) (by kernel_rfl) (by kernel_rfl) (fun _ _ _ h => h) (Or.inl ⟨by rfl, by intro w hSw; go_simp⟩) (by assumption) ?_
                simp only [Act.put, List.setIfInBounds_toArray, List.set_cons_zero, List.set_cons_succ]
                refine wpAnyH_take (i := 36) (oi := { dst := some 102, op := Op.load 3 (Operand.tmp 101), type := 3, pos := "outright.go:68", after := #[{ on := 35, ground := Ground.data }, { on := 31, ground := Ground.guard }], guard := some (31, false) }) (v := .int .i64 (x : Int)) rfl (by kernel_rfl) (by kernel_rfl) (by kernel_rfl) (fun _ _ _ h => h) (Or.inl ⟨by rfl, by intro w hSw; have hc := hSw.1; go_simp⟩) (by assumption) ?_
                simp only [Act.put, List.setIfInBounds_toArray, List.set_cons_zero, List.set_cons_succ]
                refine wpAnyH_ready (rs := [37]) (by kernel_rfl) (by simp) (AllReadyH.cons (o := { dst := some 103, op := Op.call { callee := Callee.value (Operand.func 29), args := #[Operand.tmp 98, Operand.tmp 102], argTypes := #[23, 3] }, type := 62, pos := "outright.go:68", after := #[{ on := 32, ground := Ground.data }, { on := 36, ground := Ground.data }, { on := 31, ground := Ground.chain }, { on := 31, ground := Ground.guard }], guard := some (31, false) }) rfl (fun KQ hK => ?_) AllReadyH.nil)
                go_simp
                refine (HAx.out _ DY.out.db).mono ?_
                rintro e w6 ⟨rfl, hb⟩
                have DX := hid (DY.out.on hb)
                have HCx1 := hid (HCy1.out.on hb)
                clear hb
                go_wp2_with fail
                refine hK.out _ _ ⟨HCk.out _ HCx1.out, HCy.out _ HCx1.out⟩ (fun hHeld => ?_)
                clear hK KQ
                try simp only [Act.put, List.setIfInBounds_toArray, List.set_cons_zero, List.set_cons_succ]
                refine wpAnyH_take (i := 38) (oi := { dst := some 104, op := Op.field 62 (Operand.tmp 103) 0, type := 44, pos := "outright.go:68", after := #[{ on := 37, ground := Ground.data }, { on := 31, ground := Ground.guard }], guard := some (31, false) }) (v := .int .i64 yt) rfl (by kernel_rfl) (by kernel_rfl) (by kernel_rfl) (fun _ _ _ h => h) (Or.inl ⟨by rfl, by intro w hSw; go_simp⟩) (by assumption) ?_
                simp only [Act.put, List.setIfInBounds_toArray, List.set_cons_zero, List.set_cons_succ]
                refine wpAnyH_take (i := 39) (oi := { dst := some 105, op := Op.binOp BinOp.eql 44 (Operand.tmp 104) (Operand.const (Value.int IntKind.i64 0)) 44, type := 4, pos := "outright.go:68", after := #[{ on := 38, ground := Ground.data }, { on := 31, ground := Ground.guard }], guard := some (31, false) }) (v := .bool false) rfl (by kernel_rfl) (by kernel_rfl) (by kernel_rfl) (fun _ _ _ h => h) (Or.inl ⟨by rfl, by intro w hSw; go_simp⟩) (by assumption) ?_
                simp only [Act.put, List.setIfInBounds_toArray, List.set_cons_zero, List.set_cons_succ]
                refine wpAnyH_take (i := 40) (oi := { dst := some 106, op := Op.pick (Operand.tmp 97) (Operand.const (Value.bool true)) (Operand.tmp 105), type := 4, pos := "outright.go:68", after := #[{ on := 31, ground := Ground.data }, { on := 39, ground := Ground.data }], guard := none }) (v := .bool false) rfl (by kernel_rfl) (by kernel_rfl) (by kernel_rfl) (fun _ _ _ h => h) (Or.inl ⟨by rfl, by intro w hSw; go_simp⟩) (by assumption) ?_
                simp only [Act.put, List.setIfInBounds_toArray, List.set_cons_zero, List.set_cons_succ]
                refine wpAnyH_take (i := 41) (oi := { dst := some 107, op := Op.move (Operand.tmp 106), type := 4, pos := "outright.go:68", after := #[{ on := 40, ground := Ground.data }, { on := 37, ground := Ground.chain }], guard := none }) (v := .bool false) rfl (by kernel_rfl) (by kernel_rfl) (by kernel_rfl) (fun _ _ _ h => h) (Or.inl ⟨by rfl, by intro w hSw; go_simp⟩) (by assumption) ?_
                simp only [Act.put, List.setIfInBounds_toArray, List.set_cons_zero, List.set_cons_succ]
                refine wpAnyH_take (i := 42) (oi := { dst := some 108, op := Op.move (Operand.tmp 8), type := 3, pos := "outright.go:68", after := #[{ on := 41, ground := Ground.guard }], guard := some (41, false) }) (v := .int .i64 ((k : Int) + 1)) rfl (by kernel_rfl) (by kernel_rfl) (by kernel_rfl) (fun _ _ _ h => h) (Or.inl ⟨by rfl, by intro w hSw; go_simp⟩) (by assumption) ?_
                simp only [Act.put, List.setIfInBounds_toArray, List.set_cons_zero, List.set_cons_succ]
                refine wpAnyH_take (i := 43) (oi := { dst := some 109, op := Op.binOp BinOp.gtr 3 (Operand.tmp 108) (Operand.const (Value.int IntKind.i64 0)) 3, type := 4, pos := "outright.go:68", after := #[{ on := 42, ground := Ground.data }, { on := 41, ground := Ground.guard }], guard := some (41, false) }) (v := .bool true) rfl (by kernel_rfl) (by kernel_rfl) (by kernel_rfl) (fun _ _ _ h => h) (Or.inl ⟨by rfl, by intro w hSw; go_simp⟩) (by assumption) ?_
                simp only [Act.put, List.setIfInBounds_toArray, List.set_cons_zero, List.set_cons_succ]
                refine wpAnyH_take (i := 44) (oi := { dst := some 110, op := Op.move (Operand.tmp 109), type := 4, pos := "outright.go:68", after := #[{ on := 43, ground := Ground.data }, { on := 41, ground := Ground.chain }, { on := 41, ground := Ground.guard }], guard := some (41, false) }) (v := .bool true) rfl (by kernel_rfl) (by kernel_rfl) (by kernel_rfl) (fun _ _ _ h => h) (Or.inl ⟨by rfl, by intro w hSw; go_simp⟩) (by assumption) ?_
                simp only [Act.put, List.setIfInBounds_toArray, List.set_cons_zero, List.set_cons_succ]
                refine wpAnyH_take (i := 45) (oi := { dst := some 111, op := Op.move (Operand.tmp 7), type := 45, pos := "outright.go:68", after := #[{ on := 44, ground := Ground.guard }], guard := some (44, true) }) (v := .slice (some ⟨gl, 0, none⟩) A.length cap) rfl (by kernel_rfl) (by kernel_rfl) (by kernel_rfl) (fun _ _ _ h => h) (Or.inl ⟨by rfl, by intro w hSw; go_simp⟩) (by assumption) ?_
                simp only [Act.put, List.setIfInBounds_toArray, List.set_cons_zero, List.set_cons_succ]
                refine wpAnyH_take (i := 46) (oi := { dst := some 112, op := Op.move (Operand.tmp 8), type := 3, pos := "outright.go:68", after := #[{ on := 44, ground := Ground.guard }], guard := some (44, true) }) (v := .int .i64 ((k : Int) + 1)) rfl (by kernel_rfl) (by kernel_rfl) (by kernel_rfl) (fun _ _ _ h => h) (Or.inl ⟨by rfl, by intro w hSw; go_simp⟩) (by assumption) ?_
                simp only [Act.put, List.setIfInBounds_toArray, List.set_cons_zero, List.set_cons_succ]
                refine wpAnyH_take (i := 47) (oi := { dst := some 113, op := Op.indexAddr 45 (Operand.tmp 111) (Operand.tmp 112), type := 0, pos := "outright.go:68", after := #[{ on := 45, ground := Ground.data }, { on := 46, ground := Ground.data }, { on := 44, ground := Ground.guard }], guard := some (44, true) }) (v := .pointer (some ⟨gl, k + 1, none⟩)) rfl (by kernel_rfl) (by kernel_rfl) (by kernel_rfl) (fun _ _ _ h => h) (Or.inl ⟨by rfl, by intro w hSw; go_simp⟩) (by assumption) ?_
                simp only [Act.put, List.setIfInBounds_toArray, List.set_cons_zero, List.set_cons_succ]
                refine wpAnyH_take (i := 48) (oi := { dst := some 114, op := Op.load 3 (Operand.tmp 113), type := 3, pos := "outright.go:68", after := #[{ on := 47, ground := Ground.data }, { on := 44, ground := Ground.guard }], guard := some (44, true) }) (v := .int .i64 (x : Int)) rfl (by kernel_rfl) (by kernel_rfl) (by kernel_rfl) (fun _ _ _ h => h) (Or.inl ⟨by rfl, by intro w hSw; have hc := hSw.1; go_simp⟩) (by assumption) ?_
                simp only [Act.put, List.setIfInBounds_toArray, List.set_cons_zero, List.set_cons_succ]
                refine wpAnyH_take (i := 49) (oi := { dst := some 115, op := Op.move (Operand.tmp 7), type := 45, pos := "outright.go:68", after := #[{ on := 44, ground := Ground.guard }], guard := some (44, true) }) (v := .slice (some ⟨gl, 0, none⟩) A.length cap) rfl (by kernel_rfl) (by kernel_rfl) (by kernel_rfl) (fun _ _ _ h => h) (Or.inl ⟨by rfl, by intro w hSw; go_simp⟩) (by assumption) ?_
                simp only [Act.put, List.setIfInBounds_toArray, List.set_cons_zero, List.set_cons_succ]
                refine wpAnyH_take (i := 50) (oi := { dst := some 116, op := Op.move (Operand.tmp 8), type := 3, pos := "outright.go:68", after := #[{ on := 44, ground := Ground.guard }], guard := some (44, true) }) (v := .int .i64 ((k : Int) + 1)) rfl (by kernel_rfl) (by kernel_rfl) (by kernel_rfl) (fun _ _ _ h => h) (Or.inl ⟨by rfl, by intro w hSw; go_simp⟩) (by assumption) ?_
                simp only [Act.put, List.setIfInBounds_toArray, List.set_cons_zero, List.set_cons_succ]
                refine wpAnyH_take (i := 51) (oi := { dst := some 117, op := Op.binOp BinOp.sub 3 (Operand.tmp 116) (Operand.const (Value.int IntKind.i64 1)) 3, type := 3, pos := "outright.go:68", after := #[{ on := 50, ground := Ground.data }, { on := 44, ground := Ground.guard }], guard := some (44, true) }) (v := .int .i64 (k : Int)) rfl (by kernel_rfl) (by kernel_rfl) (by kernel_rfl) (fun _ _ _ h => h) (Or.inl ⟨by rfl, by intro w hSw; go_simp⟩) (by assumption) ?_
                simp only [Act.put, List.setIfInBounds_toArray, List.set_cons_zero, List.set_cons_succ]
                refine wpAnyH_take (i := 52) (oi := { dst := some 118, op := Op.indexAddr 45 (Operand.tmp 115) (Operand.tmp 117), type := 0, pos := "outright.go:68", after := #[{ on := 49, ground := Ground.data }, { on := 51, ground := Ground.data }, { on := 44, ground := Ground.guard }], guard := some (44, true) }) (v := .pointer (some ⟨gl, k, none⟩)) rfl (by kernel_rfl) (by kernel_rfl) (by kernel_rfl) (fun _ _ _ h => h) (Or.inl ⟨by rfl, by intro w hSw; go_simp⟩) (by assumption) ?_
                simp only [Act.put, List.setIfInBounds_toArray, List.set_cons_zero, List.set_cons_succ]
                refine wpAnyH_take (i := 53) (oi := { dst := some 119, op := Op.load 3 (Operand.tmp 118), type := 3, pos := "outright.go:68", after := #[{ on := 52, ground := Ground.data }, { on := 44, ground := Ground.guard }], guard := some (44, true) }) (v := .int .i64 (y : Int)) rfl (by kernel_rfl) (by kernel_rfl) (by kernel_rfl) (fun _ _ _ h => h) (Or.inl ⟨by rfl, by intro w hSw; have hc := hSw.2; go_simp⟩) (by assumption) ?_
                simp only [Act.put, List.setIfInBounds_toArray, List.set_cons_zero, List.set_cons_succ]
                refine wpAnyH_take (i := 54) (oi := { dst := some 120, op := Op.binOp BinOp.leq 3 (Operand.tmp 114) (Operand.tmp 119) 3, type := 4, pos := "outright.go:68", after := #[{ on := 48, ground := Ground.data }, { on := 53, ground := Ground.data }, { on := 44, ground := Ground.guard }], guard := some (44, true) }) (v := .bool false) rfl (by kernel_rfl) (by kernel_rfl) (by kernel_rfl) (fun _ _ _ h => h) (Or.inl ⟨by rfl, by intro w hSw; go_simp⟩) (by assumption) ?_
                simp only [Act.put, List.setIfInBounds_toArray, List.set_cons_zero, List.set_cons_succ]
                refine wpAnyH_take (i := 55) (oi := { dst := some 121, op := Op.pick (Operand.tmp 110) (Operand.tmp 120) (Operand.const (Value.bool false)), type := 4, pos := "outright.go:68", after := #[{ on := 44, ground := Ground.data }, { on := 54, ground := Ground.data }, { on := 41, ground := Ground.guard }], guard := some (41, false) }) (v := .bool false) rfl (by kernel_rfl) (by kernel_rfl) (by kernel_rfl) (fun _ _ _ h => h) (Or.inl ⟨by rfl, by intro w hSw; go_simp⟩) (by assumption) ?_
                simp only [Act.put, List.setIfInBounds_toArray, List.set_cons_zero, List.set_cons_succ]
                refine wpAnyH_take (i := 56) (oi := { dst := some 122, op := Op.pick (Operand.tmp 107) (Operand.const (Value.bool true)) (Operand.tmp 121), type := 4, pos := "outright.go:68", after := #[{ on := 41, ground := Ground.data }, { on := 55, ground := Ground.data }], guard := none }) (v := .bool false) rfl (by kernel_rfl) (by kernel_rfl) (by kernel_rfl) (fun _ _ _ h => h) (Or.inl ⟨by rfl, by intro w hSw; go_simp⟩) (by assumption) ?_
                simp only [Act.put, List.setIfInBounds_toArray, List.set_cons_zero, List.set_cons_succ]
                refine wpAnyH_done (by kernel_rfl) ?_ _
                go_wp2_with fail
                go_roundw
                case measure => have := HK.out; simp [intOf] <;> omega
                case rel => exact ⟨k + 1 + 1, HK.out, by simp, hid ⟨DX.out, fun _ => ⟨gl, cs, rfl, HCx1.out, HPre.out⟩⟩⟩
            · have hkn : k = A.length := by omega
              subst hkn
              clear hkl hk
              have hw1 : wrap64 ((s0 : Int) + 1) = (s0 : Int) + 1 := by unfold wrap64; omega
              go_wp2_with fail
              go_roundw
              case measure => have := HJ.out; simp [intOf] <;> omega
              case rel => exact ⟨j + 1, HJ.out, by simp, by rw [HCe.out, HcN.out], by rw [HSe.out, HsN.out]; push_cast; congr 1; first | omega | (unfold wrap64; omega), hid ⟨HZ.out.1.db, ⟨by simp, HZ.out.1.bag.below⟩⟩⟩
        · have ht1' : (xt == 1) = false := by simpa using ht1
          have hl0 : A.length = 0 := by rw [HLe.out, if_neg (by simp [spc, ht1])]
          have hs1 : s1 = s0 := by rw [HS1.out, HSG.out]; simp [spc, ht1]
          have HsN := hid hs1
          rw [hl0]
          clear hs1 hl0 HW2 HLe HSG HS1 hb3 HIs HUp HCl4
          go_wp2_with fail
          go_loopw [8] (fun i wr => i = .int .i64 0 ∧ Hid (DQ W wr p d [(g6, 62, (En.mk xt xo xr xs xx).cs)])) (fun _ _ => 0)
          case atStart => exact ⟨rfl, D4⟩
          case round =>
            obtain ⟨rfl, HZ⟩ := hrel
            go_wp2_with fail
            go_roundw
            case measure => have := HJ.out; simp [intOf] <;> omega
            case rel => exact ⟨j + 1, HJ.out, by simp, by rw [HCe.out, HcN.out], by rw [HSe.out, HsN.out], hid ⟨HZ.out.db, ⟨by simp, HZ.out.bag.below⟩⟩⟩
    · have hj8 : j = 8 := by omega
      subst hj8
      have HF8 : Hid (d.free = cntN (fun k => isF (d.at k)) 8) := hid (by unfold DS.free; rw [H8.out])
      have hs8 : cntN (fun k => isF (d.at k)) 8 + sumN (sumG d) 8 = 8 := by have := HSum.out; rwa [H8.out] at this
      have hFq := hid (fun w hw => HFr.out w hw)
      rw [HF8.out] at hFq
      generalize cntN (fun k => isF (d.at k)) 8 = c0 at *
      generalize sumN (sumG d) 8 = s0 at *
      have q1 : (c0 : Int) + (s0 : Int) = 8 := by omega
      have q2 : wrap64 ((c0 : Int) + (s0 : Int)) = 8 := by rw [q1]; unfold wrap64; omega
      rw [show ((8 : Nat) : Int) = 8 from rfl]
      clear hlt hj hs8 q1
      go_wp2_with (go_at_call 16; refine (hFq.out _ HQ.out.db).mono ?_; rintro e w9 ⟨rfl, hb⟩; have HQ9 := hid (HQ.out.on hb); clear hb)
      go_ret
      exact ⟨rfl, HQ9.out.bag.below⟩
end Go.Proofs.Ytajkhkaidjjioaa
