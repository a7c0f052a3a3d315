import Derived.Test.YtdfnbcbnmiohnaaGreatDoorP28
import Derived.Test.YtdfnbcbnmiohnaaGreatDoorP01
import Derived.Test.YtdfnbcbnmiohnaaGreatDoorP26
import Derived.Test.YtdfnbcbnmiohnaaGreatDoorP27
import Derived.Test.YtdfnbcbnmiohnaaGreatDoorP14
namespace Go.Proofs.YtdfnbcbnmiohnaaGreatDoor
open Go.RowKit
set_option maxRecDepth 100000
set_option maxHeartbeats 4000000
theorem isPage_any (W : World) (p : Dp) (d : DS) (h : DB W p d) (w : Int) :
    Calls Tryz.prog 68 #[ptr p.g, .int .u32 w] W fun e W' => e = .returned (.bool (decide (w < (d.m.ns : Int)))) ∧ W = W' := by
  have HP := hid (pages_any W p d h)
  have hn := h.ok.n64
  have n1 : (d.m.ns : Int) ≤ 64 := by omega
  have n0 : 0 ≤ (d.m.ns : Int) := by omega
  generalize (d.m.ns : Int) = n at *
  have hc : IntKind.wrap .u32 n = n := by rw [IntKind.wrap_u32]; omega
  clear h hn
  go_enter Tryz.func68, Tryz.ntmps68
  go_wp2_with (first | (go_at_call 49; refine HP.out.mono ?_; rintro e w1 ⟨rfl, rfl⟩))
  go_ret
  exact ⟨rfl, rfl⟩
theorem lsecure_any (W : World) (q : Int) : Calls Tryz.prog 112 #[.int .i64 q] W fun x W' => x = .returned (fr true q) ∧ Below W.heap.size W W' := by
  unfold fr
  go_enter Tryz.func112, Tryz.ntmps112
  go_wp2_with fail
  go_returns
  exact ⟨rfl, below_one _ _⟩
theorem lframe_any (W : World) (q : Int) (q0 : 0 ≤ q) (q1 : q < 4294967296) : Calls Tryz.prog 26 #[.int .u32 q] W fun x W' => x = .returned (fr true q) ∧ Below W.heap.size W W' := by
  unfold fr
  have kx : IntKind.wrap .i64 q = q := by rw [IntKind.wrap_i64]; omega
  have kw : wrap64 q = q := by unfold wrap64; omega
  clear q0 q1
  go_enter Tryz.func26, Tryz.ntmps26
  go_wp2_with fail
  go_returns
  exact ⟨rfl, below_one _ _⟩
def DS.saE (d : DS) (w : Int) : Int := if w < (d.m.ns : Int) then (if (d.ent w).t = 1 then 0 else 3) else 1
def DS.saV (d : DS) (w : Int) : En := if d.saE w = 0 then d.ent w else En.zero
theorem spaceAt_any (W : World) (p : Dp) (d : DS) (h : DB W p d) (w : Int) (w0 : 0 ≤ w) :
    Calls Tryz.prog 61 #[ptr p.g, .int .u32 w] W fun e W' => e = .returned (.tuple #[(d.saV w).v, .int .u32 (d.saE w)]) ∧ Below W.heap.size W W' := by
  have B0 := hid (bag_one W 30 En.zero.cs)
  have HX := hid (h.on (below_one W (.cells En.zero.cs.toArray 30)))
  have HE := hid (fun u (hw : DB u p d) => entry_any u p d hw w)
  have HI := hid (fun u (hw : DB u p d) => isPage_any u p d hw w)
  have hn := h.ok.n64
  by_cases hw : w < (d.m.ns : Int)
  rotate_left
  · have hE : d.saE w = 1 := by unfold DS.saE; rw [if_neg hw]
    have hV : d.saV w = En.zero := by unfold DS.saV; rw [hE]; rfl
    rw [hE, hV]
    rw [decide_eq_false hw] at HI
    clear hE hV hw hn h w0 HE
    simp only [ptr, En.v, En.zero, En.cs] at HX B0 HI ⊢
    go_enter Tryz.func61, Tryz.ntmps61
    go_upto_region 1 with fail
    generalize W.alloc _ = X at *
    generalize hg : W.heap.size = g4 at B0 ⊢
    have HG := hid hg
    clear hg
    go_wp2_with (first | (go_at_call 68; refine (HI.out _ HX.out).mono ?_; rintro e w1 ⟨rfl, rfl⟩) | (refine wpList_build_zE rfl rfl ?_) | (refine wpList_store_st rfl 30 _ _ rfl g4 En.zero.cs rfl rfl (B0.out.get 0 rfl) sizeE rfl rfl ?_; intro w4 hc hb hs; have HF := hid (And.intro hc (B0.out.below.trans (hb.below (by have := HG.out; simp; omega) B0.out.below.size))); clear hc hb hs))
    exact ret_st2 rfl rfl g4 _ rfl HF.out.1 underE rfl sizeE ⟨rfl, HF.out.2⟩
  have kx : IntKind.wrap .i64 w = w := by rw [IntKind.wrap_i64]; omega
  have kw : wrap64 w = w := by unfold wrap64; omega
  rw [decide_eq_true hw] at HI
  have hEE : d.entE w = 0 := by unfold DS.entE DS.there; rw [if_pos (decide_eq_true ⟨w0, hw⟩)]
  rw [hEE] at HE
  by_cases ht : (d.ent w).t = 1
  · have hE : d.saE w = 0 := by unfold DS.saE; rw [if_pos hw, if_pos ht]
    have hV : d.saV w = d.ent w := by unfold DS.saV; rw [hE]; rfl
    rw [hE, hV]
    clear hE hV hw hn h w0 hEE
    generalize d.ent w = D at *
    obtain ⟨t', o, r, s, e⟩ := D
    simp only at ht
    subst ht
    simp only [ptr, En.v, En.zero, En.cs] at HX B0 HE HI ⊢
    go_enter Tryz.func61, Tryz.ntmps61
    go_upto_region 1 with fail
    generalize W.alloc _ = X at *
    generalize hg : W.heap.size = g4 at B0 ⊢
    have HG := hid hg
    clear hg
    go_upto_region 4 with (first | (go_at_call 68; refine (HI.out _ HX.out).mono ?_; rintro e w1 ⟨rfl, rfl⟩) | (go_at_call 45; refine (HE.out _ HX.out).mono ?_; rintro e w1 ⟨rfl, hb⟩; have B1 := hid (B0.out.on hb); clear hb) | (refine wpList_store_st rfl 30 _ _ rfl w1.heap.size [.int .i64 1, .int .i64 o, .int .i64 r, .int .i64 s, .bool e] rfl rfl (Cel.new w1 30 En.zero.cs) sizeE rfl rfl ?_; intro w2 hc hb hs; have B2 := hid (B1.out.add hc hb); clear hc hb hs))
    generalize w1.heap.size = g8 at *
    have c0 := (B2.out.get 0 rfl).cell 0
    simp only [tqG] at c0
    go_wp2_with (first | (refine wpList_load_mid rfl 30 _ rfl g8 0 rfl _ _ ((B2.out.get 0 rfl).range) underE rfl (by rw [sizeE]; rfl) ?_) | (refine wpList_store_st rfl 30 _ _ rfl g4 [.int .i64 1, .int .i64 o, .int .i64 r, .int .i64 s, .bool e] rfl rfl (B2.out.get 1 rfl) sizeE rfl rfl ?_; intro w4 hc hb hs; have HF := hid (And.intro hc (B2.out.below.trans (hb.below (by have := HG.out; simp; omega) B2.out.below.size))); clear hc hb hs))
    exact ret_st2 rfl rfl g4 _ rfl HF.out.1 underE rfl sizeE ⟨rfl, HF.out.2⟩
  · have hE : d.saE w = 3 := by unfold DS.saE; rw [if_pos hw, if_neg ht]
    have hV : d.saV w = En.zero := by unfold DS.saV; rw [hE]; rfl
    rw [hE, hV]
    clear hE hV hw hn h w0 hEE
    generalize d.ent w = D at *
    obtain ⟨t', o, r, s, e⟩ := D
    simp only at ht
    have ht' : (t' != 1) = true := by simpa using ht
    clear ht
    simp only [ptr, En.v, En.zero, En.cs] at HX B0 HE HI ⊢
    go_enter Tryz.func61, Tryz.ntmps61
    go_upto_region 1 with fail
    generalize W.alloc _ = X at *
    generalize hg : W.heap.size = g4 at B0 ⊢
    have HG := hid hg
    clear hg
    go_upto_region 4 with (first | (go_at_call 68; refine (HI.out _ HX.out).mono ?_; rintro e w1 ⟨rfl, rfl⟩) | (go_at_call 45; refine (HE.out _ HX.out).mono ?_; rintro e w1 ⟨rfl, hb⟩; have B1 := hid (B0.out.on hb); clear hb) | (refine wpList_store_st rfl 30 _ _ rfl w1.heap.size [.int .i64 t', .int .i64 o, .int .i64 r, .int .i64 s, .bool e] rfl rfl (Cel.new w1 30 En.zero.cs) sizeE rfl rfl ?_; intro w2 hc hb hs; have B2 := hid (B1.out.add hc hb); clear hc hb hs))
    generalize w1.heap.size = g8 at *
    have c0 := (B2.out.get 0 rfl).cell 0
    simp only [tqG] at c0
    go_wp2_with (first | (refine wpList_build_zE rfl rfl ?_) | (refine wpList_store_st rfl 30 _ _ rfl g4 En.zero.cs rfl rfl (B2.out.get 1 rfl) sizeE rfl rfl ?_; intro w4 hc hb hs; have HF := hid (And.intro hc (B2.out.below.trans (hb.below (by have := HG.out; simp; omega) B2.out.below.size))); clear hc hb hs))
    exact ret_st2 rfl rfl g4 _ rfl HF.out.1 underE rfl sizeE ⟨rfl, HF.out.2⟩
end Go.Proofs.YtdfnbcbnmiohnaaGreatDoor
namespace Go.Proofs.YtdfnbcbnmiohnaaGreatDoor
open Go.RowKit
end Go.Proofs.YtdfnbcbnmiohnaaGreatDoor
namespace Go.Proofs.YtdfnbcbnmiohnaaGreatDoor
open Go.RowKit
end Go.Proofs.YtdfnbcbnmiohnaaGreatDoor
namespace Go.Proofs.YtdfnbcbnmiohnaaGreatDoor
open Go.RowKit
end Go.Proofs.YtdfnbcbnmiohnaaGreatDoor
namespace Go.Proofs.YtdfnbcbnmiohnaaGreatDoor
open Go.RowKit
theorem read_any (w : World) (f : Fp) (m : MS) (h : Mem w f m) (s : Bool) (p off : Int) :
    Calls Tryz.prog 111 #[ptr f.gm, fr s p, .int .i64 off] w fun x w' => x = .returned (.tuple #[.int .u32 (m.word s p off), .int .i64 (m.err s p off)]) ∧ Mem w' f (m.read s p off) ∧ ButL f.w w w' := by
  have hX := h.on (below_one w (.cells #[.bool s, .int .i64 p] 64))
  have hB := hid (below_one w (.cells #[.bool s, .int .i64 p] 64))
  have HF := hid (at_any _ f m hX s p off)
  have h1 := h.ns0
  have hlt : Hid (∀ k, m.at s p = some k → k < m.P.length) := fun k hk => MS.at_lt h1 hk
  have H := hid hX
  clear h hX h1
  unfold MS.err at HF ⊢
  unfold MS.word MS.read
  generalize hr : m.at s p = r at *
  cases r with
  | none =>
    simp only [fr, ptr, pa] at *
    go_enter Tryz.func111, Tryz.ntmps111
    go_wp2_with fail
    refine HF.out.mono ?_
    rintro x w1 ⟨rfl, hb1⟩
    have HB1 := hid (below_on hB.out hb1)
    have HM := hid (H.out.on hb1)
    clear hb1
    go_wp2_with fail
    go_ret2
    exact ⟨rfl, HM.out, .of HB1.out⟩
  | some k =>
    have hk := hlt.out k rfl
    by_cases ho : In off
    · simp only [fr, ptr, pa, if_pos ho] at *
      obtain ⟨o0, o1⟩ := ho
      go_enter Tryz.func111, Tryz.ntmps111
      go_wp2_with fail
      refine HF.out.mono ?_
      rintro x w1 ⟨rfl, hb1⟩
      have HB1 := hid (below_on hB.out hb1)
      have HM := hid (H.out.on hb1)
      have c2 := HM.out.cm
      have f2 := HM.out.cel.free 2
      have cc : (w1.setCell ⟨f.gm, 2, none⟩ (.int .i64 (wrap64 (m.c + 1)))).cell? ⟨f.b k, off.toNat, none⟩ = some (.int .u32 (wd (m.p k) off.toNat)) := (HM.out.tick 1).word k hk off.toNat (by omega)
      have HT := hid (HM.out.tick 1)
      clear hb1
      go_wp2_with fail
      go_ret2
      exact ⟨rfl, HT.out, (ButL.of HB1.out).trans (.setCell _ _ _ _ (by simp [Fp.w]))⟩
    · simp only [fr, ptr, pa, if_neg ho] at *
      clear ho
      go_enter Tryz.func111, Tryz.ntmps111
      go_wp2_with fail
      refine HF.out.mono ?_
      rintro x w1 ⟨rfl, hb1⟩
      have HB1 := hid (below_on hB.out hb1)
      have HM := hid (H.out.on hb1)
      clear hb1
      go_wp2_with fail
      go_ret2
      exact ⟨rfl, HM.out, .of HB1.out⟩
end Go.Proofs.YtdfnbcbnmiohnaaGreatDoor
namespace Go.Proofs.YtdfnbcbnmiohnaaGreatDoor
open Go.RowKit
end Go.Proofs.YtdfnbcbnmiohnaaGreatDoor
namespace Go.Proofs.YtdfnbcbnmiohnaaGreatDoor
open Go.RowKit
def MS.U (m : MS) : Prop := ∀ k j, 0 ≤ wd (m.p k) j ∧ wd (m.p k) j < 4294967296
theorem MS.U.word {m : MS} (h : m.U) (s : Bool) (p off : Int) : 0 ≤ m.word s p off ∧ m.word s p off < 4294967296 := by
  unfold MS.word
  split
  · decide
  · split
    · exact h _ _
    · decide
end Go.Proofs.YtdfnbcbnmiohnaaGreatDoor
namespace Go.Proofs.YtdfnbcbnmiohnaaGreatDoor
open Go.RowKit
theorem MS.read_p (m : MS) (s : Bool) (p off : Int) (k : Nat) : (m.read s p off).p k = m.p k := by
  unfold MS.read
  split
  · rfl
  · split <;> rfl
theorem MS.U.read {m : MS} (h : m.U) (s : Bool) (p off : Int) : (m.read s p off).U := fun k j => by rw [MS.read_p]; exact h k j
theorem wd_set (L : List Int) (i j : Nat) (v : Int) : wd (L.set i v) j = if i = j ∧ j < L.length then v else wd L j := by
  unfold wd
  simp only [List.getD_eq_getElem?_getD, List.getElem?_set]
  split
  · rename_i h
    subst h
    by_cases hl : i < L.length
    · simp [hl]
    · simp [hl]
  · rename_i h
    simp [h]
theorem MS.write_p (m : MS) (s : Bool) (p o v : Int) (k j : Nat) : wd ((m.write s p o v).p k) j = v ∨ wd ((m.write s p o v).p k) j = wd (m.p k) j := by
  unfold MS.write
  split
  · exact .inr rfl
  · rename_i q hq
    split
    · simp only [MS.p, List.getD_eq_getElem?_getD, List.getElem?_set]
      split
      · split
        · rename_i h1 h2
          subst h1
          simp only [Option.getD_some]
          rw [wd_set]
          split
          · exact .inl rfl
          · exact .inr rfl
        · rename_i h1 h2
          refine .inr ?_
          subst h1
          rw [List.getElem?_eq_none (by omega)]
      · exact .inr rfl
    · exact .inr rfl
theorem MS.U.write {m : MS} (h : m.U) (s : Bool) (p o v : Int) (h0 : 0 ≤ v) (h1 : v < 4294967296) : (m.write s p o v).U := fun k j => by
  rcases m.write_p s p o v k j with e | e <;> rw [e]
  · exact ⟨h0, h1⟩
  · exact h k j
theorem MS.U.new (s n : Nat) : (MS.new s n).U := fun k j => by
  unfold MS.new MS.p
  simp only [List.getD_eq_getElem?_getD, List.getElem?_replicate]
  have hz : wd zs j = 0 := by unfold wd zs; rw [List.getD_eq_getElem?_getD, List.getElem?_replicate]; split <;> rfl
  split
  · simp only [Option.getD_some]; rw [hz]; decide
  · simp [wd]
theorem NewMem.write {W w w' : World} {f : Fp} {m m' : MS} (h : NewMem W w f m) (hm : Mem w' f m') (hb : ButL f.w w w') : NewMem W w' f m' :=
  ⟨hm, h.below.trans (hb.below (fun k hk => h.new k (by simp only [Fp.w, Fp.all, List.mem_cons] at hk ⊢; rcases hk with hk | hk <;> simp [hk])) h.below.size), h.new⟩
theorem NewMem.on {W w w' : World} {f : Fp} {m : MS} (h : NewMem W w f m) (hb : Below w.heap.size w w') : NewMem W w' f m := ⟨h.mem.on hb, below_on h.below hb, h.new⟩
theorem MS.read_eq (m : MS) (s : Bool) (p o : Int) : m.read s p o = if m.err s p o = 0 then m.tick 1 else m := by
  unfold MS.read MS.err
  cases m.at s p with
  | none => rfl
  | some k => by_cases h : In o <;> simp [h]
theorem MS.write_at (m : MS) (s : Bool) (p o v : Int) (s' : Bool) (p' : Int) : (m.write s p o v).at s' p' = m.at s' p' := by
  unfold MS.write
  split
  · rfl
  · split
    · unfold MS.at; simp only [MS.tick, List.length_set]; try rfl
    · rfl
theorem MS.at_inj {m : MS} {s s' : Bool} {p p' : Int} {k : Nat} (h0 : m.ns ≤ m.P.length) (h : m.at s p = some k) (h' : m.at s' p' = some k) : s = s' ∧ p = p' := by
  unfold MS.at at h h'
  cases s <;> cases s' <;> simp at h h'
  · exact ⟨rfl, by omega⟩
  · exfalso; omega
  · exfalso; omega
  · exact ⟨rfl, by omega⟩
theorem MS.write_word {m : MS} (h0 : m.ns ≤ m.P.length) (s : Bool) (p o v : Int) (s' : Bool) (p' o' : Int) (h : ¬ (s = s' ∧ p = p' ∧ o = o')) : (m.write s p o v).word s' p' o' = m.word s' p' o' := by
  unfold MS.word
  rw [MS.write_at]
  cases h1 : m.at s' p' with
  | none => rfl
  | some k =>
    simp only
    by_cases hi : In o'
    · rw [if_pos hi, if_pos hi]
      unfold MS.write
      cases h2 : m.at s p with
      | none => rfl
      | some q =>
        simp only
        by_cases hj : In o
        · rw [if_pos hj]
          simp only [MS.p, List.getD_eq_getElem?_getD, List.getElem?_set]
          by_cases hq : q = k
          · subst hq
            obtain ⟨e1, e2⟩ := MS.at_inj h0 h2 h1
            have hne : o ≠ o' := fun e => h ⟨e1, e2, e⟩
            by_cases hl : q < m.P.length
            · simp only [if_pos, hl, Option.getD_some]
              rw [wd_set, if_neg]
              rintro ⟨e, _⟩
              unfold In at hi hj
              omega
            · simp only [if_pos, hl, if_false]
              rw [List.getElem?_eq_none (by omega)]
          · simp only [if_neg hq]
        · rw [if_neg hj]
    · rw [if_neg hi, if_neg hi]
end Go.Proofs.YtdfnbcbnmiohnaaGreatDoor
namespace Go.Proofs.YtdfnbcbnmiohnaaGreatDoor
open Go.RowKit
set_option maxRecDepth 100000
set_option maxHeartbeats 4000000
theorem DG.new {W w : World} {p : Dp} {d : DS} {G : List Nat} {L : List (Nat × TypeId × List Value)} (h : DG W w p d G L) (u : TypeId) (es : List Value) : DG W (w.alloc (.cells es.toArray u)) p d G ((w.heap.size, u, es) :: L) := h.add (ds := es) (Cel.new w u es) (.refl _ _)
theorem DG.startw {W : World} {p : Dp} {d : DS} (h : DB W p d) : DG W W p d p.f.w [] := .start h _ (fun k hk => h.mem.lt k (Fp.w_all hk))
theorem DG.mem {W w w2 : World} {p : Dp} {d : DS} {L : List (Nat × TypeId × List Value)} {m' : MS} (h : DG W w p d p.f.w L) (hm : Mem w2 p.f m') (hb : ButL p.f.w w w2) (hn : m'.ns = d.m.ns) : DG W w2 p { d with m := m' } p.f.w L := h.step (h.db.memory hm hb hn) hb (fun _ hk => hk)
theorem MS.read_ns (m : MS) (s : Bool) (p off : Int) : (m.read s p off).ns = m.ns := by
  unfold MS.read
  split
  · rfl
  · split <;> rfl
def DS.wr (d : DS) (pg off v : Int) : DS := { d with m := d.m.write true pg off v }
theorem Dp.fw_w (p : Dp) : ∀ k ∈ p.f.w, k ∈ p.w := fun _ hk => List.mem_cons_of_mem _ hk
theorem Dp.w_all' (p : Dp) : ∀ k ∈ p.w, k ∈ p.all := fun _ hk => Dp.w_all hk
structure DS.Sim (d d' : DS) : Prop where
  E : d'.E = d.E
  b : d'.b = d.b
  ns : d'.m.ns = d.m.ns
  P : d'.m.P = d.m.P
theorem DS.Sim.refl (d : DS) : DS.Sim d d := ⟨rfl, rfl, rfl, rfl⟩
theorem DS.Sim.symm {d e : DS} (h : DS.Sim d e) : DS.Sim e d := ⟨h.E.symm, h.b.symm, h.ns.symm, h.P.symm⟩
theorem DS.Sim.trans {d e f : DS} (h : DS.Sim d e) (k : DS.Sim e f) : DS.Sim d f := ⟨k.E.trans h.E, k.b.trans h.b, k.ns.trans h.ns, k.P.trans h.P⟩
theorem DS.Sim.at {d e : DS} (h : DS.Sim d e) (k : Nat) : e.at k = d.at k := by unfold DS.at; rw [h.E]
theorem DS.Sim.there {d e : DS} (h : DS.Sim d e) (q : Int) : e.there q = d.there q := by unfold DS.there; rw [h.ns]
theorem DS.Sim.ent {d e : DS} (h : DS.Sim d e) (q : Int) : e.ent q = d.ent q := by unfold DS.ent; rw [h.there, h.at]
theorem DS.Sim.entE {d e : DS} (h : DS.Sim d e) (q : Int) : e.entE q = d.entE q := by unfold DS.entE; rw [h.there]
theorem DS.Sim.mat {d e : DS} (h : DS.Sim d e) (s : Bool) (q : Int) : e.m.at s q = d.m.at s q := by unfold MS.at; rw [h.ns, h.P]
theorem DS.Sim.p {d e : DS} (h : DS.Sim d e) (k : Nat) : e.m.p k = d.m.p k := by unfold MS.p; rw [h.P]
theorem DS.Sim.word {d e : DS} (h : DS.Sim d e) (s : Bool) (q o : Int) : e.m.word s q o = d.m.word s q o := by unfold MS.word; simp only [h.mat, h.p]
theorem DS.Sim.err {d e : DS} (h : DS.Sim d e) (s : Bool) (q o : Int) : e.m.err s q o = d.m.err s q o := by unfold MS.err; rw [h.mat]
theorem DS.Sim.U {d e : DS} (h : DS.Sim d e) (k : d.m.U) : e.m.U := fun i j => by rw [h.p]; exact k i j
theorem DS.Sim.ws {d e : DS} (h : DS.Sim d e) : e.ws = d.ws := by unfold DS.ws; rw [h.E, h.b]
theorem DS.Sim.same {d e : DS} (h : DS.Sim d e) : d.m.same e.m = true := by unfold MS.same; rw [h.ns, h.P]; simp
theorem DS.Sim.read (d : DS) (s : Bool) (q o : Int) : DS.Sim d { d with m := d.m.read s q o } := by
  rw [MS.read_eq]
  split
  · exact ⟨rfl, rfl, rfl, rfl⟩
  · exact .refl d
theorem DS.Sim.ok {d e : DS} (h : DS.Sim d e) (k : d.Ok) : e.Ok := ⟨by rw [h.E, h.ns]; exact k.len, by rw [h.ns]; exact k.n64, fun i hi => by rw [h.at]; exact k.ok i (by rw [← h.ns]; exact hi), fun i hi => by rw [h.at, h.ns]; exact k.own i (by rw [← h.ns]; exact hi), by rw [h.b]; exact k.b0, by rw [h.b]; exact k.b1⟩
structure Gl (W : World) (p : Dp) : Prop where
  tab : H.Tab W
  sz : 1 < W.heap.size
  off : ∀ k ∈ p.all, 2 ≤ k
theorem Gl.step {W w : World} {p : Dp} {G : List Nat} (h : Gl W p) (hb : ButL G W w) (hG : ∀ k ∈ G, k ∈ p.all) : Gl w p :=
  ⟨h.tab.below (hb.below (B := 2) (fun k hk => h.off k (hG k hk)) h.sz) (by decide), by have := hb.size; have := h.sz; omega, h.off⟩
theorem Gl.on {W w : World} {p : Dp} (h : Gl W p) (hb : Below W.heap.size W w) : Gl w p := h.step (G := []) (.of hb) (by simp)
def DS.st (d : DS) (s : Int) : List Int := (List.range 26).map fun (i : Nat) => d.m.word true s (11 + (i : Int))
theorem DS.st_length (d : DS) (s : Int) : (d.st s).length = 26 := by simp [DS.st]
theorem DS.st_get (d : DS) (s : Int) (i : Nat) (h : i < 26) : (d.st s)[i]? = some (d.m.word true s (11 + (i : Int))) := by simp [DS.st, h]
theorem DS.st_wds {d : DS} (h : d.m.U) (s : Int) : H.Wds (d.st s) := fun i => by
  by_cases hi : i < 26
  · rw [List.getD_eq_getElem?_getD, d.st_get s i hi]; exact h.word _ _ _
  · rw [List.getD_eq_getElem?_getD, List.getElem?_eq_none (by rw [d.st_length]; omega)]; decide
theorem DS.Sim.st {d e : DS} (h : DS.Sim d e) (s : Int) : e.st s = d.st s := by unfold DS.st; simp only [h.word]
def mix (A B : List Int) (j : Nat) : List Int := A.take j ++ B.drop j
theorem mix_zero (A B : List Int) : mix A B 0 = B := rfl
theorem mix_all (A B : List Int) (h : A.length = B.length) : mix A B A.length = A := by unfold mix; rw [List.take_length, List.drop_of_length_le (by omega), List.append_nil]
theorem mix_set (A B : List Int) (j : Nat) (x : Int) (hA : j < A.length) (h : A.length = B.length) (hx : A[j]? = some x) : (u32s (mix A B j)).set j (.int .u32 x) = u32s (mix A B (j + 1)) := by
  have h1 : (A.take j).length = j := by rw [List.length_take]; omega
  have hB : j < B.length := by omega
  rw [u32s_set]
  congr 1
  unfold mix
  rw [List.set_append_right _ _ (by omega), h1, Nat.sub_self, List.drop_eq_getElem_cons hB, tqZ, List.take_add_one, hx]
  simp
theorem mix_cell {w : World} {g : Nat} {t : TypeId} {A B : List Int} {j : Nat} (h : Cel w g t (u32s (mix A B j))) (hA : j < A.length) (hl : A.length = B.length) : ∃ y, w.cell? ⟨g, j, none⟩ = some (.int .u32 y) := by
  have h1 : (mix A B j).length = A.length := by unfold mix; rw [List.length_append, List.length_take, List.length_drop]; omega
  refine ⟨(mix A B j)[j]'(by omega), ?_⟩
  rw [h.cell]
  simp [u32s]
def DS.dig (d : DS) (s : Int) (L : List Int) : Nat → DS
  | 0 => d
  | j + 1 => (d.dig s L j).wr s (11 + (j : Int)) (L.getD j 0)
theorem DS.Sim.wc {d e : DS} (h : DS.Sim d e) : e = { d with m := { d.m with c := e.m.c } } := by
  obtain ⟨⟨c, ns, P⟩, b, E⟩ := d
  obtain ⟨⟨c', ns', P'⟩, b', E'⟩ := e
  obtain ⟨h1, h2, h3, h4⟩ := h
  simp only at h1 h2 h3 h4
  subst h1 h2 h3 h4
  rfl
theorem DS.Sim.takeE {d e : DS} (h : DS.Sim d e) (q t s : Int) : e.takeE q t s = d.takeE q t s := by unfold DS.takeE DS.more; rw [h.entE, h.ent, h.ent]
theorem DS.Sim.bearE {d e : DS} (h : DS.Sim d e) (s f : Int) : e.bearE s f = d.bearE s f := by unfold DS.bearE; rw [h.entE, h.entE, h.ent, h.ent, h.b]
theorem DS.Sim.lay {d e : DS} (h : DS.Sim d e) (k : Nat) (x : En) : DS.Sim (d.lay k x) (e.lay k x) := ⟨by unfold DS.lay; simp only [h.E], h.b, h.ns, h.P⟩
theorem DS.Sim.take {d e : DS} (h : DS.Sim d e) (q t s : Int) : DS.Sim (d.take q t s) (e.take q t s) := by
  unfold DS.take
  rw [h.takeE]
  split
  · unfold DS.taken DS.cnt
    have := (h.lay q.toNat (enT t s))
    rw [this.at]
    exact this.lay _ _
  · exact h
theorem MS.write_sim (m : MS) (c : Int) (s : Bool) (q o v : Int) : (MS.write { m with c := c } s q o v).ns = (m.write s q o v).ns ∧ (MS.write { m with c := c } s q o v).P = (m.write s q o v).P := by
  unfold MS.write
  rw [show MS.at { m with c := c } s q = m.at s q from rfl]
  split
  · exact ⟨rfl, rfl⟩
  · split <;> exact ⟨rfl, rfl⟩
theorem MS.zero_sim (m : MS) (c : Int) (s : Bool) (q : Int) : (MS.zero { m with c := c } s q).ns = (m.zero s q).ns ∧ (MS.zero { m with c := c } s q).P = (m.zero s q).P := by
  unfold MS.zero
  rw [show MS.at { m with c := c } s q = m.at s q from rfl]
  split <;> exact ⟨rfl, rfl⟩
theorem DS.Sim.write {d e : DS} (h : DS.Sim d e) (s : Bool) (q o v : Int) : DS.Sim { d with m := d.m.write s q o v } { e with m := e.m.write s q o v } := by
  rw [h.wc]
  have := MS.write_sim d.m e.m.c s q o v
  exact ⟨rfl, rfl, this.1, this.2⟩
theorem DS.Sim.wr {d e : DS} (h : DS.Sim d e) (q o v : Int) : DS.Sim (d.wr q o v) (e.wr q o v) := h.write true q o v
theorem DS.Sim.dig {d e : DS} (h : DS.Sim d e) (s : Int) (L : List Int) : ∀ j, DS.Sim (d.dig s L j) (e.dig s L j)
  | 0 => h
  | j + 1 => (DS.Sim.dig h s L j).wr _ _ _
theorem DS.Sim.wipe {d e : DS} (h : DS.Sim d e) (q : Int) : DS.Sim (d.wipe q) (e.wipe q) := by
  rw [h.wc]
  have := MS.zero_sim d.m e.m.c true q
  exact ⟨rfl, rfl, this.1, this.2⟩
theorem DS.take_m (d : DS) (q t s : Int) : (d.take q t s).m = d.m := by unfold DS.take; split <;> rfl
theorem st_of {d e : DS} {a : Int} (h : ∀ o, e.m.word true a o = d.m.word true a o) : e.st a = d.st a := by
  unfold DS.st; simp only [h]
theorem MS.set_at (m : MS) (k : Nat) (L : List Int) (n : Int) (s : Bool) (x : Int) : MS.at { m.tick n with P := m.P.set k L } s x = m.at s x := by unfold MS.at; simp only [MS.tick, List.length_set]; rfl
theorem MS.set_p (m : MS) (k i : Nat) (L : List Int) (n : Int) (h : i ≠ k) : MS.p { m.tick n with P := m.P.set k L } i = m.p i := by
  simp only [MS.p, List.getD_eq_getElem?_getD, List.getElem?_set]
  rw [if_neg (fun e => h e.symm)]
theorem at_sec {m : MS} {b : Int} (h0 : 0 ≤ b) (h1 : b < (m.ns : Int)) : m.at true b = some b.toNat := by unfold MS.at; rw [if_pos h0]; simp [h1]
theorem MS.write_len (m : MS) (s : Bool) (q o v : Int) : (m.write s q o v).P.length = m.P.length := by
  unfold MS.write
  split
  · rfl
  · split
    · simp
    · rfl
structure DS.Fit (d e : DS) : Prop where
  U : d.m.U → e.m.U
  ns : e.m.ns = d.m.ns
  P : e.m.P.length = d.m.P.length
theorem DS.Fit.refl (d : DS) : DS.Fit d d := ⟨id, rfl, rfl⟩
theorem DS.Fit.trans {d e f : DS} (h : DS.Fit d e) (k : DS.Fit e f) : DS.Fit d f := ⟨fun u => k.U (h.U u), k.ns.trans h.ns, k.P.trans h.P⟩
theorem DS.Sim.fit {d e : DS} (h : DS.Sim d e) : DS.Fit d e := ⟨h.U, h.ns, by rw [h.P]⟩
theorem fit_write (d : DS) (s : Bool) (q o v : Int) (h0 : 0 ≤ v) (h1 : v < 4294967296) : DS.Fit d { d with m := d.m.write s q o v } := ⟨fun u => u.write s q o v h0 h1, MS.write_ns _ _ _ _ _, MS.write_len _ _ _ _ _⟩
theorem fit_wr (d : DS) (q o v : Int) (h0 : 0 ≤ v) (h1 : v < 4294967296) : DS.Fit d (d.wr q o v) := fit_write d true q o v h0 h1
theorem fit_m {d e : DS} (h : e.m = d.m) : DS.Fit d e := ⟨fun u => by rw [h]; exact u, by rw [h], by rw [h]⟩
theorem fit_dig (d : DS) (s : Int) (L : List Int) (hL : H.Wds L) : ∀ j, DS.Fit d (d.dig s L j)
  | 0 => .refl d
  | j + 1 => (fit_dig d s L hL j).trans (fit_wr _ s _ _ (hL j).1 (hL j).2)
theorem fit_take (d : DS) (q t s : Int) : DS.Fit d (d.take q t s) := fit_m (DS.take_m d q t s)
theorem fit_space {d : DS} (hk : d.Ok) (s f : Int) (f0 : 0 ≤ f) (f1 : f < 4294967296) : DS.Fit d (d.takeSpace s f) := by
  unfold DS.takeSpace
  split
  · have b0 := hk.b0
    have b1 := hk.b1
    have h1 := fit_write d true s 0 f f0 f1
    have h2 := fit_write { d with m := d.m.write true s 0 f } true s 1 d.b b0 (by omega)
    have h3 := fit_write { d with m := (d.m.write true s 0 f).write true s 1 d.b } true s 2 0 (by decide) (by decide)
    have h4 := h1.trans (h2.trans h3)
    exact ⟨h4.U, h4.ns, h4.P⟩
  · exact .refl d
theorem fit_wipe (d : DS) (q : Int) : DS.Fit d (d.wipe q) := by
  refine ⟨fun u => ?_, MS.zero_ns _ _ _, ?_⟩
  · show (d.m.zero true q).U
    unfold MS.zero
    split
    · exact u
    · rename_i k hk
      intro i n
      by_cases e : i = k
      · subst e
        by_cases hl : i < d.m.P.length
        · simp only [MS.p, List.getD_eq_getElem?_getD, List.getElem?_set, if_true, if_pos hl, Option.getD_some]
          unfold wd zs
          rw [List.getD_eq_getElem?_getD, List.getElem?_replicate]
          split <;> decide
        · simp only [MS.p, List.getD_eq_getElem?_getD, List.getElem?_set, if_true, if_neg hl, Option.getD_none]
          simp [wd]
      · rw [MS.set_p _ _ _ _ _ e]; exact u i n
  · show (d.m.zero true q).P.length = _
    unfold MS.zero
    split
    · rfl
    · simp
theorem fit_give (d : DS) (q : Int) : DS.Fit d (d.give q) := by
  have h : DS.Fit d (d.freed q) := (fit_m (d := d) (e := d.lay q.toNat En.zero) rfl).trans (fit_wipe _ q)
  unfold DS.give
  split
  · unfold DS.given
    split
    · exact h.trans (fit_m rfl)
    · exact h
  · exact .refl d
theorem fit_state (d : DS) (q s : Int) : DS.Fit d (d.state q s) := by
  unfold DS.state
  split
  · exact fit_m rfl
  · exact .refl d
theorem MS.word_same {m : MS} (h0 : m.ns ≤ m.P.length) (hf : ∀ k, k < m.P.length → (m.p k).length = 1024) {s : Bool} {q : Int} {k : Nat} (hq : m.at s q = some k) {o : Int} (ho : In o) (v : Int) : (m.write s q o v).word s q o = v := by
  have hk := MS.at_lt h0 hq
  have hl := hf k hk
  have h1 : m.write s q o v = { m.tick 1 with P := m.P.set k ((m.p k).set o.toNat v) } := by unfold MS.write; rw [hq]; simp only [if_pos ho]
  rw [h1]
  unfold MS.word
  rw [MS.set_at, hq]
  simp only [if_pos ho, MS.p, List.getD_eq_getElem?_getD, List.getElem?_set, if_true, if_pos hk, Option.getD_some]
  unfold wd
  unfold In at ho
  rw [List.getD_eq_getElem?_getD, List.getElem?_set, if_pos rfl, if_pos (by simp only [MS.p, List.getD_eq_getElem?_getD] at hl; omega)]
  rfl
theorem MS.write_full {m : MS} (hf : ∀ k, k < m.P.length → (m.p k).length = 1024) (s : Bool) (q o v : Int) : ∀ k, k < (m.write s q o v).P.length → ((m.write s q o v).p k).length = 1024 := by
  intro k hk
  rw [MS.write_len] at hk
  unfold MS.write
  split
  · exact hf k hk
  · rename_i i hi
    split
    · by_cases e : k = i
      · subst e
        simp only [MS.p, List.getD_eq_getElem?_getD, List.getElem?_set, if_true, if_pos hk, Option.getD_some, List.length_set]
        have := hf k hk
        simpa [MS.p, List.getD_eq_getElem?_getD] using this
      · rw [MS.set_p _ _ _ _ _ e]; exact hf k hk
    · exact hf k hk
structure MS.Whole (m : MS) : Prop where
  ns0 : m.ns ≤ m.P.length
  full : ∀ k, k < m.P.length → (m.p k).length = 1024
theorem Mem.whole {w : World} {f : Fp} {m : MS} (h : Mem w f m) : m.Whole := ⟨h.ns0, h.full⟩
theorem MS.Whole.write {m : MS} (h : m.Whole) (s : Bool) (q o v : Int) : (m.write s q o v).Whole := ⟨by rw [MS.write_ns, MS.write_len]; exact h.ns0, MS.write_full h.full s q o v⟩
theorem dig_at (d : DS) (s : Int) (L : List Int) (x : Bool) (q : Int) : ∀ j, (d.dig s L j).m.at x q = d.m.at x q
  | 0 => rfl
  | j + 1 => (MS.write_at _ _ _ _ _ _ _).trans (dig_at d s L x q j)
theorem dig_whole {d : DS} (h : d.m.Whole) (s : Int) (L : List Int) : ∀ j, (d.dig s L j).m.Whole
  | 0 => h
  | j + 1 => (dig_whole h s L j).write _ _ _ _
theorem dig_other {d : DS} (h : d.m.Whole) (s : Int) (L : List Int) (x : Bool) (q o : Int) (hq : ¬ (x = true ∧ q = s)) : ∀ j, (d.dig s L j).m.word x q o = d.m.word x q o
  | 0 => rfl
  | j + 1 => (MS.write_word (dig_whole h s L j).ns0 _ _ _ _ _ _ _ (fun e => hq ⟨e.1.symm, e.2.1.symm⟩)).trans (dig_other h s L x q o hq j)
theorem dig_word {d : DS} (h : d.m.Whole) (s : Int) (L : List Int) (hs : d.there s = true) (o : Int) : ∀ j, j ≤ 26 → (d.dig s L j).m.word true s o = if 11 ≤ o ∧ o < 11 + (j : Int) then L.getD (o - 11).toNat 0 else d.m.word true s o
  | 0, _ => by rw [if_neg (by omega)]; rfl
  | j + 1, hj => by
    have hi := dig_word h s L hs o j (by omega)
    obtain ⟨s0, s1, s2⟩ := there_lt hs
    have hat : (d.dig s L j).m.at true s = some s.toNat := by rw [dig_at]; exact at_sec s0 (by omega)
    by_cases e : o = 11 + (j : Int)
    · subst e
      rw [if_pos (by omega)]
      show ((d.dig s L j).m.write true s (11 + (j : Int)) (L.getD j 0)).word true s (11 + (j : Int)) = _
      rw [MS.word_same (dig_whole h s L j).ns0 (dig_whole h s L j).full hat (by unfold In; omega)]
      congr 1
      omega
    · show ((d.dig s L j).m.write true s (11 + (j : Int)) (L.getD j 0)).word true s o = _
      rw [MS.write_word (dig_whole h s L j).ns0 _ _ _ _ _ _ _ (fun x => e x.2.2.symm), hi]
      by_cases e2 : 11 ≤ o ∧ o < 11 + (j : Int)
      · rw [if_pos e2, if_pos (by omega)]
      · rw [if_neg e2, if_neg (by omega)]
theorem dig_st {d : DS} (h : d.m.Whole) (s : Int) (L : List Int) (hs : d.there s = true) (hL : L.length = 26) : (d.dig s L 26).st s = L := by
  apply List.ext_getElem?
  intro i
  by_cases hi : i < 26
  · rw [DS.st_get _ _ _ hi, dig_word h s L hs _ 26 (Nat.le_refl _), if_pos (by omega), show (11 + (i : Int) - 11).toNat = i by omega, List.getD_eq_getElem?_getD, List.getElem?_eq_getElem (by omega)]
    rfl
  · rw [List.getElem?_eq_none (by rw [DS.st_length]; omega), List.getElem?_eq_none (by omega)]
theorem dig_E (d : DS) (s : Int) (L : List Int) : ∀ j, (d.dig s L j).E = d.E ∧ (d.dig s L j).b = d.b ∧ (d.dig s L j).m.ns = d.m.ns
  | 0 => ⟨rfl, rfl, rfl⟩
  | j + 1 => ⟨(dig_E d s L j).1, (dig_E d s L j).2.1, (MS.write_ns _ _ _ _ _).trans (dig_E d s L j).2.2⟩
theorem wds_nil' : H.Wds [] := fun i => by simp
theorem zall_len (m : MS) : ∀ k, (m.zall k).P.length = m.P.length
  | 0 => rfl
  | k + 1 => by
    show ((m.zall k).zero true (k : Int)).P.length = _
    unfold MS.zero
    split
    · exact zall_len m k
    · simp only [List.length_set]; exact zall_len m k
theorem zall_U {m : MS} (h : m.U) : ∀ k, (m.zall k).U
  | 0 => h
  | k + 1 => (fit_wipe (⟨m.zall k, 0, []⟩ : DS) (k : Int)).U (zall_U h k)
theorem zdig (j : Nat) : (List.replicate 26 (0 : Int)).getD j 0 = 0 := by
  rw [List.getD_eq_getElem?_getD, List.getElem?_replicate]; split <;> rfl
theorem rangeAt_on {W W' : World} {g off : Nat} {cs : List Value} (h : W.rangeAt g off cs) (hg : g < W.heap.size) (hb : Below W.heap.size W W') : W'.rangeAt g off cs := fun j v hv => by
  have := h j v hv
  unfold World.cell? at this ⊢
  rw [hb.block g hg]
  exact this
end Go.Proofs.YtdfnbcbnmiohnaaGreatDoor
namespace Go.Proofs.YtdfnbcbnmiohnaaGreatDoor
open Go.RowKit
set_option maxRecDepth 100000
set_option maxHeartbeats 8000000
theorem size44 : (Tryz.prog.info? 44).map (·.size) = some 26 := by kernel_rfl
theorem under44 : Tryz.prog.underlying 44 = some (.array 26 43) := by kernel_rfl
theorem size55 : (Tryz.prog.info? 55).map (·.size) = some 8 := by kernel_rfl
theorem under55 : Tryz.prog.underlying 55 = some (.array 8 43) := by kernel_rfl
attribute [-simp] Tryz.isAgg44 Tryz.sizeOf44 Tryz.zeroValue44 Tryz.isAgg55 Tryz.sizeOf55 Tryz.zeroValue55
open Classical in
noncomputable def DS.fnE (d : DS) (s : Int) : Int := if H.LoadOk (d.st s) then 0 else 20
open Classical in
noncomputable def DS.fnL (d : DS) (s : Int) : List Int := if H.LoadOk (d.st s) then Q.fiS (d.st s) else List.replicate 8 0
theorem fnL_len (d : DS) (s : Int) : (d.fnL s).length = 8 := by
  unfold DS.fnL
  split
  · exact Q.fiS_len (d.st_length s)
  · simp
theorem finish_fn (W : World) (d : DS) (s : Int) (hU : d.m.U) (hT : H.Tab W) (h2 : 1 < W.heap.size) :
    Calls Tryz.prog 113 #[H.Ag (d.st s)] W fun e W' => e = .returned (.tuple #[.agg (u32s (d.fnL s)).toArray, .int .i64 (d.fnE s)]) ∧ Below W.heap.size W W' := by
  by_cases hk : H.LoadOk (d.st s)
  · have e1 : d.fnL s = Q.fiS (d.st s) := by unfold DS.fnL; rw [if_pos hk]
    have e2 : d.fnE s = 0 := by unfold DS.fnE; rw [if_pos hk]
    rw [e1, e2]
    exact Q.finish_gen W hT h2 (d.st s) (d.st_length s) (DS.st_wds hU s) hk
  · have e1 : d.fnL s = List.replicate 8 0 := by unfold DS.fnL; rw [if_neg hk]
    have e2 : d.fnE s = 20 := by unfold DS.fnE; rw [if_neg hk]
    rw [e1, e2]
    exact Q.finish_no W (d.st s) (d.st_length s) (DS.st_wds hU s) hk
theorem finished_any (W : World) (p : Dp) (d : DS) (h : DB W p d) (hU : d.m.U) (hG : Gl W p) (s : Int) :
    Calls Tryz.prog 63 #[ptr p.g, .int .i64 s] W fun e W' => ∃ d', e = .returned (.tuple #[.agg (u32s (d.fnL s)).toArray, .int .i64 (d.fnE s)]) ∧ DS.Sim d d' ∧ DB W' p d' ∧ ButL p.f.w W W' := by
  obtain ⟨Z, hZ⟩ : ∃ Z : List Int, Z = List.replicate 26 0 := ⟨_, rfl⟩
  have hZl : Z.length = 26 := by rw [hZ]; simp
  have hz : ∀ w, (zeroValue 44).run Tryz.prog w = .ok (.agg (Z.map (Value.int .u32)).toArray) w := fun w => by rw [Tryz.zeroValue44, hZ]; rfl
  clear hZ
  obtain ⟨Y, hY⟩ : ∃ Y : List Int, Y = List.replicate 8 0 := ⟨_, rfl⟩
  have hYl : Y.length = 8 := by rw [hY]; simp
  have hy : ∀ w, (zeroValue 55).run Tryz.prog w = .ok (.agg (Y.map (Value.int .u32)).toArray) w := fun w => by rw [Tryz.zeroValue55, hY]; rfl
  clear hY
  have D0 := hid ((DG.start h p.f.w (fun k hk => h.mem.lt k (Fp.w_all hk))).add (ds := u32s Y) (Cel.new W 55 (u32s Y)) (.refl _ _))
  have HSt := hid (fun w => Q.start_any w)
  have hSl : (H.saveOf []).length = 26 := H.saveOf_length _
  have HRd := hid (fun w d' (hs : DS.Sim d d') (hw : DB w p d') (off : Int) => (read_any w p.f d'.m hw.mem true s off))
  have HMm := hid (fun w d' (hw : DB w p d') => memory_any w p d' hw)
  have HFr := hid (fun w => lsecure_any w s)
  have hL := d.st_length s
  have HGt := hid (fun j hj => d.st_get s j hj)
  have HX := hid (fun (w : World) (hw : Gl w p) => finish_fn w d s hU hw.tab hw.sz)
  have hFl := fnL_len d s
  have HGl := hid hG
  have HS0 := hid (DS.Sim.refl d)
  have HWF := hid (fun k (hk : k ∈ p.f.w) => (show k ∈ p.all from by simp only [Dp.all, List.mem_cons]; exact Or.inr (Or.inr (Fp.w_all hk))))
  have HWd := hid (fun e (he : DS.Sim d e) (j : Nat) => he.word true s (11 + (j : Int)))
  clear h hU hG
  generalize H.saveOf [] = S0 at *
  generalize d.fnL s = FL at *
  generalize d.fnE s = FE at *
  generalize d.st s = S at *
  simp only [ptr, fr, H.Ag] at *
  go_enter Tryz.func63, Tryz.ntmps63
  go_upto_region 1 with fail
  have D0' : Hid (DG W (W.alloc (Obj.cells (List.map (Value.int IntKind.u32) Y).toArray 55)) p d p.f.w [(W.heap.size, 55, u32s Y)]) := D0
  clear D0
  generalize World.alloc _ _ = X at *
  generalize hg2 : W.heap.size = g4 at D0' ⊢
  have HG2 := hid hg2
  clear hg2
  go_upto_region 3 with (first | (go_at_call 17; refine (HSt.out _).mono ?_; rintro e w1 ⟨rfl, hb⟩; have D1 := hid (D0'.out.on hb); clear hb) | (refine wpList_store_st rfl 44 _ _ rfl w1.heap.size (u32s S0) rfl rfl (Cel.new w1 44 (u32s Z)) (by rw [u32s, List.length_map, hSl]; exact size44) (by simp [u32s, hZl, hSl]) (List.all_eq_true.2 (fun v hv => by simp only [u32s, List.mem_map] at hv; obtain ⟨x, _, rfl⟩ := hv; rfl)) ?_; intro w2 hc hb hs; have D2 := hid (D1.out.add hc hb); have HN : Hid (g4 < w1.heap.size) := hid (D1.out.get 0 rfl).lt; clear hc hb hs))
  generalize w1.heap.size = g6 at *
  clear D0' D1 HSt
  go_loopw [9] (fun i wr => ∃ j : Nat, j ≤ 26 ∧ i = .int .i64 (j : Int) ∧ Hid (∃ d', DS.Sim d d' ∧ DG W wr p d' p.f.w [(g6, 44, u32s (mix S S0 j)), (g4, 55, u32s Y)])) (fun i _ => 26 - (intOf i).toNat)
  case atStart => exact ⟨0, Nat.zero_le _, rfl, hid ⟨d, HS0.out, by rw [mix_zero]; exact D2.out⟩⟩
  case round =>
    obtain ⟨j, hj, rfl, HQ⟩ := hrel
    clear D2
    by_cases hlt : j < 26
    · have q1 : (j : Int) < 26 := by omega
      have kw : IntKind.wrap .i64 (11 + (j : Int)) = 11 + (j : Int) := by rw [IntKind.wrap_i64]; omega
      have kw2 : IntKind.wrap .i64 ((j : Int) + 1) = (j : Int) + 1 := by rw [IntKind.wrap_i64]; omega
      have HJ := hid hlt
      have HG1 := hid (HGt.out j hlt)
      clear hlt hj
      obtain ⟨d1, hs1, hD⟩ := HQ.out
      have E0 := hid hD
      have S1 := hid hs1
      have HW1 := hid (HWd.out d1 hs1 j)
      clear HQ hs1 hD
      generalize d.m.word true s (11 + (j : Int)) = wd at *
      go_upto_region 5 with fail
      go_wp2_with (first | (go_at_call 28; refine (HMm.out _ _ E0.out.db).mono ?_; rintro e w4 ⟨rfl, rfl⟩) | (go_at_call 112; refine (HFr.out _).mono ?_; rintro e w4 ⟨rfl, hb⟩; have E2 := hid (E0.out.on hb); clear hb) | (go_at_call 111; refine (HRd.out _ _ S1.out E2.out.db _).mono ?_; rintro e w5 ⟨rfl, hm, hb⟩; have E3 := hid (E2.out.mem hm hb (MS.read_ns ..)); have S2 := hid (S1.out.trans (DS.Sim.read _ true s (11 + (j : Int)))); clear hm hb E2 S1; rw [HW1.out]; obtain ⟨y, z0⟩ := mix_cell (E3.out.get 0 rfl) (by have := HJ.out; omega) (by omega); have z1 := (E3.out.get 0 rfl).free j))
      have E4 := hid (E3.out.put (fun q hq => by simp only [List.mem_cons, List.not_mem_nil, or_false] at hq; subst hq; have := HN.out; simp only; omega) ((E3.out.get 0 rfl).setCell j (.int .u32 wd)) (.setCell _ _ _ _ (by simp)))
      rw [mix_set S S0 j wd (by have := HJ.out; omega) (by omega) HG1.out] at E4
      exact ⟨⟨j + 1, HJ.out, by simp, hid ⟨_, S2.out, E4.out⟩⟩, by have := HJ.out; simp [intOf]; omega⟩
    · have hj' : j = 26 := by omega
      subst hj'
      clear hlt hj HWd HGt HRd HMm HFr
      obtain ⟨d1, hs1, hD⟩ := HQ.out
      have hmx : mix S S0 26 = S := by have := mix_all S S0 (by omega); rw [hL] at this; exact this
      rw [hmx] at hD
      have E0 := hid hD
      have S1 := hid hs1
      have HG0 := hid (HGl.out.step hD.but HWF.out)
      have HP := hid (fun w (hb : Below wr.heap.size wr w) => HX.out w (HG0.out.on hb))
      clear HQ hD hs1 hmx
      go_upto_region 7 with fail
      go_wp2_with (first | (refine wpList_load_mid rfl 44 _ rfl g6 0 rfl _ _ (E0.out.get 0 rfl).range under44 rfl (by rw [size44]; simp [u32s, hL]) ?_) | (go_at_call 113; refine (HP.out _ (Below.refl _ _)).mono ?_; rintro e w5 ⟨rfl, hb⟩; have E1 := hid (E0.out.on hb); clear hb) | (refine wpList_store_st rfl 55 _ _ rfl g4 (u32s FL) rfl rfl (E1.out.get 1 rfl) (by rw [u32s, List.length_map, hFl]; exact size55) (by simp [u32s, hYl, hFl]) (List.all_eq_true.2 (fun v hv => by simp only [u32s, List.mem_map] at hv; obtain ⟨x, _, rfl⟩ := hv; rfl)) ?_; intro w6 hc hb hs; have HF := hid (And.intro hc (And.intro (E1.out.db.frame hb (fun k hk hm => by have h1 := E1.out.old k hk; have h2 := HG2.out; simp only [List.mem_singleton] at hm; omega)) (E1.out.but.trans' hb (by have := HG2.out; omega)))); clear hc hb hs))
      exact ret_st2 rfl rfl g4 _ rfl HF.out.1 under55 rfl (by rw [size55]; simp [u32s, hFl]) ⟨d1, rfl, S1.out, HF.out.2.1, HF.out.2.2⟩
end Go.Proofs.YtdfnbcbnmiohnaaGreatDoor
