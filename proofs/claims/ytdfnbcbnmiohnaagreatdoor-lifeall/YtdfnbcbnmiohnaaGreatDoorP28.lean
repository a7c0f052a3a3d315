import Derived.Test.YtdfnbcbnmiohnaaGreatDoorP27
import Derived.Test.YtdfnbcbnmiohnaaGreatDoorP01
import Derived.Laws.CopyOwn
namespace Go.Proofs.YtdfnbcbnmiohnaaGreatDoor
open Go.RowKit
set_option maxHeartbeats 8000000
set_option maxRecDepth 100000
theorem MS.zero_ns (m : MS) (s : Bool) (p : Int) : (m.zero s p).ns = m.ns := by
  unfold MS.zero
  split <;> rfl
theorem MS.write_ns (m : MS) (s : Bool) (p off v : Int) : (m.write s p off v).ns = m.ns := by
  unfold MS.write
  split
  · rfl
  · split <;> rfl
def DS.wipe (d : DS) (q : Int) : DS := { d with m := d.m.zero true q }
theorem wipe_any (W : World) (p : Dp) (d : DS) (h : DB W p d) (q : Int) :
    Calls Tryz.prog 50 #[ptr p.g, .int .i64 q] W fun e W' => e = .returned (.tuple #[]) ∧ DB W' p (d.wipe q) ∧ ButL p.f.w W W' := by
  have HX := hid (h.on (Below.refl _ W).drew)
  have HB : Hid (Below W.heap.size W W.drew) := hid (Below.refl _ _).drew
  clear h
  simp only [ptr]
  go_enter Tryz.func50, Tryz.ntmps50
  refine wp_region_held_drew (S := fun w => w.cell? ⟨p.g, 0, none⟩ = some (.pointer (some ⟨p.f.gm, 0, none⟩))) (by kernel_rfl) HX.out.dv.mp (fun hHeld => ?_)
  refine tk 0 (some 4) (.pointer (some ⟨p.g, 0, none⟩)) ?_
  simp only [Act.put, tqA, tqZ, tqS]
  refine tk 1 (some 5) (.pointer (some ⟨p.g, 0, none⟩)) ?_
  simp only [Act.put, tqA, tqZ, tqS]
  refine tk 2 (some 6) (.pointer (some ⟨p.g, 0, none⟩)) ?_
  simp only [Act.put, tqA, tqZ, tqS]
  refine tk 3 (some 7) (.pointer (some ⟨p.f.gm, 0, none⟩)) ?_ (hy := Or.inl ⟨by rfl, by intro w hSw; have hc := hSw; go_simp⟩)
  simp only [Act.put, tqA, tqZ, tqS]
  refine tk 4 (some 8) (.int .i64 q) ?_
  simp only [Act.put, tqA, tqZ, tqS]
  refine wpAnyH_ready (rs := [5]) (by kernel_rfl) (by simp) (AllReadyH.cons rfl (fun KQ hK => ?_) AllReadyH.nil)
  go_simp
  refine (frame_any _ q).mono ?_
  rintro e w1 ⟨rfl, hb⟩
  have HX1 := hid (HX.out.on hb)
  have HB1 := hid (below_on HB.out hb)
  clear hb
  go_wp2_with fail
  refine hK.out _ _ HX1.out.dv.mp (fun hHeld => ?_)
  clear hK KQ
  try simp only [Act.put, tqA, tqZ, tqS]
  refine wpAnyH_ready (rs := [6]) (by kernel_rfl) (by simp) (AllReadyH.cons rfl (fun KQ hK => ?_) AllReadyH.nil)
  go_simp
  refine (zero_any _ p.f d.m HX1.out.mem true q).mono ?_
  rintro e w2 ⟨rfl, hm, hb⟩
  have HZ := hid (HX1.out.memory hm hb (MS.zero_ns _ _ _))
  have HZB := hid ((ButL.of (G := p.f.w) HB1.out).trans hb)
  clear hb hm
  go_wp2_with fail
  refine hK.out _ _ HZ.out.dv.mp (fun hHeld => ?_)
  clear hK KQ
  try simp only [Act.put, tqA, tqZ, tqS]
  refine wpAnyH_done (by kernel_rfl) ?_ _
  go_wp2_with fail
  go_returns
  exact ⟨rfl, HZ.out, HZB.out⟩
def trn (t : Int) : Bool := t == 4 || (t == 5 || t == 6)
theorem turns_any (W : World) (t : Int) : Calls Tryz.prog 90 #[.int .i64 t] W fun e W' => e = .returned (.bool (trn t)) ∧ W = W' := by
  unfold trn
  by_cases h4 : t = 4
  · subst h4
    go_enter Tryz.func90, Tryz.ntmps90
    go_wp2_with fail
    go_ret
    exact ⟨rfl, rfl⟩
  · by_cases h5 : t = 5
    · subst h5
      go_enter Tryz.func90, Tryz.ntmps90
      go_wp2_with fail
      go_ret
      exact ⟨rfl, rfl⟩
    · have q4 : (t == 4) = false := by simpa using h4
      have q5 : (t == 5) = false := by simpa using h5
      rw [q4, q5]
      clear h4 h5
      go_enter Tryz.func90, Tryz.ntmps90
      go_wp2_with fail
      go_ret
      exact ⟨rfl, rfl⟩
theorem isSpace_any (W : World) (p : Dp) (d : DS) (h : DB W p d) (q : Int) :
    Calls Tryz.prog 94 #[ptr p.g, .int .i64 q] W fun e W' => e = .returned (.bool ((d.ent q).t == 1)) ∧ Below W.heap.size W W' := by
  have HE := hid (fun w (hw : DB w p d) => entry_any w p d hw q)
  have HX := hid h
  clear h
  generalize d.ent q = D at *
  generalize d.entE q = DE at *
  simp only [ptr, En.v] at HE ⊢
  go_enter Tryz.func94, Tryz.ntmps94
  go_upto_region 2 with (first | (go_at_call 45; refine (HE.out _ HX.out).mono ?_; rintro e w1 ⟨rfl, hb⟩; have HB := hid hb; clear hb) | (refine wpList_store_st rfl 30 _ _ rfl w1.heap.size D.cs rfl rfl (Cel.new w1 30 En.zero.cs) sizeE rfl rfl ?_; intro w2 hc hb hs; have HC := hid hc; have HB2 := hid (new_below HB.out hb); clear hc hb hs))
  have c0 := HC.out.cell 0
  simp only [En.cs, tqG] at c0
  go_wp2_with fail
  go_ret
  exact ⟨rfl, HB2.out⟩
def DS.more (d : DS) (q : Int) : Bool := (d.ent q).t == 1 && decide ((d.ent q).r < 63)
theorem ownsMore_any (W : World) (p : Dp) (d : DS) (h : DB W p d) (q : Int) :
    Calls Tryz.prog 91 #[ptr p.g, .int .i64 q] W fun e W' => e = .returned (.bool (d.more q)) ∧ Below W.heap.size W W' := by
  have HE := hid (isSpace_any W p d h q)
  have HX := hid h
  unfold DS.more
  cases ht : ((d.ent q).t == 1)
  · rw [ht] at HE
    clear h ht
    simp only [Bool.false_and]
    simp only [ptr] at HE ⊢
    go_enter Tryz.func91, Tryz.ntmps91
    go_wp2_with (go_at_call 94; refine HE.out.mono ?_; rintro e w1 ⟨rfl, hb⟩; have HB := hid hb; clear hb)
    go_ret
    exact ⟨rfl, HB.out⟩
  · rw [ht] at HE
    have hq : d.there q = true := by
      cases hh : d.there q
      · rw [DS.ent, hh, if_neg (by decide)] at ht; exact absurd ht (by decide)
      · rfl
    have e1 : d.ent q = d.at q.toNat := by rw [DS.ent, if_pos hq]
    obtain ⟨q0, q1⟩ := of_decide_eq_true hq
    have HA := hid (fun w (hw : DB w p d) => dat_any w p d hw q.toNat (by omega))
    rw [Int.toNat_of_nonneg q0, ← e1] at HA
    clear e1 hq h ht q0 q1
    generalize d.ent q = D at *
    obtain ⟨t, o, r, s, e⟩ := D
    simp only [ptr, En.v, En.cs, Bool.true_and] at HE HA ⊢
    have hfd : ∀ w : World, (Instr.field 30 (.agg #[.int .i64 t, .int .i64 o, .int .i64 r, .int .i64 s, .bool e]) 2).run Tryz.prog w = .ok (.int .i64 r) w := fun _ => by kernel_rfl
    go_enter Tryz.func91, Tryz.ntmps91
    go_wp2_with (first | (go_at_call 94; refine HE.out.mono ?_; rintro e w1 ⟨rfl, hb⟩; have HB := hid hb; clear hb) | (go_at_call 93; refine (HA.out _ (HX.out.on HB.out)).mono ?_; rintro e w2 ⟨rfl, hb⟩; have HB2 := hid (below_on HB.out hb); clear hb))
    go_ret
    exact ⟨rfl, HB2.out⟩
theorem Bag.cell {W w : World} {L : List (Nat × TypeId × List Value)} (h : Bag W w L) (k j : Nat) {g : Nat} {t : TypeId} {cs : List Value} (hk : L[k]? = some (g, t, cs)) : w.cell? ⟨g, j, none⟩ = cs[j]? := (h.get k hk).cell j
structure DG (W w : World) (p : Dp) (d : DS) (G : List Nat) (L : List (Nat × TypeId × List Value)) : Prop where
  db : DB w p d
  but : ButL G W w
  bag : ∀ q ∈ L, Cel w q.1 q.2.1 q.2.2
  off : ∀ q ∈ L, W.heap.size ≤ q.1
  old : ∀ k ∈ p.all, k < W.heap.size
  G : ∀ k ∈ G, k < W.heap.size
theorem DG.start {W : World} {p : Dp} {d : DS} (h : DB W p d) (G : List Nat) (hG : ∀ k ∈ G, k < W.heap.size) : DG W W p d G [] := ⟨h, .refl _ _, by simp, by simp, h.lt, hG⟩
theorem DG.on {W w w' : World} {p : Dp} {d : DS} {G : List Nat} {L : List (Nat × TypeId × List Value)} (h : DG W w p d G L) (hb : Below w.heap.size w w') : DG W w' p d G L :=
  ⟨h.db.on hb, h.but.on hb, fun q hq => (h.bag q hq).on hb, h.off, h.old, h.G⟩
theorem DG.get {W w : World} {p : Dp} {d : DS} {G : List Nat} {L : List (Nat × TypeId × List Value)} (h : DG W w p d G L) (k : Nat) {g : Nat} {t : TypeId} {cs : List Value} (hk : L[k]? = some (g, t, cs)) : Cel w g t cs := h.bag _ (List.mem_of_getElem? hk)
theorem DG.add {W w w2 : World} {p : Dp} {d : DS} {G : List Nat} {L : List (Nat × TypeId × List Value)} {u : TypeId} {ds es : List Value} (h : DG W w p d G L) (hc : Cel w2 w.heap.size u es) (hb : ButL [w.heap.size] (w.alloc (.cells ds.toArray u)) w2) : DG W w2 p d G ((w.heap.size, u, es) :: L) := by
  have h1 := h.on (below_one w (.cells ds.toArray u))
  have hs := h.but.size
  refine ⟨h1.db.frame hb (fun k hk hm => ?_), h1.but.trans' hb hs, fun q hq => ?_, fun q hq => ?_, h.old, h.G⟩
  · rw [List.mem_singleton] at hm; have := h.old k hk; omega
  · rcases List.mem_cons.1 hq with rfl | hq
    · exact hc
    · exact new_store (h.bag q hq) hb
  · rcases List.mem_cons.1 hq with rfl | hq
    · exact hs
    · exact h.off q hq
theorem DG.put {W w w2 : World} {p : Dp} {d : DS} {G : List Nat} {g : Nat} {t : TypeId} {cs es : List Value} {L : List (Nat × TypeId × List Value)} (h : DG W w p d G ((g, t, cs) :: L)) (hne : ∀ q ∈ L, q.1 ≠ g) (hc : Cel w2 g t es) (hb : ButL [g] w w2) : DG W w2 p d G ((g, t, es) :: L) := by
  have hg := h.off (g, t, cs) (by simp)
  refine ⟨h.db.frame hb (fun k hk hm => ?_), h.but.trans' hb hg, fun q hq => ?_, fun q hq => ?_, h.old, h.G⟩
  · rw [List.mem_singleton] at hm; have := h.old k hk; simp only at hg; omega
  · rcases List.mem_cons.1 hq with rfl | hq
    · exact hc
    · exact (h.bag q (by simp [hq])).but hb (by rw [List.mem_singleton]; exact hne q hq)
  · rcases List.mem_cons.1 hq with rfl | hq
    · exact hg
    · exact h.off q (by simp [hq])
theorem DG.step {W w w2 : World} {p : Dp} {d d' : DS} {G H : List Nat} {L : List (Nat × TypeId × List Value)} (h : DG W w p d G L) (hd : DB w2 p d') (hb : ButL H w w2) (hH : ∀ k ∈ H, k ∈ G) : DG W w2 p d' G L :=
  ⟨hd, h.but.trans (hb.mono hH), fun q hq => (h.bag q hq).but hb (fun hm => by have := h.off q hq; have := h.G _ (hH _ hm); omega), h.off, h.old, h.G⟩
theorem Dp.w_all {p : Dp} {k : Nat} (h : k ∈ p.w) : k ∈ p.all := by
  simp only [Dp.w, Dp.all, List.mem_cons] at h ⊢
  rcases h with h | h
  · simp [h]
  · exact .inr (.inr (Fp.w_all h))
theorem DB.wlt {w : World} {p : Dp} {d : DS} (h : DB w p d) : ∀ k ∈ p.w, k < w.heap.size := fun k hk => h.lt k (Dp.w_all hk)
def DS.cnt (d : DS) (k : Nat) (n : Int) : DS := d.lay k { d.at k with r := (d.at k).r + n }
theorem count_any (W : World) (p : Dp) (d : DS) (h : DB W p d) (k : Nat) (hk : k < d.m.ns) (n : Int) (hx : En.ok { d.at k with r := (d.at k).r + n } = true) :
    Calls Tryz.prog 92 #[ptr p.g, .int .i64 (k : Int), .int .i64 n] W fun e W' => e = .returned (.tuple #[]) ∧ DB W' p (d.cnt k n) ∧ ButL [p.gw] W W' := by
  have D0 := hid (DG.start h [p.gw] (by simpa using h.wds.lt))
  have HA := hid (fun w (hw : DB w p d) => dat_any w p d hw k hk)
  have ho := h.ok.own k hk
  have HL := hid (fun w (hw : DB w p d) => lay_any w p d hw k hk { d.at k with r := (d.at k).r + n } hx ho)
  have h2 := ((d.at k).ok_iff.1 (h.ok.ok k hk))
  have h3 := (En.ok_iff _).1 hx
  have h4 : wrap64 ((d.at k).r + n) = (d.at k).r + n := by have := h3.r0; have := h3.r1; simp only at *; unfold wrap64; omega
  unfold DS.cnt
  clear h hx ho h2 h3 hk
  generalize hD : d.at k = D at *
  obtain ⟨t, o, r, s, e⟩ := D
  clear hD
  simp only [ptr, En.v, En.cs] at HA HL h4 ⊢
  rw [← h4] at HL ⊢
  clear h4
  generalize hrn : wrap64 (r + n) = rn at *
  go_enter Tryz.func92, Tryz.ntmps92
  go_upto_region 1 with (first | (go_at_call 93; refine (HA.out _ D0.out.db).mono ?_; rintro e w1 ⟨rfl, hb⟩; have D1 := hid (D0.out.on hb); clear hb) | (refine wpList_store_st rfl 30 _ _ rfl w1.heap.size [.int .i64 t, .int .i64 o, .int .i64 r, .int .i64 s, .bool e] rfl rfl (Cel.new w1 30 En.zero.cs) sizeE rfl rfl ?_; intro w2 hc hb hs; have D2 := hid (D1.out.add hc hb); clear hc hb hs))
  clear D0 D1
  generalize w1.heap.size = g6 at *
  have c2 := (D2.out.get 0 rfl).cell 2
  have f2 := (D2.out.get 0 rfl).free 2
  have D3 := hid (D2.out.put (by simp) ((D2.out.get 0 rfl).setCell 2 (.int .i64 rn)) (.setCell _ _ _ _ (by simp)))
  simp only [tqG, tqH, tqZ, tqS] at c2 D3
  go_upto_region 2 with fail
  rw [hrn]
  generalize w2.setCell _ _ = w3 at *
  go_wp2_with (first | (refine wpList_load_mid rfl 30 _ rfl g6 0 rfl _ _ ((D3.out.get 0 rfl).range) underE rfl (by rw [sizeE]; rfl) ?_) | (go_at_call 52; refine (HL.out _ D3.out.db).mono ?_; rintro e w4 ⟨rfl, hd, hb⟩; have D4 := hid (D3.out.step hd hb (by simp)); clear hb hd))
  go_returns
  exact ⟨rfl, D4.out.db, D4.out.but⟩
def DS.typ (d : DS) (q t : Int) : En := if d.there q = true ∧ (d.ent q).t = t then d.ent q else En.zero
def DS.typE (d : DS) (q t : Int) : Int := if d.there q = true then (if (d.ent q).t = t then 0 else 124) else 5
theorem typed_any (W : World) (p : Dp) (d : DS) (h : DB W p d) (q t : Int) :
    Calls Tryz.prog 110 #[ptr p.g, .int .i64 q, .int .i64 t] W fun e W' => e = .returned (.tuple #[(d.typ q t).v, .int .i64 (d.typE q t)]) ∧ Below W.heap.size W W' := by
  have B0 := hid (bag_one W 30 En.zero.cs)
  have HX := hid (h.on (below_one W (.cells En.zero.cs.toArray 30)))
  have HE := hid (fun w (hw : DB w p d) => entry_any w p d hw q)
  clear h
  unfold DS.typ DS.typE
  cases hq : d.there q
  · have e1 : d.ent q = En.zero := by simp [DS.ent, hq]
    have e2 : d.entE q = 5 := by simp [DS.entE, hq]
    rw [e1, e2] at HE
    simp only [Bool.false_eq_true, false_and, if_false]
    clear e1 e2 hq
    simp only [ptr, En.v, En.zero, En.cs] at HX B0 HE ⊢
    go_enter Tryz.func110, Tryz.ntmps110
    go_upto_region 1 with fail
    generalize W.alloc _ = X at *
    generalize hg : W.heap.size = g4 at B0 ⊢
    have HG := hid hg
    clear hg
    go_upto_region 2 with (first | (go_at_call 45; refine (HE.out _ HX.out).mono ?_; rintro e w1 ⟨rfl, hb⟩; have B1 := hid (B0.out.on hb); clear hb) | (refine wpList_store_st rfl 30 _ _ rfl w1.heap.size En.zero.cs rfl rfl (Cel.new w1 30 En.zero.cs) sizeE rfl rfl ?_; intro w2 hc hb hs; have B2 := hid (B1.out.add hc hb); clear hc hb hs))
    generalize w1.heap.size = g8 at *
    go_wp2_with (first | (refine wpList_load_mid rfl 30 _ rfl g8 0 rfl _ _ ((B2.out.get 0 rfl).range) underE rfl (by rw [sizeE]; rfl) ?_) | (refine wpList_store_st rfl 30 _ _ rfl g4 En.zero.cs rfl rfl (B2.out.get 1 rfl) sizeE rfl rfl ?_; intro w4 hc hb hs; have HF := hid (And.intro hc (B2.out.below.trans (hb.below (by have := HG.out; simp; omega) B2.out.below.size))); clear hc hb hs))
    exact ret_st2 rfl rfl g4 _ rfl HF.out.1 underE rfl sizeE ⟨rfl, HF.out.2⟩
  · have e2 : d.entE q = 0 := by simp [DS.entE, hq]
    rw [e2] at HE
    simp only [true_and, if_true]
    clear e2 hq
    generalize d.ent q = D at *
    by_cases ht : D.t = t
    · rw [if_pos ht, if_pos ht]
      obtain ⟨t', o, r, s, e⟩ := D
      simp only at ht
      subst ht
      simp only [ptr, En.v, En.zero, En.cs] at HX B0 HE ⊢
      go_enter Tryz.func110, Tryz.ntmps110
      go_upto_region 1 with fail
      generalize W.alloc _ = X at *
      generalize hg : W.heap.size = g4 at B0 ⊢
      have HG := hid hg
      clear hg
      go_upto_region 2 with (first | (go_at_call 45; refine (HE.out _ HX.out).mono ?_; rintro e w1 ⟨rfl, hb⟩; have B1 := hid (B0.out.on hb); clear hb) | (refine wpList_store_st rfl 30 _ _ rfl w1.heap.size [.int .i64 t', .int .i64 o, .int .i64 r, .int .i64 s, .bool e] rfl rfl (Cel.new w1 30 En.zero.cs) sizeE rfl rfl ?_; intro w2 hc hb hs; have B2 := hid (B1.out.add hc hb); clear hc hb hs))
      generalize w1.heap.size = g8 at *
      have c0 := (B2.out.get 0 rfl).cell 0
      simp only [tqG] at c0
      go_wp2_with (first | (refine wpList_load_mid rfl 30 _ rfl g8 0 rfl _ _ ((B2.out.get 0 rfl).range) underE rfl (by rw [sizeE]; rfl) ?_) | (refine wpList_store_st rfl 30 _ _ rfl g4 [.int .i64 t', .int .i64 o, .int .i64 r, .int .i64 s, .bool e] rfl rfl (B2.out.get 1 rfl) sizeE rfl rfl ?_; intro w4 hc hb hs; have HF := hid (And.intro hc (B2.out.below.trans (hb.below (by have := HG.out; simp; omega) B2.out.below.size))); clear hc hb hs))
      exact ret_st2 rfl rfl g4 _ rfl HF.out.1 underE rfl sizeE ⟨rfl, HF.out.2⟩
    · rw [if_neg ht, if_neg ht]
      obtain ⟨t', o, r, s, e⟩ := D
      simp only at ht
      have ht' : (t' == t) = false := by simpa using ht
      clear ht
      simp only [ptr, En.v, En.zero, En.cs] at HX B0 HE ⊢
      go_enter Tryz.func110, Tryz.ntmps110
      go_upto_region 1 with fail
      generalize W.alloc _ = X at *
      generalize hg : W.heap.size = g4 at B0 ⊢
      have HG := hid hg
      clear hg
      go_upto_region 2 with (first | (go_at_call 45; refine (HE.out _ HX.out).mono ?_; rintro e w1 ⟨rfl, hb⟩; have B1 := hid (B0.out.on hb); clear hb) | (refine wpList_store_st rfl 30 _ _ rfl w1.heap.size [.int .i64 t', .int .i64 o, .int .i64 r, .int .i64 s, .bool e] rfl rfl (Cel.new w1 30 En.zero.cs) sizeE rfl rfl ?_; intro w2 hc hb hs; have B2 := hid (B1.out.add hc hb); clear hc hb hs))
      generalize w1.heap.size = g8 at *
      have c0 := (B2.out.get 0 rfl).cell 0
      simp only [tqG] at c0
      go_wp2_with (first | (refine wpList_build_zE rfl rfl ?_) | (refine wpList_store_st rfl 30 _ _ rfl g4 En.zero.cs rfl rfl (B2.out.get 1 rfl) sizeE rfl rfl ?_; intro w4 hc hb hs; have HF := hid (And.intro hc (B2.out.below.trans (hb.below (by have := HG.out; simp; omega) B2.out.below.size))); clear hc hb hs))
      exact ret_st2 rfl rfl g4 _ rfl HF.out.1 underE rfl sizeE ⟨rfl, HF.out.2⟩
set_option maxHeartbeats 8000000
set_option maxRecDepth 100000
theorem wr32 (x : Int) (h0 : 0 ≤ x) (h1 : x < 4294967296) : IntKind.wrap .u32 x = x := by rw [IntKind.wrap_u32]; omega
def DS.bearE (d : DS) (s f : Int) : Int :=
  if d.entE s ≠ 0 then d.entE s else if d.entE f ≠ 0 then d.entE f else if s = f then 1 else if (d.ent s).t ≠ 0 then 120 else if (d.ent f).t ≠ 0 then 120 else if 64 ≤ d.b then 240 else 0
theorem mayBear_any (W : World) (p : Dp) (d : DS) (h : DB W p d) (s f : Int) :
    Calls Tryz.prog 51 #[ptr p.g, .int .i64 s, .int .i64 f] W fun e W' => e = .returned (.int .i64 (d.bearE s f)) ∧ Below W.heap.size W W' := by
  have D0 := hid (DG.start h [] (by simp))
  have HE1 := hid (fun w (hw : DB w p d) => entry_any w p d hw s)
  have HE2 := hid (fun w (hw : DB w p d) => entry_any w p d hw f)
  have HB := hid (fun w (hw : DB w p d) => births_any w p d hw)
  clear h
  unfold DS.bearE
  generalize d.ent s = X at *
  generalize d.ent f = Y at *
  generalize d.entE s = xe at *
  generalize d.entE f = ye at *
  obtain ⟨xt, xo, xr, xs, xx⟩ := X
  obtain ⟨yt, yo, yr, ys, yx⟩ := Y
  generalize hr : (if xe ≠ 0 then xe else _ : Int) = R
  have HR := hid hr
  clear hr
  simp only [ptr, En.v, En.cs] at HE1 HE2 HB ⊢
  go_enter Tryz.func51, Tryz.ntmps51
  go_upto_region 2 with (first | (go_at_call 45; refine (HE1.out _ D0.out.db).mono ?_; rintro e w1 ⟨rfl, hb⟩; have D1 := hid (D0.out.on hb); clear hb) | (refine wpList_store_st rfl 30 _ _ rfl w1.heap.size [.int .i64 xt, .int .i64 xo, .int .i64 xr, .int .i64 xs, .bool xx] rfl rfl (Cel.new w1 30 En.zero.cs) sizeE rfl rfl ?_; intro w2 hc hb hs; have D2 := hid (D1.out.add hc hb); clear hc hb hs))
  clear D0 D1
  generalize w1.heap.size = g7 at *
  go_upto_region 3 with (first | (go_at_call 45; refine (HE2.out _ D2.out.db).mono ?_; rintro e w3 ⟨rfl, hb⟩; have D3 := hid (D2.out.on hb); clear hb) | (refine wpList_store_st rfl 30 _ _ rfl w3.heap.size [.int .i64 yt, .int .i64 yo, .int .i64 yr, .int .i64 ys, .bool yx] rfl rfl (Cel.new w3 30 En.zero.cs) sizeE rfl rfl ?_; intro w4 hc hb hs; have D4 := hid (D3.out.add hc hb); clear hc hb hs))
  clear D2 D3 HE1 HE2
  generalize w3.heap.size = g9 at *
  have c0 := (D4.out.get 0 rfl).cell 0
  have c1 := (D4.out.get 1 rfl).cell 0
  simp only [tqG] at c0 c1
  have HF := hid (D4.out.but.below (B := W.heap.size) (by simp) (Nat.le_refl _))
  by_cases h1 : xe = 0
  · subst h1
    by_cases h2 : ye = 0
    · subst h2
      by_cases h3 : s = f
      · subst h3
        have hR : R = 1 := by rw [← HR.out]; simp
        subst hR
        clear HR
        go_wp2_with fail
        go_ret
        exact ⟨rfl, HF.out⟩
      · have h3' : (s == f) = false := by simpa using h3
        by_cases h4 : xt = 0
        · subst h4
          by_cases h5 : yt = 0
          · subst h5
            by_cases h6 : 64 ≤ d.b
            · have hR : R = 240 := by rw [← HR.out]; simp [h3, h6]
              subst hR
              clear HR h3
              go_wp2_with (go_at_call 99; refine (HB.out _ D4.out.db).mono ?_; rintro e w5 ⟨rfl, rfl⟩)
              go_ret
              exact ⟨rfl, HF.out⟩
            · have hR : R = 0 := by rw [← HR.out]; simp [h3, h6]
              have h6' : d.b < 64 := by omega
              subst hR
              clear HR h3 h6
              go_wp2_with (go_at_call 99; refine (HB.out _ D4.out.db).mono ?_; rintro e w5 ⟨rfl, rfl⟩)
              go_ret
              exact ⟨rfl, HF.out⟩
          · have h5' : (yt == 0) = false := by simpa using h5
            have hR : R = 120 := by rw [← HR.out]; simp [h3, h5]
            subst hR
            clear HR h3 h5
            go_wp2_with fail
            go_ret
            exact ⟨rfl, HF.out⟩
        · have h4' : (xt == 0) = false := by simpa using h4
          have hR : R = 120 := by rw [← HR.out]; simp [h3, h4]
          subst hR
          clear HR h3 h4
          go_wp2_with fail
          go_ret
          exact ⟨rfl, HF.out⟩
    · have h2' : (ye == 0) = false := by simpa using h2
      have hR : R = ye := by rw [← HR.out]; simp [h2]
      subst hR
      clear HR h2
      go_wp2_with fail
      go_ret
      exact ⟨rfl, HF.out⟩
  · have h1' : (xe == 0) = false := by simpa using h1
    have hR : R = xe := by rw [← HR.out]; simp [h1]
    subst hR
    clear HR h1
    go_wp2_with fail
    go_ret
    exact ⟨rfl, HF.out⟩
def enF (s : Int) : En := ⟨3, s, 0, 0, false⟩
def enS (s : Int) : En := ⟨1, s, 1, 1, false⟩
def MS.born (m : MS) (s f b : Int) : MS := ((m.write true s 0 f).write true s 1 b).write true s 2 0
def DS.space (d : DS) (s f : Int) : DS := { ((d.lay f.toNat (enF s)).lay s.toNat (enS s)) with m := d.m.born s f d.b, b := d.b + 1 }
def DS.takeSpace (d : DS) (s f : Int) : DS := if d.bearE s f = 0 then d.space s f else d
theorem bear_zero {d : DS} {s f : Int} (h : d.bearE s f = 0) : d.there s = true ∧ d.there f = true ∧ s ≠ f ∧ (d.ent s).t = 0 ∧ (d.ent f).t = 0 ∧ d.b < 64 := by
  cases hs : d.there s
  · simp [DS.bearE, DS.entE, hs] at h
  cases hf : d.there f
  · simp [DS.bearE, DS.entE, hs, hf] at h
  simp only [DS.bearE, DS.entE, hs, hf, if_true, ne_eq, not_true_eq_false, if_false] at h
  by_cases h3 : s = f
  · simp [h3] at h
  rw [if_neg h3] at h
  by_cases h4 : (d.ent s).t = 0
  · by_cases h5 : (d.ent f).t = 0
    · by_cases h6 : 64 ≤ d.b
      · simp [h4, h5, h6] at h
      · exact ⟨rfl, rfl, h3, h4, h5, by omega⟩
    · simp [h4, h5] at h
  · simp [h4] at h
theorem enF_ok {s : Int} (h0 : 0 ≤ s) (h1 : s < 64) : (enF s).ok = true := by
  rw [En.ok_iff]
  exact ⟨by simp [enF], by simp [enF], h0, h1, by simp [enF], by simp [enF], by simp [enF], by simp [enF], by simp [enF], by simp [enF], by simp [enF], by simp [enF]⟩
theorem enS_ok {s : Int} (h0 : 0 ≤ s) (h1 : s < 64) : (enS s).ok = true := by
  rw [En.ok_iff]
  exact ⟨by simp [enS], by simp [enS], h0, h1, by simp [enS], by simp [enS], by simp [enS], by simp [enS], by simp [enS], by simp [enS], by simp [enS], by simp [enS]⟩
theorem built_F (s : Int) : Tryz.prog.built 30 [(0, .int .i64 3), (1, .int .i64 s)] = some (enF s).cs.toArray := by kernel_rfl
theorem built_S (s : Int) : Tryz.prog.built 30 [(0, .int .i64 1), (1, .int .i64 s), (2, .int .i64 1), (3, .int .i64 1)] = some (enS s).cs.toArray := by kernel_rfl
theorem DB.born {w : World} {p : Dp} {d : DS} (h : DB w p d) (hb : d.b < 64) : DB (w.setCell ⟨p.gw, 0, none⟩ (.int .u32 (d.b + 1))) p { d with b := d.b + 1 } :=
  h.words (b' := d.b + 1) (E' := d.E) (by
    have := h.wds.setCell 0 (.int .u32 (d.b + 1))
    rw [u32s_set] at this
    exact this) (.setCell _ _ _ _ (by simp)) (by
    obtain ⟨a, b, c, e, f, g⟩ := h.ok
    exact ⟨a, b, c, e, by show 0 ≤ d.b + 1; omega, by show d.b + 1 ≤ 64; omega⟩)
theorem cells3 {w : World} {p : Dp} {d : DS} (h : DB w p d) : w.cell? ⟨p.g, 0, none⟩ = some (.pointer (some ⟨p.f.gm, 0, none⟩)) ∧ w.cell? ⟨p.g, 1, none⟩ = some (.slice (some ⟨p.gw, 0, none⟩) (1 + 2 * d.m.ns) (1 + 2 * d.m.ns)) ∧ w.cell? ⟨p.gw, 0, none⟩ = some (.int .u32 d.b) :=
  ⟨h.dv.mp, h.dv.sl, by have := h.wds.cell 0; rw [this]; rfl⟩
theorem takeSpace_any (W : World) (p : Dp) (d : DS) (h : DB W p d) (s f : Int) :
    Calls Tryz.prog 15 #[ptr p.g, .int .i64 s, .int .i64 f] W fun e W' => e = .returned (.int .i64 (d.bearE s f)) ∧ DB W' p (d.takeSpace s f) ∧ ButL p.w W W' := by
  have D0 := hid (DG.start h p.w h.wlt)
  have HM := hid (mayBear_any W p d h s f)
  unfold DS.takeSpace
  by_cases hz : d.bearE s f = 0
  · rw [if_pos hz]
    rw [hz] at HM ⊢
    obtain ⟨ts, tf, hsf, t1, t2, hb⟩ := bear_zero hz
    obtain ⟨s0, s1⟩ := of_decide_eq_true ts
    obtain ⟨f0, f1⟩ := of_decide_eq_true tf
    have n64 := h.ok.n64
    have b0 := h.ok.b0
    have es : s = ((s.toNat : Nat) : Int) := by omega
    have ef : f = ((f.toNat : Nat) : Int) := by omega
    have HL1 := hid (fun w (hw : DB w p d) => lay_any w p d hw f.toNat (by omega) (enF s) (enF_ok s0 (by omega)) (by simpa [enF] using s1))
    have HL2 := hid (fun w (hw : DB w p (d.lay f.toNat (enF s))) => lay_any w p _ hw s.toNat (by show s.toNat < d.m.ns; omega) (enS s) (enS_ok s0 (by omega)) (by simpa [enS, DS.lay] using s1))
    rw [← ef] at HL1
    rw [← es] at HL2
    have wf : f % 4294967296 = f := by omega
    have wf2 : IntKind.wrap .u32 f = f := wr32 f (by omega) (by omega)
    have wb : (d.b + 1) % 4294967296 = d.b + 1 := by omega
    have HBB : Hid (d.b < 64) := hid hb
    have HSP : Hid (d.space s f = { (d.lay f.toNat (enF s)).lay s.toNat (enS s) with m := d.m.born s f d.b, b := d.b + 1 }) := hid rfl
    obtain ⟨d1, hd1⟩ : ∃ d1, d1 = d.lay f.toNat (enF s) := ⟨_, rfl⟩
    obtain ⟨d2, hd2⟩ : ∃ d2, d2 = d1.lay s.toNat (enS s) := ⟨_, rfl⟩
    rw [← hd1] at HL1 HL2 HSP
    rw [← hd2] at HL2 HSP
    have HD2 : Hid (d2.m = d.m ∧ d2.b = d.b) := hid (by rw [hd2, hd1]; exact ⟨rfl, rfl⟩)
    clear h hz ts tf hsf t1 t2 hb s0 s1 f0 f1 n64 b0 es ef hd1 hd2
    simp only [ptr, En.v] at HM HL1 HL2 ⊢
    go_enter Tryz.func15, Tryz.ntmps15
    go_upto_region 4 with (go_at_call 51; refine HM.out.mono ?_; rintro e w1 ⟨rfl, hb⟩; have D1 := hid (D0.out.on hb); clear hb D0)
    clear HM
    go_upto_region 5 with (first | (refine wpList_build_f rfl 30 _ rfl #[(0, .int .i64 3), (1, .int .i64 s)] (by rfl) _ (built_F s) ?_) | (go_at_call 52; refine (HL1.out _ D1.out.db).mono ?_; rintro e w2 ⟨rfl, hd, hb⟩; have D2 := hid (D1.out.step hd hb (by simp [Dp.w])); clear hb hd))
    clear HL1 D1
    go_upto_region 6 with (first | (refine wpList_build_f rfl 30 _ rfl #[(0, .int .i64 1), (1, .int .i64 s), (2, .int .i64 1), (3, .int .i64 1)] (by rfl) _ (built_S s) ?_) | (go_at_call 52; refine (HL2.out _ D2.out.db).mono ?_; rintro e w3 ⟨rfl, hd, hb⟩; have D3 := hid (D2.out.step hd hb (by simp [Dp.w])); clear hb hd))
    clear HL2 D2
    have D4 := hid (D3.out.on (Below.refl _ _).drew)
    clear D3
    obtain ⟨N, hN⟩ : ∃ N, N = 1 + 2 * d2.m.ns := ⟨_, rfl⟩
    have hc3 : Hid (∀ w m', DB w p { d2 with m := m' } → m'.ns = d2.m.ns → w.cell? ⟨p.g, 0, none⟩ = some (.pointer (some ⟨p.f.gm, 0, none⟩)) ∧ w.cell? ⟨p.g, 1, none⟩ = some (.slice (some ⟨p.gw, 0, none⟩) N N) ∧ w.cell? ⟨p.gw, 0, none⟩ = some (.int .u32 d2.b)) := hid (fun w m' hw hn => by
      have := cells3 hw
      rw [hN, ← hn]
      exact this)
    have N0 : (0 : Int) < (N : Int) := by omega
    have N1 : ¬ N = 0 := by omega
    clear hN
    refine wp_region_held_drew (S := fun w => w.cell? ⟨p.g, 0, none⟩ = some (.pointer (some ⟨p.f.gm, 0, none⟩)) ∧ w.cell? ⟨p.g, 1, none⟩ = some (.slice (some ⟨p.gw, 0, none⟩) N N) ∧ w.cell? ⟨p.gw, 0, none⟩ = some (.int .u32 d2.b)) (by kernel_rfl) (hc3.out _ _ D4.out.db rfl) (fun hHeld => ?_)
    refine tk 0 (some 25) (.pointer (some ⟨p.g, 0, none⟩)) ?_
    simp only [Act.put, tqA, tqZ, tqS]
    refine tk 1 (some 26) (.pointer (some ⟨p.g, 0, none⟩)) ?_
    simp only [Act.put, tqA, tqZ, tqS]
    refine tk 2 (some 27) (.pointer (some ⟨p.g, 0, none⟩)) ?_
    simp only [Act.put, tqA, tqZ, tqS]
    refine tk 3 (some 28) (.pointer (some ⟨p.f.gm, 0, none⟩)) ?_ (hy := Or.inl ⟨by rfl, by intro w hSw; have hc := hSw.1; go_simp⟩)
    simp only [Act.put, tqA, tqZ, tqS]
    refine tk 4 (some 29) (.int .i64 s) ?_
    simp only [Act.put, tqA, tqZ, tqS]
    refine tk 6 (some 31) (.int .i64 f) ?_
    simp only [Act.put, tqA, tqZ, tqS]
    refine tk 7 (some 32) (.int .u32 f) ?_
    simp only [Act.put, tqA, tqZ, tqS]
    refine wpAnyH_ready (rs := [5]) (by kernel_rfl) (by simp) (AllReadyH.cons rfl (fun KQ hK => ?_) AllReadyH.nil)
    go_simp
    refine (frame_any _ s).mono ?_
    rintro e w4 ⟨rfl, hb⟩
    have D5 := hid (D4.out.on hb)
    clear hb
    go_wp2_with fail
    refine hK.out _ _ (hc3.out _ _ D5.out.db rfl) (fun hHeld => ?_)
    clear hK KQ
    try simp only [Act.put, tqA, tqZ, tqS]
    refine wpAnyH_ready (rs := [8]) (by kernel_rfl) (by simp) (AllReadyH.cons rfl (fun KQ hK => ?_) AllReadyH.nil)
    go_simp
    refine (write_any _ p.f _ D5.out.db.mem true s 0 f).mono ?_
    rintro e w5 ⟨rfl, hm, hb⟩
    have D6 := hid (D5.out.step (D5.out.db.memory hm hb (MS.write_ns _ _ _ _ _)) hb (fun k hk => by simp only [Dp.w, List.mem_cons]; exact .inr hk))
    clear hb hm
    go_wp2_with fail
    refine hK.out _ _ (hc3.out _ _ D6.out.db (MS.write_ns _ _ _ _ _)) (fun hHeld => ?_)
    clear hK KQ
    try simp only [Act.put, tqA, tqZ, tqS]
    refine wpAnyH_done (by kernel_rfl) ?_ _
    go_upto_region 7 with fail
    have D7 := hid (D6.out.on (Below.refl _ _).drew)
    clear D4 D5 D6
    refine wp_region_held_drew (S := fun w => w.cell? ⟨p.g, 0, none⟩ = some (.pointer (some ⟨p.f.gm, 0, none⟩)) ∧ w.cell? ⟨p.g, 1, none⟩ = some (.slice (some ⟨p.gw, 0, none⟩) N N) ∧ w.cell? ⟨p.gw, 0, none⟩ = some (.int .u32 d2.b)) (by kernel_rfl) (hc3.out _ _ D7.out.db (MS.write_ns _ _ _ _ _)) (fun hHeld => ?_)
    refine tk 0 (some 34) (.pointer (some ⟨p.g, 0, none⟩)) ?_
    simp only [Act.put, tqA, tqZ, tqS]
    refine tk 1 (some 35) (.pointer (some ⟨p.g, 0, none⟩)) ?_
    simp only [Act.put, tqA, tqZ, tqS]
    refine tk 2 (some 36) (.pointer (some ⟨p.g, 0, none⟩)) ?_
    simp only [Act.put, tqA, tqZ, tqS]
    refine tk 3 (some 37) (.pointer (some ⟨p.f.gm, 0, none⟩)) ?_ (hy := Or.inl ⟨by rfl, by intro w hSw; have hc := hSw.1; go_simp⟩)
    simp only [Act.put, tqA, tqZ, tqS]
    refine tk 4 (some 38) (.int .i64 s) ?_
    simp only [Act.put, tqA, tqZ, tqS]
    refine tk 6 (some 40) (.pointer (some ⟨p.g, 0, none⟩)) ?_
    simp only [Act.put, tqA, tqZ, tqS]
    refine tk 7 (some 41) (.pointer (some ⟨p.g, 0, none⟩)) ?_
    simp only [Act.put, tqA, tqZ, tqS]
    refine tk 8 (some 42) (.pointer (some ⟨p.g, 1, none⟩)) ?_
    simp only [Act.put, tqA, tqZ, tqS]
    refine tk 9 (some 43) (.slice (some ⟨p.gw, 0, none⟩) N N) ?_ (hy := Or.inl ⟨by rfl, by intro w hSw; have hc := hSw.2.1; go_simp⟩)
    simp only [Act.put, tqA, tqZ, tqS]
    refine tk 10 (some 44) (.pointer (some ⟨p.gw, 0, none⟩)) ?_
    simp only [Act.put, tqA, tqZ, tqS]
    refine tk 11 (some 45) (.int .u32 d2.b) ?_ (hy := Or.inl ⟨by rfl, by intro w hSw; have hc := hSw.2.2; go_simp⟩)
    simp only [Act.put, tqA, tqZ, tqS]
    refine wpAnyH_ready (rs := [5]) (by kernel_rfl) (by simp) (AllReadyH.cons rfl (fun KQ hK => ?_) AllReadyH.nil)
    go_simp
    refine (frame_any _ s).mono ?_
    rintro e w6 ⟨rfl, hb⟩
    have D8 := hid (D7.out.on hb)
    clear hb
    go_wp2_with fail
    refine hK.out _ _ (hc3.out _ _ D8.out.db (MS.write_ns _ _ _ _ _)) (fun hHeld => ?_)
    clear hK KQ
    try simp only [Act.put, tqA, tqZ, tqS]
    refine wpAnyH_ready (rs := [12]) (by kernel_rfl) (by simp) (AllReadyH.cons rfl (fun KQ hK => ?_) AllReadyH.nil)
    go_simp
    refine (write_any _ p.f _ D8.out.db.mem true s 1 d2.b).mono ?_
    rintro e w7 ⟨rfl, hm, hb⟩
    have D9 := hid (D8.out.step (D8.out.db.memory hm hb (MS.write_ns _ _ _ _ _)) hb (fun k hk => by simp only [Dp.w, List.mem_cons]; exact .inr hk))
    clear hb hm
    go_wp2_with fail
    refine hK.out _ _ (hc3.out _ _ D9.out.db ((MS.write_ns _ _ _ _ _).trans (MS.write_ns _ _ _ _ _))) (fun hHeld => ?_)
    clear hK KQ
    try simp only [Act.put, tqA, tqZ, tqS]
    refine wpAnyH_done (by kernel_rfl) ?_ _
    go_upto_region 8 with fail
    have DA := hid (D9.out.on (Below.refl _ _).drew)
    clear D7 D8 D9
    refine wp_region_held_drew (S := fun w => w.cell? ⟨p.g, 0, none⟩ = some (.pointer (some ⟨p.f.gm, 0, none⟩)) ∧ w.cell? ⟨p.g, 1, none⟩ = some (.slice (some ⟨p.gw, 0, none⟩) N N) ∧ w.cell? ⟨p.gw, 0, none⟩ = some (.int .u32 d2.b)) (by kernel_rfl) (hc3.out _ _ DA.out.db ((MS.write_ns _ _ _ _ _).trans (MS.write_ns _ _ _ _ _))) (fun hHeld => ?_)
    refine tk 0 (some 47) (.pointer (some ⟨p.g, 0, none⟩)) ?_
    simp only [Act.put, tqA, tqZ, tqS]
    refine tk 1 (some 48) (.pointer (some ⟨p.g, 0, none⟩)) ?_
    simp only [Act.put, tqA, tqZ, tqS]
    refine tk 2 (some 49) (.pointer (some ⟨p.g, 0, none⟩)) ?_
    simp only [Act.put, tqA, tqZ, tqS]
    refine tk 3 (some 50) (.pointer (some ⟨p.f.gm, 0, none⟩)) ?_ (hy := Or.inl ⟨by rfl, by intro w hSw; have hc := hSw.1; go_simp⟩)
    simp only [Act.put, tqA, tqZ, tqS]
    refine tk 4 (some 51) (.int .i64 s) ?_
    simp only [Act.put, tqA, tqZ, tqS]
    refine wpAnyH_ready (rs := [5]) (by kernel_rfl) (by simp) (AllReadyH.cons rfl (fun KQ hK => ?_) AllReadyH.nil)
    go_simp
    refine (frame_any _ s).mono ?_
    rintro e w8 ⟨rfl, hb⟩
    have DB := hid (DA.out.on hb)
    clear hb
    go_wp2_with fail
    refine hK.out _ _ (hc3.out _ _ DB.out.db ((MS.write_ns _ _ _ _ _).trans (MS.write_ns _ _ _ _ _))) (fun hHeld => ?_)
    clear hK KQ
    try simp only [Act.put, tqA, tqZ, tqS]
    refine wpAnyH_ready (rs := [6]) (by kernel_rfl) (by simp) (AllReadyH.cons rfl (fun KQ hK => ?_) AllReadyH.nil)
    go_simp
    refine (write_any _ p.f _ DB.out.db.mem true s 2 0).mono ?_
    rintro e w9 ⟨rfl, hm, hb⟩
    have DC := hid (DB.out.step (DB.out.db.memory hm hb (MS.write_ns _ _ _ _ _)) hb (fun k hk => by simp only [Dp.w, List.mem_cons]; exact .inr hk))
    clear hb hm
    go_wp2_with fail
    refine hK.out _ _ (hc3.out _ _ DC.out.db ((MS.write_ns _ _ _ _ _).trans ((MS.write_ns _ _ _ _ _).trans (MS.write_ns _ _ _ _ _)))) (fun hHeld => ?_)
    clear hK KQ
    try simp only [Act.put, tqA, tqZ, tqS]
    refine wpAnyH_done (by kernel_rfl) ?_ _
    obtain ⟨k0, k1, k2⟩ := hc3.out _ _ DC.out.db (MS.write_ns _ _ _ _ _ |>.trans ((MS.write_ns _ _ _ _ _).trans (MS.write_ns _ _ _ _ _)))
    have kf := DC.out.db.wds.free 0
    have HZ := hid (DC.out.step (DC.out.db.born (by show d2.b < 64; rw [HD2.out.2]; exact HBB.out)) (.setCell (G := [p.gw]) _ _ _ _ (by simp)) (by simp [Dp.w]))
    rw [← HD2.out.2] at wb
    go_wp2_with fail
    go_ret
    refine ⟨rfl, ?_, HZ.out.but⟩
    have hz := HZ.out.db
    rw [HSP.out]
    rw [MS.born, ← HD2.out.1, ← HD2.out.2]
    exact hz
  · rw [if_neg hz]
    have hz' : (d.bearE s f == 0) = false := by simpa using hz
    generalize d.bearE s f = R at *
    clear hz h
    simp only [ptr] at HM ⊢
    go_enter Tryz.func15, Tryz.ntmps15
    go_wp2_with (go_at_call 51; refine HM.out.mono ?_; rintro e w1 ⟨rfl, hb⟩; have D1 := hid (D0.out.on hb); clear hb D0)
    go_ret
    exact ⟨rfl, D1.out.db, D1.out.but⟩
set_option maxHeartbeats 2000000
set_option maxRecDepth 100000
theorem En.okR {x : En} (h : x.ok = true) (ht : x.t = 1) (r : Int) (r0 : 0 ≤ r) (r1 : r < 64) : En.ok { x with r := r } = true := by
  rw [En.ok_iff] at *
  obtain ⟨t0, t1, o0, o1, _, _, s0, s1, z, sp, ns, en⟩ := h
  exact ⟨t0, t1, o0, o1, r0, r1, s0, s1, z, sp, fun h => absurd ht h, en⟩
theorem En.okS {x : En} (h : x.ok = true) (ht : x.t = 1) (s : Int) (r0 : 1 ≤ s) (r1 : s < 4) : En.ok { x with s := s } = true := by
  rw [En.ok_iff] at *
  obtain ⟨t0, t1, o0, o1, q0, q1, s0, s1, z, sp, ns, en⟩ := h
  exact ⟨t0, t1, o0, o1, q0, q1, by show 0 ≤ s; omega, r1, z, fun _ => r0, fun h => absurd ht h, en⟩
def enT (t o : Int) : En := ⟨t, o, 0, 0, false⟩
theorem enT_ok {t o : Int} (t0 : 2 ≤ t) (t1 : t ≤ 6) (h0 : 0 ≤ o) (h1 : o < 64) : (enT t o).ok = true := by
  rw [En.ok_iff]
  exact ⟨by show 0 ≤ t; omega, t1, h0, h1, by simp [enT], by simp [enT], by simp [enT], by simp [enT], by show t = 0 → _; omega, by show t = 1 → _; omega, by simp [enT], by simp [enT]⟩
theorem zero_ok : En.zero.ok = true := by decide
theorem built_T (t s : Int) : Tryz.prog.built 30 [(0, .int .i64 t), (1, .int .i64 s)] = some (enT t s).cs.toArray := by kernel_rfl
def DS.takeE (d : DS) (q t s : Int) : Int := if d.entE q ≠ 0 then d.entE q else if t ≠ 2 ∧ trn t = false then 124 else if d.more s = false then 122 else if (d.ent q).t ≠ 0 then 120 else 0
def DS.taken (d : DS) (q t s : Int) : DS := (d.lay q.toNat (enT t s)).cnt s.toNat 1
def DS.take (d : DS) (q t s : Int) : DS := if d.takeE q t s = 0 then d.taken q t s else d
theorem trn_iff (t : Int) : trn t = true ↔ t = 4 ∨ t = 5 ∨ t = 6 := by simp [trn]
theorem take_zero {d : DS} {q t s : Int} (h : d.takeE q t s = 0) : d.there q = true ∧ (2 ≤ t ∧ t ≤ 6) ∧ (t = 2 ∨ trn t = true) ∧ d.more s = true ∧ (d.ent q).t = 0 := by
  cases hq : d.there q
  · simp [DS.takeE, DS.entE, hq] at h
  simp only [DS.takeE, DS.entE, hq, if_true, ne_eq, not_true_eq_false, if_false] at h
  by_cases h1 : t ≠ 2 ∧ trn t = false
  · rw [if_pos h1] at h; cases h
  rw [if_neg h1] at h
  have h2 : t = 2 ∨ trn t = true := by
    by_cases e : t = 2
    · exact .inl e
    · refine .inr ?_
      cases hh : trn t
      · exact absurd ⟨e, hh⟩ h1
      · rfl
  cases hm : d.more s
  · rw [hm, if_pos rfl] at h; cases h
  rw [hm, if_neg (by decide)] at h
  by_cases h4 : (d.ent q).t = 0
  · refine ⟨rfl, ?_, h2, rfl, h4⟩
    rcases h2 with h2 | h2
    · omega
    · rw [trn_iff] at h2; omega
  · simp [h4] at h
theorem there_of {d : DS} {q : Int} (h : (d.ent q).t ≠ 0) : d.there q = true := by
  cases hh : d.there q
  · simp [DS.ent, hh, En.zero] at h
  · rfl
theorem more_of {d : DS} {s : Int} (h : d.more s = true) : d.there s = true ∧ (d.ent s).t = 1 ∧ (d.ent s).r < 63 := by
  simp only [DS.more, Bool.and_eq_true, beq_iff_eq, decide_eq_true_eq] at h
  exact ⟨there_of (by rw [h.1]; decide), h⟩
theorem lay_at {d : DS} (k j : Nat) (x : En) (hk : k < d.E.length) : (d.lay k x).at j = if j = k then x else d.at j := by
  by_cases e : j = k
  · subst e; rw [if_pos rfl]; simp [DS.at, DS.lay, List.getD_eq_getElem?_getD, List.getElem?_set_self hk]
  · rw [if_neg e]; simp [DS.at, DS.lay, List.getD_eq_getElem?_getD, List.getElem?_set_ne (Ne.symm e)]
theorem ent_at {d : DS} {q : Int} (h : d.there q = true) : d.ent q = d.at q.toNat := by rw [DS.ent, if_pos h]
theorem there_lt {d : DS} {q : Int} (h : d.there q = true) : 0 ≤ q ∧ q.toNat < d.m.ns ∧ q = ((q.toNat : Nat) : Int) := by
  obtain ⟨a, b⟩ := of_decide_eq_true h
  exact ⟨a, by omega, by omega⟩
theorem take_any (W : World) (p : Dp) (d : DS) (h : DB W p d) (q t s : Int) :
    Calls Tryz.prog 43 #[ptr p.g, .int .i64 q, .int .i64 t, .int .i64 s] W fun e W' => e = .returned (.int .i64 (d.takeE q t s)) ∧ DB W' p (d.take q t s) ∧ ButL p.w W W' := by
  have D0 := hid (DG.start h p.w h.wlt)
  have HE := hid (fun w (hw : DB w p d) => entry_any w p d hw q)
  have HT := hid (fun W => turns_any W t)
  have HM := hid (fun w (hw : DB w p d) => ownsMore_any w p d hw s)
  unfold DS.take
  by_cases hz : d.takeE q t s = 0
  · rw [if_pos hz, hz]
    obtain ⟨tq, ⟨t0, t1⟩, ht, hm, hf⟩ := take_zero hz
    obtain ⟨ts, s1, s2⟩ := more_of hm
    obtain ⟨q0, q1, eq⟩ := there_lt tq
    obtain ⟨s0, s3, es⟩ := there_lt ts
    have n64 := h.ok.n64
    have hne : s.toNat ≠ q.toNat := fun e => by
      rw [ent_at ts, e, ← ent_at tq, hf] at s1
      cases s1
    have hql : q.toNat < d.E.length := by rw [h.ok.len]; exact q1
    have ha : (d.lay q.toNat (enT t s)).at s.toNat = d.ent s := by rw [lay_at _ _ _ hql, if_neg hne, ent_at ts]
    have hok := h.ok.ok _ s3
    rw [← ent_at ts] at hok
    have HL := hid (fun w (hw : DB w p d) => lay_any w p d hw q.toNat q1 (enT t s) (enT_ok t0 t1 s0 (by omega)) (by show s < _; omega))
    have HC := hid (fun w (hw : DB w p (d.lay q.toNat (enT t s))) => count_any w p _ hw s.toNat s3 1 (by rw [ha]; exact En.okR hok s1 _ (by have := ((En.ok_iff _).1 hok).r0; omega) (by omega)))
    rw [← eq] at HL
    rw [← es] at HC
    have e2 : d.entE q = 0 := by simp [DS.entE, tq]
    rw [e2] at HE
    rw [hm] at HM
    unfold DS.taken
    generalize d.lay q.toNat (enT t s) = d1 at *
    generalize d1.cnt s.toNat 1 = d2 at *
    generalize hX : d.ent q = X at *
    obtain ⟨xt, xo, xr, xs, xx⟩ := X
    simp only at hf
    subst hf
    have hT : t = 2 ∨ ((t != 2) = true ∧ trn t = true) := by
      by_cases e : t = 2
      · exact .inl e
      · exact .inr ⟨by simpa using e, ht.resolve_left e⟩
    clear h hz tq t0 t1 ht hm ts s1 s2 q0 q1 eq s0 s3 es n64 hne hql ha hok e2 hX
    simp only [ptr, En.v, En.cs] at HE
    simp only [ptr, En.v] at HT HM HL HC ⊢
    go_enter Tryz.func43, Tryz.ntmps43
    go_upto_region 2 with (first | (go_at_call 45; refine (HE.out _ D0.out.db).mono ?_; rintro e w1 ⟨rfl, hb⟩; have D1 := hid (D0.out.on hb); clear hb) | (refine wpList_store_st rfl 30 _ _ rfl w1.heap.size [.int .i64 0, .int .i64 xo, .int .i64 xr, .int .i64 xs, .bool xx] rfl rfl (Cel.new w1 30 En.zero.cs) sizeE rfl rfl ?_; intro w2 hc hb hs; have D2 := hid (D1.out.add hc hb); clear hc hb hs))
    clear D0 D1 HE
    generalize w1.heap.size = g9 at *
    rcases hT with hT | ⟨hT, hT2⟩
    · subst hT
      go_upto_region 8 with (go_at_call 91; refine (HM.out _ D2.out.db).mono ?_; rintro e w3 ⟨rfl, hb⟩; have D3 := hid (D2.out.on hb); clear hb)
      clear D2 HM HT
      have c0 := (D3.out.get 0 rfl).cell 0
      simp only [tqG] at c0
      go_upto_region 11 with (first | (refine wpList_build_f rfl 30 _ rfl #[(0, .int .i64 2), (1, .int .i64 s)] (by rfl) _ (built_T 2 s) ?_) | (go_at_call 52; refine (HL.out _ D3.out.db).mono ?_; rintro e w4 ⟨rfl, hd, hb⟩; have D4 := hid (D3.out.step hd hb (by simp [Dp.w])); clear hb hd))
      go_wp2_with (go_at_call 92; refine (HC.out _ D4.out.db).mono ?_; rintro e w5 ⟨rfl, hd, hb⟩; have D5 := hid (D4.out.step hd hb (by simp [Dp.w])); clear hb hd)
      go_ret
      exact ⟨rfl, D5.out.db, D5.out.but⟩
    · rw [hT2] at HT
      go_upto_region 8 with (first | (go_at_call 90; refine (HT.out _).mono ?_; rintro e w6 ⟨rfl, rfl⟩) | (go_at_call 91; refine (HM.out _ D2.out.db).mono ?_; rintro e w3 ⟨rfl, hb⟩; have D3 := hid (D2.out.on hb); clear hb))
      clear D2 HM HT
      have c0 := (D3.out.get 0 rfl).cell 0
      simp only [tqG] at c0
      go_upto_region 11 with (first | (refine wpList_build_f rfl 30 _ rfl #[(0, .int .i64 t), (1, .int .i64 s)] (by rfl) _ (built_T t s) ?_) | (go_at_call 52; refine (HL.out _ D3.out.db).mono ?_; rintro e w4 ⟨rfl, hd, hb⟩; have D4 := hid (D3.out.step hd hb (by simp [Dp.w])); clear hb hd))
      go_wp2_with (go_at_call 92; refine (HC.out _ D4.out.db).mono ?_; rintro e w5 ⟨rfl, hd, hb⟩; have D5 := hid (D4.out.step hd hb (by simp [Dp.w])); clear hb hd)
      go_ret
      exact ⟨rfl, D5.out.db, D5.out.but⟩
  · rw [if_neg hz]
    have HR : Hid (d.takeE q t s ≠ 0 ∧ d.takeE q t s = if d.entE q ≠ 0 then d.entE q else if t ≠ 2 ∧ trn t = false then 124 else if d.more s = false then 122 else if (d.ent q).t ≠ 0 then 120 else 0) := hid ⟨hz, rfl⟩
    generalize d.takeE q t s = R at *
    clear h hz
    generalize d.ent q = X at *
    obtain ⟨xt, xo, xr, xs, xx⟩ := X
    generalize d.entE q = xe at *
    generalize trn t = tt at *
    generalize d.more s = mm at *
    simp only [ptr, En.v, En.cs] at HE HT HM ⊢
    go_enter Tryz.func43, Tryz.ntmps43
    go_upto_region 2 with (first | (go_at_call 45; refine (HE.out _ D0.out.db).mono ?_; rintro e w1 ⟨rfl, hb⟩; have D1 := hid (D0.out.on hb); clear hb) | (refine wpList_store_st rfl 30 _ _ rfl w1.heap.size [.int .i64 xt, .int .i64 xo, .int .i64 xr, .int .i64 xs, .bool xx] rfl rfl (Cel.new w1 30 En.zero.cs) sizeE rfl rfl ?_; intro w2 hc hb hs; have D2 := hid (D1.out.add hc hb); clear hc hb hs))
    clear D0 D1 HE
    generalize w1.heap.size = g9 at *
    by_cases h1 : xe = 0
    · subst h1
      have HT2 : Hid ((t ≠ 2 ∧ tt = false) ∨ t = 2 ∨ ((t != 2) = true ∧ tt = true)) := hid (by
        by_cases e : t = 2
        · exact .inr (.inl e)
        · cases tt
          · exact .inl ⟨e, rfl⟩
          · exact .inr (.inr ⟨by simpa using e, rfl⟩))
      rcases HT2.out with hT | hT | ⟨hT, hT2⟩
      · have hR : R = 124 := by rw [HR.out.2]; simp [hT.1, hT.2]
        have hT' : (t != 2) = true := by simpa using hT.1
        subst hR
        rw [hT.2] at HT
        clear HR HT2 hT
        go_wp2_with (go_at_call 90; refine (HT.out _).mono ?_; rintro e w6 ⟨rfl, rfl⟩)
        go_ret
        exact ⟨rfl, D2.out.db, D2.out.but⟩
      · subst hT
        cases mm
        · have hR : R = 122 := by rw [HR.out.2]; simp
          subst hR
          clear HR HT2 HT
          go_wp2_with (go_at_call 91; refine (HM.out _ D2.out.db).mono ?_; rintro e w3 ⟨rfl, hb⟩; have D3 := hid (D2.out.on hb); clear hb)
          go_ret
          exact ⟨rfl, D3.out.db, D3.out.but⟩
        · have hX : xt ≠ 0 := fun e => HR.out.1 (by rw [HR.out.2, e]; simp)
          have hR : R = 120 := by rw [HR.out.2]; simp [hX]
          have hX' : (xt == 0) = false := by simpa using hX
          subst hR
          clear HR HT2 HT hX
          go_upto_region 8 with (go_at_call 91; refine (HM.out _ D2.out.db).mono ?_; rintro e w3 ⟨rfl, hb⟩; have D3 := hid (D2.out.on hb); clear hb)
          have c0 := (D3.out.get 0 rfl).cell 0
          simp only [tqG] at c0
          go_wp2_with fail
          go_ret
          exact ⟨rfl, D3.out.db, D3.out.but⟩
      · subst hT2
        cases mm
        · have hR : R = 122 := by rw [HR.out.2]; simp
          subst hR
          clear HR HT2
          go_wp2_with (first | (go_at_call 90; refine (HT.out _).mono ?_; rintro e w6 ⟨rfl, rfl⟩) | (go_at_call 91; refine (HM.out _ D2.out.db).mono ?_; rintro e w3 ⟨rfl, hb⟩; have D3 := hid (D2.out.on hb); clear hb))
          go_ret
          exact ⟨rfl, D3.out.db, D3.out.but⟩
        · have hX : xt ≠ 0 := fun e => HR.out.1 (by rw [HR.out.2, e]; simp)
          have hR : R = 120 := by rw [HR.out.2]; simp [hX]
          have hX' : (xt == 0) = false := by simpa using hX
          subst hR
          clear HR HT2 hX
          go_upto_region 8 with (first | (go_at_call 90; refine (HT.out _).mono ?_; rintro e w6 ⟨rfl, rfl⟩) | (go_at_call 91; refine (HM.out _ D2.out.db).mono ?_; rintro e w3 ⟨rfl, hb⟩; have D3 := hid (D2.out.on hb); clear hb))
          have c0 := (D3.out.get 0 rfl).cell 0
          simp only [tqG] at c0
          go_wp2_with fail
          go_ret
          exact ⟨rfl, D3.out.db, D3.out.but⟩
    · have h1' : (xe == 0) = false := by simpa using h1
      have hR : R = xe := by rw [HR.out.2]; simp [h1]
      subst hR
      clear HR h1
      go_wp2_with fail
      go_ret
      exact ⟨rfl, D2.out.db, D2.out.but⟩
set_option maxHeartbeats 2000000
set_option maxRecDepth 100000
def DS.turnE (d : DS) (q t : Int) : Int := if d.entE q ≠ 0 then d.entE q else if trn (d.ent q).t = false then 124 else if trn t = false then 124 else 0
def DS.turned (d : DS) (q t : Int) : DS := (d.lay q.toNat (enT t (d.ent q).o)).wipe q
def DS.turn (d : DS) (q t : Int) : DS := if d.turnE q t = 0 then d.turned q t else d
def DS.stateE (d : DS) (q s : Int) : Int := if d.typE q 1 ≠ 0 then d.typE q 1 else if s = 3 ∨ (s = 2 ∧ (d.ent q).s = 1) then 0 else 3
def DS.stated (d : DS) (q s : Int) : DS := d.lay q.toNat { d.ent q with s := s }
def DS.state (d : DS) (q s : Int) : DS := if d.stateE q s = 0 then d.stated q s else d
theorem typ_zero {d : DS} {q t : Int} (h : d.typE q t = 0) : d.there q = true ∧ (d.ent q).t = t ∧ d.typ q t = d.ent q := by
  unfold DS.typE at h
  cases hq : d.there q
  · simp [hq] at h
  · by_cases ht : (d.ent q).t = t
    · exact ⟨rfl, ht, by simp [DS.typ, hq, ht]⟩
    · simp [hq, ht] at h
theorem setState_any (W : World) (p : Dp) (d : DS) (h : DB W p d) (q s : Int) :
    Calls Tryz.prog 62 #[ptr p.g, .int .i64 q, .int .i64 s] W fun e W' => e = .returned (.int .i64 (d.stateE q s)) ∧ DB W' p (d.state q s) ∧ ButL p.w W W' := by
  have D0 := hid (DG.start h p.w h.wlt)
  have HE := hid (fun w (hw : DB w p d) => typed_any w p d hw q 1)
  unfold DS.state
  by_cases hy : d.typE q 1 = 0
  · obtain ⟨tq, t1, ty⟩ := typ_zero hy
    obtain ⟨q0, q1, eq⟩ := there_lt tq
    have hok := h.ok.ok _ q1
    have how := h.ok.own _ q1
    rw [← ent_at tq] at hok how
    rw [ty, hy] at HE
    by_cases hs : s = 3 ∨ (s = 2 ∧ (d.ent q).s = 1)
    · have hz : d.stateE q s = 0 := by simp [DS.stateE, hy, hs]
      rw [if_pos hz, hz]
      have HL := hid (fun w (hw : DB w p d) => lay_any w p d hw q.toNat q1 { d.ent q with s := s } (En.okS hok t1 s (by omega) (by omega)) how)
      rw [← eq] at HL
      unfold DS.stated
      generalize hX : d.ent q = X at *
      obtain ⟨xt, xo, xr, xs, xx⟩ := X
      simp only at HL hs ⊢
      generalize d.lay q.toNat _ = d1 at *
      clear h hy tq t1 ty q0 q1 eq hok how hz hX
      simp only [ptr, En.v, En.cs] at HE HL ⊢
      go_enter Tryz.func62, Tryz.ntmps62
      go_upto_region 2 with (first | (go_at_call 110; refine (HE.out _ D0.out.db).mono ?_; rintro e w1 ⟨rfl, hb⟩; have D1 := hid (D0.out.on hb); clear hb) | (refine wpList_store_st rfl 30 _ _ rfl w1.heap.size [.int .i64 xt, .int .i64 xo, .int .i64 xr, .int .i64 xs, .bool xx] rfl rfl (Cel.new w1 30 En.zero.cs) sizeE rfl rfl ?_; intro w2 hc hb hs; have D2 := hid (D1.out.add hc hb); clear hc hb hs))
      clear D0 D1 HE
      generalize w1.heap.size = g7 at *
      have c3 := (D2.out.get 0 rfl).cell 3
      have f3 := (D2.out.get 0 rfl).free 3
      have D3 := hid (D2.out.put (by simp) ((D2.out.get 0 rfl).setCell 3 (.int .i64 s)) (.setCell _ _ _ _ (by simp)))
      simp only [tqG, tqH, tqZ, tqS] at c3 D3
      rcases hs with hs | ⟨hs, hx⟩
      · subst hs
        go_upto_region 7 with fail
        generalize w2.setCell _ _ = w3 at *
        go_wp2_with (first | (refine wpList_load_mid rfl 30 _ rfl g7 0 rfl _ _ ((D3.out.get 0 rfl).range) underE rfl (by rw [sizeE]; rfl) ?_) | (go_at_call 52; refine (HL.out _ D3.out.db).mono ?_; rintro e w4 ⟨rfl, hd, hb⟩; have D4 := hid (D3.out.step hd hb (by simp [Dp.w])); clear hb hd))
        go_ret
        exact ⟨rfl, D4.out.db, D4.out.but⟩
      · subst hs hx
        go_upto_region 7 with fail
        generalize w2.setCell _ _ = w3 at *
        go_wp2_with (first | (refine wpList_load_mid rfl 30 _ rfl g7 0 rfl _ _ ((D3.out.get 0 rfl).range) underE rfl (by rw [sizeE]; rfl) ?_) | (go_at_call 52; refine (HL.out _ D3.out.db).mono ?_; rintro e w4 ⟨rfl, hd, hb⟩; have D4 := hid (D3.out.step hd hb (by simp [Dp.w])); clear hb hd))
        go_ret
        exact ⟨rfl, D4.out.db, D4.out.but⟩
    · have hz : d.stateE q s = 3 := by simp [DS.stateE, hy, hs]
      rw [if_neg (by rw [hz]; decide), hz]
      generalize hX : d.ent q = X at *
      obtain ⟨xt, xo, xr, xs, xx⟩ := X
      simp only at hs
      have hs1 : (s != 3) = true := by simp; intro e; exact hs (.inl e)
      have hs2 : (s != 2) = true ∨ (s = 2 ∧ (xs != 1) = true) := by
        by_cases e : s = 2
        · exact .inr ⟨e, by simp; intro e2; exact hs (.inr ⟨e, e2⟩)⟩
        · exact .inl (by simpa using e)
      clear h hy tq t1 ty q0 q1 eq hok how hz hX hs
      simp only [ptr, En.v, En.cs] at HE ⊢
      go_enter Tryz.func62, Tryz.ntmps62
      go_upto_region 2 with (first | (go_at_call 110; refine (HE.out _ D0.out.db).mono ?_; rintro e w1 ⟨rfl, hb⟩; have D1 := hid (D0.out.on hb); clear hb) | (refine wpList_store_st rfl 30 _ _ rfl w1.heap.size [.int .i64 xt, .int .i64 xo, .int .i64 xr, .int .i64 xs, .bool xx] rfl rfl (Cel.new w1 30 En.zero.cs) sizeE rfl rfl ?_; intro w2 hc hb hs; have D2 := hid (D1.out.add hc hb); clear hc hb hs))
      clear D0 D1 HE
      generalize w1.heap.size = g7 at *
      have c3 := (D2.out.get 0 rfl).cell 3
      simp only [tqG, tqH] at c3
      rcases hs2 with hs2 | ⟨hs2, hx⟩
      · go_wp2_with fail
        go_ret
        exact ⟨rfl, D2.out.db, D2.out.but⟩
      · subst hs2
        clear hs1
        go_wp2_with fail
        go_ret
        exact ⟨rfl, D2.out.db, D2.out.but⟩
  · have hz : d.stateE q s = d.typE q 1 := by simp [DS.stateE, hy]
    rw [hz, if_neg hy]
    have hy' : (d.typE q 1 == 0) = false := by simpa using hy
    clear h hz hy
    generalize d.typE q 1 = R at *
    generalize d.typ q 1 = X at *
    obtain ⟨xt, xo, xr, xs, xx⟩ := X
    simp only [ptr, En.v, En.cs] at HE ⊢
    go_enter Tryz.func62, Tryz.ntmps62
    go_upto_region 2 with (first | (go_at_call 110; refine (HE.out _ D0.out.db).mono ?_; rintro e w1 ⟨rfl, hb⟩; have D1 := hid (D0.out.on hb); clear hb) | (refine wpList_store_st rfl 30 _ _ rfl w1.heap.size [.int .i64 xt, .int .i64 xo, .int .i64 xr, .int .i64 xs, .bool xx] rfl rfl (Cel.new w1 30 En.zero.cs) sizeE rfl rfl ?_; intro w2 hc hb hs; have D2 := hid (D1.out.add hc hb); clear hc hb hs))
    clear D0 D1 HE
    go_wp2_with fail
    go_ret
    exact ⟨rfl, D2.out.db, D2.out.but⟩
def DS.enteredE (d : DS) (q : Int) : Int := d.typE q 2
def DS.entered (d : DS) (q : Int) (on : Bool) : DS := if d.enteredE q = 0 then d.lay q.toNat { d.ent q with e := on } else d
set_option maxHeartbeats 2000000
set_option maxRecDepth 100000
def DS.giveE (d : DS) (q : Int) : Int := if d.entE q ≠ 0 then d.entE q else if (d.ent q).t = 0 then 121 else if (d.ent q).t = 1 ∧ 0 < (d.ent q).r then 123 else 0
def DS.freed (d : DS) (q : Int) : DS := (d.lay q.toNat En.zero).wipe q
def DS.given (d : DS) (q : Int) : DS := if (d.ent q).t ≠ 1 ∧ 0 < ((d.freed q).at (d.ent q).o.toNat).r then (d.freed q).cnt (d.ent q).o.toNat (-1) else d.freed q
def DS.give (d : DS) (q : Int) : DS := if d.giveE q = 0 then d.given q else d
theorem give_zero {d : DS} {q : Int} (h : d.giveE q = 0) : d.there q = true ∧ (d.ent q).t ≠ 0 ∧ ((d.ent q).t ≠ 1 ∨ (d.ent q).r ≤ 0) := by
  cases hq : d.there q
  · simp [DS.giveE, DS.entE, hq] at h
  simp only [DS.giveE, DS.entE, hq, if_true, ne_eq, not_true_eq_false, if_false] at h
  by_cases h1 : (d.ent q).t = 0
  · rw [if_pos h1] at h; cases h
  rw [if_neg h1] at h
  by_cases h2 : (d.ent q).t = 1 ∧ 0 < (d.ent q).r
  · rw [if_pos h2] at h; cases h
  exact ⟨rfl, h1, by omega⟩
theorem give_any (W : World) (p : Dp) (d : DS) (h : DB W p d) (q : Int) :
    Calls Tryz.prog 70 #[ptr p.g, .int .i64 q] W fun e W' => e = .returned (.int .i64 (d.giveE q)) ∧ DB W' p (d.give q) ∧ ButL p.w W W' := by
  have D0 := hid (DG.start h p.w h.wlt)
  have HE := hid (fun w (hw : DB w p d) => entry_any w p d hw q)
  unfold DS.give
  by_cases hz : d.giveE q = 0
  · rw [if_pos hz, hz]
    obtain ⟨tq, h1, h2⟩ := give_zero hz
    obtain ⟨q0, q1, eq⟩ := there_lt tq
    have hok := (En.ok_iff _).1 (h.ok.ok _ q1)
    have how := h.ok.own _ q1
    rw [← ent_at tq] at hok how
    have o0 := hok.o0
    have on : (d.ent q).o.toNat < d.m.ns := by omega
    have eo : (d.ent q).o = (((d.ent q).o.toNat : Nat) : Int) := by omega
    have HL := hid (fun w (hw : DB w p d) => lay_any w p d hw q.toNat q1 En.zero zero_ok (by show (0 : Int) < _; omega))
    rw [← eq] at HL
    have HW : Hid (∀ w, DB w p (d.lay q.toNat En.zero) → Calls Tryz.prog 50 #[ptr p.g, .int .i64 q] w fun e W' => e = .returned (.tuple #[]) ∧ DB W' p (d.freed q) ∧ ButL p.f.w w W') := hid (fun w hw => wipe_any w p _ hw q)
    have hns : (d.freed q).m.ns = d.m.ns := by show (d.m.zero true q).ns = _; exact MS.zero_ns _ _ _
    have HA := hid (fun w (hw : DB w p (d.freed q)) => dat_any w p _ hw (d.ent q).o.toNat (by rw [hns]; exact on))
    have HC : Hid (∀ w, DB w p (d.freed q) → 0 < ((d.freed q).at (d.ent q).o.toNat).r → Calls Tryz.prog 92 #[ptr p.g, .int .i64 (((d.ent q).o.toNat : Nat) : Int), .int .i64 (-1)] w fun e W' => e = .returned (.tuple #[]) ∧ DB W' p ((d.freed q).cnt (d.ent q).o.toNat (-1)) ∧ ButL [p.gw] w W') := hid (fun w hw hr => by
      have hk := hw.ok.ok (d.ent q).o.toNat (by rw [hns]; exact on)
      have hk2 := (En.ok_iff _).1 hk
      refine count_any w p _ hw _ (by rw [hns]; exact on) (-1) (En.okR hk ?_ _ (by omega) (by have := hk2.r1; omega))
      by_cases e : ((d.freed q).at (d.ent q).o.toNat).t = 1
      · exact e
      · have := (hk2.ns e).1; omega)
    rw [← eo] at HC HA
    have e2 : d.entE q = 0 := by simp [DS.entE, tq]
    rw [e2] at HE
    unfold DS.given
    generalize d.lay q.toNat En.zero = d1 at *
    generalize d.freed q = d2 at *
    generalize hY : d2.at (d.ent q).o.toNat = Y at *
    generalize d2.cnt (d.ent q).o.toNat (-1) = d3 at *
    generalize hX : d.ent q = X at *
    obtain ⟨xt, xo, xr, xs, xx⟩ := X
    obtain ⟨yt, yo, yr, ys, yx⟩ := Y
    simp only at HA HC h1 h2 ⊢
    clear h hz tq q0 q1 eq hok how o0 on eo hns e2 hX hY
    simp only [ptr, En.v, En.cs] at HE HA
    simp only [ptr, En.v] at HL HW HC ⊢
    have hfd : ∀ w : World, (Instr.field 30 (.agg #[.int .i64 yt, .int .i64 yo, .int .i64 yr, .int .i64 ys, .bool yx]) 2).run Tryz.prog w = .ok (.int .i64 yr) w := fun _ => by kernel_rfl
    have hx0 : (xt == 0) = false := by simpa using h1
    clear h1
    by_cases h3 : xt = 1
    · subst h3
      have h2' : xr ≤ 0 := by omega
      clear h2
      rw [if_neg (by simp)]
      clear HA HC hfd
      go_enter Tryz.func70, Tryz.ntmps70
      go_upto_region 2 with (first | (go_at_call 45; refine (HE.out _ D0.out.db).mono ?_; rintro e w1 ⟨rfl, hb⟩; have D1 := hid (D0.out.on hb); clear hb) | (refine wpList_store_st rfl 30 _ _ rfl w1.heap.size [.int .i64 1, .int .i64 xo, .int .i64 xr, .int .i64 xs, .bool xx] rfl rfl (Cel.new w1 30 En.zero.cs) sizeE rfl rfl ?_; intro w2 hc hb hs; have D2 := hid (D1.out.add hc hb); clear hc hb hs))
      clear D0 D1 HE
      generalize w1.heap.size = g5 at *
      have c0 := (D2.out.get 0 rfl).cell 0
      have c2 := (D2.out.get 0 rfl).cell 2
      simp only [tqG, tqH] at c0 c2
      go_upto_region 9 with (first | (refine wpList_build_zE rfl rfl ?_) | (go_at_call 52; refine (HL.out _ D2.out.db).mono ?_; rintro e w4 ⟨rfl, hd, hb⟩; have D4 := hid (D2.out.step hd hb (by simp [Dp.w])); clear hb hd))
      clear D2 HL c0 c2
      go_upto_region 10 with (go_at_call 50; refine (HW.out _ D4.out.db).mono ?_; rintro e w5 ⟨rfl, hd, hb⟩; have D5 := hid (D4.out.step hd hb (fun k hk => by simp only [Dp.w, List.mem_cons]; exact .inr hk)); clear hb hd)
      have c0 := (D5.out.get 0 rfl).cell 0
      simp only [tqG] at c0
      go_wp2_with fail
      go_ret
      exact ⟨rfl, D5.out.db, D5.out.but⟩
    · have h3' : (xt != 1) = true := by simpa using h3
      have h3'' : (xt == 1) = false := by simpa using h3
      generalize hd4 : (if xt ≠ 1 ∧ 0 < yr then d3 else d2) = d4
      have HD4 := hid hd4
      clear hd4
      go_enter Tryz.func70, Tryz.ntmps70
      go_upto_region 2 with (first | (go_at_call 45; refine (HE.out _ D0.out.db).mono ?_; rintro e w1 ⟨rfl, hb⟩; have D1 := hid (D0.out.on hb); clear hb) | (refine wpList_store_st rfl 30 _ _ rfl w1.heap.size [.int .i64 xt, .int .i64 xo, .int .i64 xr, .int .i64 xs, .bool xx] rfl rfl (Cel.new w1 30 En.zero.cs) sizeE rfl rfl ?_; intro w2 hc hb hs; have D2 := hid (D1.out.add hc hb); clear hc hb hs))
      clear D0 D1 HE
      generalize w1.heap.size = g5 at *
      have c0 := (D2.out.get 0 rfl).cell 0
      simp only [tqG] at c0
      go_upto_region 9 with (first | (refine wpList_build_zE rfl rfl ?_) | (go_at_call 52; refine (HL.out _ D2.out.db).mono ?_; rintro e w4 ⟨rfl, hd, hb⟩; have D4 := hid (D2.out.step hd hb (by simp [Dp.w])); clear hb hd))
      clear D2 HL c0
      go_upto_region 10 with (go_at_call 50; refine (HW.out _ D4.out.db).mono ?_; rintro e w5 ⟨rfl, hd, hb⟩; have D5 := hid (D4.out.step hd hb (fun k hk => by simp only [Dp.w, List.mem_cons]; exact .inr hk)); clear hb hd)
      clear D4 HW
      have c0 := (D5.out.get 0 rfl).cell 0
      have c1 := (D5.out.get 0 rfl).cell 1
      simp only [tqG, tqH] at c0 c1
      by_cases h4 : 0 < yr
      · have HD5 : Hid (d4 = d3) := hid (by rw [← HD4.out, if_pos ⟨h3, h4⟩])
        clear h3 h2
        have HC2 := hid (fun w hw => HC.out w hw h4)
        clear HC
        go_upto_region 11 with (go_at_call 93; refine (HA.out _ D5.out.db).mono ?_; rintro e w6 ⟨rfl, hb⟩; have D6 := hid (D5.out.on hb); clear hb)
        have k1 := (D6.out.get 0 rfl).cell 1
        simp only [tqG, tqH] at k1
        go_wp2_with (go_at_call 92; refine (HC2.out _ D6.out.db).mono ?_; rintro e w7 ⟨rfl, hd, hb⟩; have D7 := hid (D6.out.step hd hb (by simp [Dp.w])); clear hb hd)
        go_ret
        exact ⟨rfl, by rw [HD5.out]; exact D7.out.db, D7.out.but⟩
      · have HD5 : Hid (d4 = d2) := hid (by rw [← HD4.out, if_neg (by omega)])
        have h4' : yr ≤ 0 := by omega
        clear h3 h2 h4 HC
        go_wp2_with (go_at_call 93; refine (HA.out _ D5.out.db).mono ?_; rintro e w6 ⟨rfl, hb⟩; have D6 := hid (D5.out.on hb); clear hb)
        go_ret
        exact ⟨rfl, by rw [HD5.out]; exact D6.out.db, D6.out.but⟩
  · rw [if_neg hz]
    have HR : Hid (d.giveE q ≠ 0 ∧ d.giveE q = if d.entE q ≠ 0 then d.entE q else if (d.ent q).t = 0 then 121 else if (d.ent q).t = 1 ∧ 0 < (d.ent q).r then 123 else 0) := hid ⟨hz, rfl⟩
    generalize d.giveE q = R at *
    clear h hz
    generalize d.ent q = X at *
    obtain ⟨xt, xo, xr, xs, xx⟩ := X
    generalize d.entE q = xe at *
    simp only at HR
    simp only [ptr, En.v, En.cs] at HE ⊢
    go_enter Tryz.func70, Tryz.ntmps70
    go_upto_region 2 with (first | (go_at_call 45; refine (HE.out _ D0.out.db).mono ?_; rintro e w1 ⟨rfl, hb⟩; have D1 := hid (D0.out.on hb); clear hb) | (refine wpList_store_st rfl 30 _ _ rfl w1.heap.size [.int .i64 xt, .int .i64 xo, .int .i64 xr, .int .i64 xs, .bool xx] rfl rfl (Cel.new w1 30 En.zero.cs) sizeE rfl rfl ?_; intro w2 hc hb hs; have D2 := hid (D1.out.add hc hb); clear hc hb hs))
    clear D0 D1 HE
    generalize w1.heap.size = g5 at *
    have c0 := (D2.out.get 0 rfl).cell 0
    have c2 := (D2.out.get 0 rfl).cell 2
    simp only [tqG, tqH] at c0 c2
    by_cases h1 : xe = 0
    · subst h1
      by_cases h2 : xt = 0
      · subst h2
        have hR : R = 121 := by rw [HR.out.2]; simp
        subst hR
        clear HR
        go_wp2_with fail
        go_ret
        exact ⟨rfl, D2.out.db, D2.out.but⟩
      · by_cases h3 : xt = 1 ∧ 0 < xr
        · obtain ⟨rfl, h4⟩ := h3
          have hR : R = 123 := by rw [HR.out.2]; simp [h4]
          subst hR
          clear HR h2
          go_wp2_with fail
          go_ret
          exact ⟨rfl, D2.out.db, D2.out.but⟩
        · exact absurd (HR.out.2.trans (by simp [h2, h3])) HR.out.1
    · have h1' : (xe == 0) = false := by simpa using h1
      have hR : R = xe := by rw [HR.out.2]; simp [h1]
      subst hR
      clear HR h1
      go_wp2_with fail
      go_ret
      exact ⟨rfl, D2.out.db, D2.out.but⟩
set_option maxHeartbeats 2000000
set_option maxRecDepth 100000
def MS.zall (m : MS) : Nat → MS
  | 0 => m
  | k + 1 => (m.zall k).zero true (k : Int)
theorem MS.zall_ns (m : MS) (k : Nat) : (m.zall k).ns = m.ns := by
  induction k with
  | zero => rfl
  | succ k ih => rw [MS.zall, MS.zero_ns, ih]
def DS.zed (m : MS) (n k : Nat) : DS := ⟨m.zall k, 0, List.replicate n En.zero⟩
def DS.fresh (m : MS) : DS := DS.zed m m.ns m.ns
theorem rep_at (n k : Nat) : (List.replicate n En.zero).getD k En.zero = En.zero := by
  rw [List.getD_eq_getElem?_getD, List.getElem?_replicate]
  split <;> rfl
theorem zed_ok (m : MS) (k : Nat) (h : m.ns ≤ 64) : (DS.zed m m.ns k).Ok := by
  refine ⟨by simp [DS.zed, MS.zall_ns], by simpa [DS.zed, MS.zall_ns] using h, fun j hj => ?_, fun j hj => ?_, by simp [DS.zed], by simp [DS.zed]⟩
  · rw [DS.at, DS.zed, rep_at]; exact zero_ok
  · have hj' : j < (m.zall k).ns := hj
    show ((List.replicate m.ns En.zero).getD j En.zero).o < ((m.zall k).ns : Int)
    rw [rep_at]; show (0 : Int) < _; omega
theorem wds_zero (n : Nat) : u32s (wdsOf 0 (List.replicate n En.zero)) = List.replicate (1 + 2 * n) (.int .u32 0) := by
  have hz : ew En.zero = [0, 0] := by decide
  have : ∀ n : Nat, (List.replicate n En.zero).flatMap ew = List.replicate (2 * n) 0 := fun n => by
    induction n with
    | zero => rfl
    | succ n ih => rw [List.replicate_succ, List.flatMap_cons, ih, hz, show 2 * (n + 1) = 2 * n + 1 + 1 by omega, List.replicate_succ, List.replicate_succ]; rfl
  rw [wdsOf, this, u32s, List.map_cons, List.map_replicate, show 1 + 2 * n = 2 * n + 1 by omega, List.replicate_succ]
theorem newDB_any (W : World) (f : Fp) (m : MS) (h : Mem W f m) (h64 : m.ns ≤ 64) :
    Calls Tryz.prog 14 #[ptr f.gm] W fun e W' => ∃ g gw, e = .returned (ptr g) ∧ DB W' ⟨g, gw, f⟩ (DS.fresh m) ∧ W.heap.size ≤ g ∧ W.heap.size ≤ gw ∧ ButL f.w W W' := by
  have HM := hid h
  have HS := hid (size_any W f m h)
  have HO := hid (zed_ok m 0 h64)
  have HWp := hid (fun w (p : Dp) (d : DS) (hw : DB w p d) (q : Int) => wipe_any w p d hw q)
  have HPg := hid (fun w (p : Dp) (d : DS) (hw : DB w p d) => pages_any w p d hw)
  have hn : (1 : Int) + 2 * (m.ns : Int) = ((1 + 2 * m.ns : Nat) : Int) := by omega
  have hz : 4 * (1 + 2 * m.ns) ≤ 281474976710656 := by omega
  have hz2 : 1 + 2 * m.ns ≤ 9223372036854775807 := by omega
  have H64 := hid h64
  have HN := hid hn
  clear h hn h64
  simp only [ptr] at HS HPg HWp ⊢
  go_enter Tryz.func14, Tryz.ntmps14
  go_upto_region 4 with (first | (go_at_call 48; refine HS.out.mono ?_; rintro e w1 ⟨rfl, hw1⟩; subst hw1) | (refine wpList_make_cel rfl _ _ 51 43 rfl (.int .u32 0) 4 under24 info32 rfl (1 + 2 * m.ns) _ _ rfl rfl HN.out HN.out hz hz2 ?_; intro w2 hc hb hs; have HC := hid hc; have HB := hid hb; clear hc hb hs))
  have HD : Hid (DB (w2.alloc (.cells #[.pointer (some ⟨f.gm, 0, none⟩), .slice (some ⟨W.heap.size, 0, none⟩) (1 + 2 * m.ns) (1 + 2 * m.ns)] 99)) ⟨w2.heap.size, W.heap.size, f⟩ (DS.zed m m.ns 0)) := hid ⟨(HM.out.on HB.out).on (below_one _ _), Cel.new w2 99 _, by
    show Cel _ _ _ (u32s (wdsOf 0 (List.replicate m.ns En.zero)))
    rw [wds_zero]
    exact HC.out.on (below_one _ _), HO.out⟩
  have HB2 := hid (below_on HB.out (below_one w2 (.cells #[.pointer (some ⟨f.gm, 0, none⟩), .slice (some ⟨W.heap.size, 0, none⟩) (1 + 2 * m.ns) (1 + 2 * m.ns)] 99)))
  have HG : Hid (W.heap.size ≤ w2.heap.size) := hid HB.out.size
  generalize w2.alloc _ = X at *
  generalize w2.heap.size = g at *
  generalize hgw : W.heap.size = gw at HD ⊢
  have HGW := hid hgw
  clear hgw HC HB HM HS HO hz hz2 HN
  go_upto_region 5 with (go_at_call 49; refine (HPg.out _ _ _ HD.out).mono ?_; rintro e w3 ⟨rfl, hw3⟩; subst hw3)
  rw [show (DS.zed m m.ns 0).m.ns = m.ns from rfl]
  have HB3 := hid (ButL.of (G := f.w) HB2.out)
  clear HB2
  go_loopw [15] (fun i wr => ∃ j : Nat, j ≤ m.ns ∧ i = .int .i64 (j : Int) ∧ Hid (DB wr ⟨g, gw, f⟩ (DS.zed m m.ns j) ∧ ButL f.w W wr)) (fun i _ => m.ns - (intOf i).toNat)
  case atStart => exact ⟨0, Nat.zero_le _, rfl, hid ⟨HD.out, HB3.out⟩⟩
  case round =>
    obtain ⟨j, hj, rfl, HQ⟩ := hrel
    clear HD HB3
    by_cases hlt : j < m.ns
    · have q1 : (j : Int) < (m.ns : Int) := by omega
      have q2 : (j : Int) ≤ 1000 := by have := H64.out; omega
      have HJ : Hid (j < m.ns) := hid hlt
      clear hlt hj
      go_wp2_with (go_at_call 50; refine (HWp.out _ _ _ HQ.out.1 (j : Int)).mono ?_; rintro e w5 ⟨rfl, hd, hb⟩; have HQ2 : Hid (DB w5 ⟨g, gw, f⟩ (DS.zed m m.ns (j + 1)) ∧ ButL f.w W w5) := hid ⟨hd, HQ.out.2.trans hb⟩; clear hb hd)
      go_roundw
      case measure => have := HJ.out; simp [intOf] <;> omega
      case rel => exact ⟨j + 1, HJ.out, by simp, HQ2⟩
    · have hjn : j = m.ns := by omega
      subst hjn
      clear hlt hj
      go_wp2_with fail
      go_ret
      exact ⟨g, gw, rfl, HQ.out.1, HG.out, by rw [HGW.out]; exact Nat.le_refl _, HQ.out.2⟩
theorem wpList_copy_all {ops : Array Oper} {rest : List Oper} {o : Oper} {a : Act} {w : World} {Q : Exit → Act → World → Prop} (hgd : o.guard = none) (d s : Operand) (ho : o.op = .call { callee := .builtin .copy, args := #[d, s], argTypes := #[51, 51] })
    (g n c c' gs off : Nat) (cur : List Value) (t : TypeId) (L : List Int) (hd : a.eval d = .slice (some ⟨g, 0, none⟩) n c) (hs : a.eval s = .slice (some ⟨gs, off, none⟩) n c') (hg : Cel w g t cur) (hcur : cur.length = n) (hL : L.length = n) (hsrc : w.rangeAt gs off (u32s L))
    (h : ∀ w', Cel w' g t (u32s L) → ButL [g] w w' → w'.heap.size = w.heap.size → wpList Tryz.prog ops Q rest (a.put o.dst (goInt n)) w') : wpList Tryz.prog ops Q (o :: rest) a w := by
  have hl : (u32s L).length = n := by rw [u32s_len, hL]
  refine wpList_copy_own hgd d s 51 51 ho 43 under24 size32 g 0 n c ⟨gs, off, none⟩ n c' hd hs cur.toArray t hg (u32s L) (by rw [hl]; show n = min n n; omega) (fun j v hv => by have := hsrc j v hv; unfold Addr.add; by_cases hj : j = 0 <;> simp_all) (by rw [hl]; simp [hcur]) (u32s_one L) ?_
  have e : List.take 0 cur.toArray.toList ++ (u32s L ++ List.drop (0 + (u32s L).length) cur.toArray.toList) = u32s L := by
    rw [List.drop_eq_nil_of_le (by rw [hl]; simp [hcur])]; simp
  rw [e, hl]
  exact h _ (hg.set _) (.setRow _ _ _ (by simp)) (by simp)
theorem words_dv (W : World) {g gm gw off n c : Nat} {L : List Int} (h : DV W g gm gw off n c L) (hn : n ≤ 1000) :
    Calls Tryz.prog 67 #[ptr g] W fun e W' => ∃ gn, e = .returned (.slice (some ⟨gn, 0, none⟩) n n) ∧ Cel W' gn 43 (u32s L) ∧ W.heap.size ≤ gn ∧ Below W.heap.size W W' := by
  have c1 := h.sl
  have HD := hid h
  have hz : 4 * n ≤ 281474976710656 := by omega
  have hz2 : n ≤ 9223372036854775807 := by omega
  have HL : Hid (g < W.heap.size ∧ gw < W.heap.size ∧ L.length = n) := hid ⟨h.cel.lt, h.lt, h.len⟩
  clear h hn
  simp only [ptr]
  go_enter Tryz.func67, Tryz.ntmps67
  go_upto_region 2 with (refine wpList_make_cel rfl _ _ 51 43 rfl (.int .u32 0) 4 under24 info32 rfl n _ _ rfl rfl rfl rfl hz hz2 ?_; intro w2 hc hb hs; have HC := hid hc; have HB := hid hb; clear hc hb hs)
  have HD2 := hid (HD.out.on HB.out)
  have c2 := HD2.out.sl
  clear HD
  go_wp2_with (refine wpList_copy_all rfl _ _ rfl W.heap.size n n c gw off (List.replicate n (.int .u32 0)) 43 L rfl rfl HC.out (by simp) HL.out.2.2 HD2.out.rng ?_; intro w3 hc hb hs; have HE := hid (And.intro hc (HB.out.trans (hb.below (B := W.heap.size) (by simp) HB.out.size))); clear hc hb hs)
  go_ret
  exact ⟨_, rfl, HE.out.1, Nat.le_refl _, HE.out.2⟩
theorem words_any (W : World) (p : Dp) (d : DS) (h : DB W p d) :
    Calls Tryz.prog 67 #[ptr p.g] W fun e W' => ∃ gn, e = .returned (.slice (some ⟨gn, 0, none⟩) (1 + 2 * d.m.ns) (1 + 2 * d.m.ns)) ∧ Cel W' gn 43 (u32s d.ws) ∧ W.heap.size ≤ gn ∧ Below W.heap.size W W' :=
  words_dv W h.dv (by have := h.ok.n64; omega)
structure NewDB (w w' : World) (p : Dp) (d : DS) : Prop where
  db : DB w' p d
  below : Below w.heap.size w w'
  new : ∀ k ∈ p.all, w.heap.size ≤ k
end Go.Proofs.YtdfnbcbnmiohnaaGreatDoor
