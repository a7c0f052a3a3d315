import Derived.Test.YtdfnbcbnmiohnaaGreatDoorP30
import Derived.Test.YtdfnbcbnmiohnaaGreatDoorP35
import Derived.Test.YtdfnbcbnmiohnaaGreatDoorP37
import Derived.Test.YtdfnbcbnmiohnaaGreatDoorP33
import Derived.Test.YtdfnbcbnmiohnaaGreatDoorP42
namespace Go.Proofs.YtdfnbcbnmiohnaaGreatDoor
open Go.RowKit
set_option maxRecDepth 100000
set_option maxHeartbeats 4000000
/-- A database of the law's own. -/
structure OD (W0 w : World) (p : Dp) (d : DS) : Prop where
  db : DB w p d
  bl : Below W0.heap.size W0 w
  own : ∀ k ∈ p.all, W0.heap.size ≤ k
theorem OD.on {W0 w w' : World} {p : Dp} {d : DS} (h : OD W0 w p d) (hb : Below w.heap.size w w') : OD W0 w' p d := ⟨h.db.on hb, below_on h.bl hb, h.own⟩
theorem OD.step {W0 w w' : World} {p : Dp} {d d' : DS} (h : OD W0 w p d) (hd : DB w' p d') (hb : ButL p.w w w') : OD W0 w' p d' := ⟨hd, h.bl.trans (hb.below (fun k hk => h.own k (p.w_all' k hk)) h.bl.size), h.own⟩
theorem OD.stepf {W0 w w' : World} {p : Dp} {d d' : DS} (h : OD W0 w p d) (hd : DB w' p d') (hb : ButL p.f.w w w') : OD W0 w' p d' := h.step hd (hb.mono p.fw_w)
theorem OD.gl {W0 w : World} {p : Dp} {d : DS} (h : OD W0 w p d) (hT : H.Tab W0) (hs : 1 < W0.heap.size) : Gl w p :=
  ⟨hT.below (h.bl.mono (show 2 ≤ W0.heap.size by omega)) (by decide), by have := h.bl.size; omega, fun k hk => by have := h.own k hk; omega⟩
theorem newO' (W0 w : World) (f : Fp) (m : MS) (h : NewMem W0 w f m) (h64 : m.ns ≤ 64) :
    Calls Tryz.prog 14 #[ptr f.gm] w fun e w' => ∃ g gw, e = .returned (ptr g) ∧ OD W0 w' ⟨g, gw, f⟩ (DS.fresh m) :=
  (newDB_any w f m h.mem h64).mono fun _ w' ⟨g, gw, he, hd, h1, h2, hb⟩ => ⟨g, gw, he, hd, h.below.trans (hb.below (fun k hk => h.new k (Fp.w_all hk)) h.below.size), fun k hk => by
    have h3 := h.below.size
    simp only [Dp.all, List.mem_cons] at hk
    rcases hk with rfl | rfl | hk
    · exact Nat.le_trans h3 h1
    · exact Nat.le_trans h3 h2
    · exact h.new k hk⟩
/-- BEHIND -/
theorem size77 : (Tryz.prog.info? 77).map (·.size) = some 2 := by kernel_rfl
theorem under77 : Tryz.prog.underlying 77 = some (.struct (Tryz.prog.fieldsOf 77)) := by kernel_rfl
theorem built77 (g r : Nat) : Tryz.prog.built 77 [(0, .pointer (some ⟨g, 0, none⟩)), (1, .pointer (some ⟨r, 0, none⟩))] = some #[.pointer (some ⟨g, 0, none⟩), .pointer (some ⟨r, 0, none⟩)] := by kernel_rfl
/-- What is there behind the two memories and the two databases. -/
structure F5 (W w : World) (g2 : Nat) (p : Dp) (d : DS) : Prop where
  o : OD W w p d
  c : Cel w g2 77 [.pointer none, .pointer none]
  off : g2 ∉ p.all
theorem F5.on {W w w' : World} {g2 : Nat} {p : Dp} {d : DS} (h : F5 W w g2 p d) (hb : Below w.heap.size w w') : F5 W w' g2 p d := ⟨h.o.on hb, h.c.on hb, h.off⟩
theorem f5_new (W X w1 w2 w : World) (f : Fp) (m : MS) (r : Rf) (g2 : Nat) (hX : Below W.heap.size W X) (hc : Cel X g2 77 [.pointer none, .pointer none]) (h1 : NewMem X w1 f m) (h2 : NewR w1 w2 r m) (hw : Below w2.heap.size w2 w) (h64 : m.ns ≤ 64) :
    Calls Tryz.prog 14 #[ptr f.gm] w fun e w' => ∃ g gw, e = .returned (ptr g) ∧ F5 W w' g2 ⟨g, gw, f⟩ (DS.fresh m) ∧ RMem w' r m ∧ (∀ k ∈ r.all, k ∉ (⟨g, gw, f⟩ : Dp).all) ∧ (∀ k ∈ r.all, g2 ≠ k) ∧ (∀ k ∈ r.all, W.heap.size ≤ k) := by
  have hm : Mem w f m := (h1.mem.on h2.below).on hw
  have hfl : ∀ k ∈ f.all, k < w1.heap.size := h1.mem.lt
  have hrl : ∀ k ∈ r.all, w1.heap.size ≤ k := h2.new
  have hrm : RMem w r m := h2.mem.on hw
  refine (newDB_any w f m hm h64).mono fun e w' ⟨g, gw, he, hd, g1, g2', hb⟩ => ?_
  have hr2 : ∀ k ∈ r.all, k < w.heap.size := hrm.lt
  have hgX : g2 < X.heap.size := hc.lt
  have hX1 := h1.below.size
  have hfX : ∀ k ∈ f.all, X.heap.size ≤ k := h1.new
  have hwW : Below W.heap.size W w := below_on (below_on (below_on hX h1.below) h2.below) hw
  refine ⟨g, gw, he, ⟨⟨hd, hwW.trans (hb.below (fun k hk => by have := hfX k (Fp.w_all hk); have := hX.size; omega) hwW.size), fun k hk => ?_⟩, ?_, fun hk => ?_⟩, ?_, fun k hk hm => ?_, fun k hk e => ?_, fun k hk => ?_⟩
  · have h3 := hX.size
    have h4 := hwW.size
    simp only [Dp.all, List.mem_cons] at hk
    rcases hk with rfl | rfl | hk
    · omega
    · omega
    · have := hfX k hk; omega
  · exact (((hc.on h1.below).on h2.below).on hw).but hb (fun hk => by have := hfX g2 (Fp.w_all hk); omega)
  · have h4 := h2.below.size
    have h5 := hw.size
    simp only [Dp.all, List.mem_cons] at hk
    rcases hk with hk | hk | hk
    · omega
    · omega
    · have := hfX g2 hk; omega
  · exact hrm.frame hb (fun k hk hm => by have := hfl k (Fp.w_all hm); have := hrl k hk; omega)
  · have h6 := hr2 k hk
    simp only [Dp.all, List.mem_cons] at hm
    rcases hm with hm | hm | hm
    · omega
    · omega
    · have := hfl k hm; have := hrl k hk; omega
  · have := hrl k hk; omega
  · have := hrl k hk; have := hX.size; omega
theorem fresh3_any (W : World) : Calls Tryz.prog 35 #[.int .i64 3] W fun e W' => ∃ (p : Dp) (r : Nat), e = .returned (.tuple #[.agg #[ptr p.g, ptr r], .bool true]) ∧ OD W W' p (DS.fresh (MS.new 3 1)) := by
  have C0 := hid (Cel.new W 77 [.pointer none, .pointer none])
  have B0 := hid (below_one W (.cells #[.pointer none, .pointer none] 77))
  have HN := hid (fun w => new_any w 3 1 (by decide) (by decide) (by decide) (by decide))
  have HR := hid (fun w => rnew_any w 3 1 (by decide) (by decide) (by decide) (by decide))
  have HD := hid (fun X w1 w2 w f r g2 hX hc h1 h2 hw => f5_new W X w1 w2 w f (MS.new 3 1) r g2 hX hc h1 h2 hw (by decide))
  have HQ := hid (fun w r (h : RMem w r (MS.new 3 1)) => rnewDB_any w r (MS.new 3 1) h (by decide) (by decide))
  generalize DS.fresh (MS.new 3 1) = D0 at *
  generalize MS.new 3 1 = M at *
  simp only [ptr] at *
  go_enter Tryz.func35, Tryz.ntmps35
  go_upto_region 1 with fail
  generalize World.alloc _ _ = X at *
  have HG : Hid (W.heap.size ≤ W.heap.size) := hid (Nat.le_refl _)
  generalize hg : W.heap.size = g2 at C0 ⊢
  have HG : Hid (W.heap.size ≤ g2) := hid (Nat.le_of_eq hg)
  clear hg
  go_upto_region 6 with (first | (go_at_call 13; refine (HN.out _).mono ?_; rintro e w1 ⟨f, rfl, hn⟩; have N1 := hid hn; clear hn HN) | (go_at_call 74; refine (HR.out _).mono ?_; rintro e w2 ⟨r, rfl, hn⟩; have N2 := hid hn; clear hn HR) | (go_at_call 14; refine (HD.out _ _ _ _ _ _ _ B0.out C0.out N1.out N2.out (Below.refl _ _)).mono ?_; rintro e w3 ⟨g, gw, rfl, h5, hrm, ha, hb, hc⟩; have F3 := hid h5; have R3 := hid (And.intro hrm (And.intro ha (And.intro hb hc))); clear h5 hrm ha hb hc HD N1 N2 C0 B0) | (go_at_call 75; refine (HQ.out _ _ R3.out.1).mono ?_; rintro e w4 ⟨rp, rfl, hn⟩; have F4 : Hid (F5 W w4 g2 ⟨g, gw, f⟩ D0) := hid ⟨⟨F3.out.o.db.frame hn.but (fun k hk hm => R3.out.2.1 k hm hk), F3.out.o.bl.trans (hn.but.below (fun k hk => R3.out.2.2.2 k hk) F3.out.o.bl.size), F3.out.o.own⟩, F3.out.c.but hn.but (fun hm => R3.out.2.2.1 _ hm rfl), F3.out.off⟩; clear hn HQ R3 F3) | (refine wpList_build_f rfl 77 _ rfl _ rfl _ (built77 g rp.g) ?_) | (refine wpList_store_st rfl 77 _ _ rfl w4.heap.size [.pointer (some ⟨g, 0, none⟩), .pointer (some ⟨rp.g, 0, none⟩)] rfl rfl (Cel.new w4 77 [.pointer none, .pointer none]) size77 rfl rfl ?_; intro w5 hc hb hs; have F6 : Hid (F5 W w5 g2 ⟨g, gw, f⟩ D0 ∧ Cel w5 w4.heap.size 77 [.pointer (some ⟨g, 0, none⟩), .pointer (some ⟨rp.g, 0, none⟩)] ∧ g2 < w4.heap.size) := hid ⟨F4.out.on ((below_one w4 _).trans (hb.below (by simp) (by simp))), hc, F4.out.c.lt⟩; clear hc hb hs F4))
  generalize w4.heap.size = g8 at *
  have E1 := hid (And.intro (F6.out.1.on (Below.refl _ _).drew) (And.intro (F6.out.2.1.on (Below.refl _ _).drew) F6.out.2.2))
  clear F6
  refine wp_region_held_drew (S := fun w => Cel w g8 77 [.pointer (some ⟨g, 0, none⟩), .pointer (some ⟨rp.g, 0, none⟩)]) (by kernel_rfl) E1.out.2.1 (fun hHeld => ?_)
  generalize World.drew _ = w6 at *
  refine wpAnyH_take (i := 0) (oi := { dst := some 27, op := Op.load 77 (Operand.tmp 8), type := 77, pos := "law.go:62", after := #[], guard := none }) (v := .agg #[.pointer (some ⟨g, 0, none⟩), .pointer (some ⟨rp.g, 0, none⟩)]) rfl (by kernel_rfl) (by kernel_rfl) (by kernel_rfl) (fun _ _ _ h => h) (yieldsIf_load_mid (by rfl) _ _ rfl _ _ rfl _ _ (fun w hSw => hSw.range) under77 rfl (by rw [size77]; rfl)) (by assumption) ?_
  simp only [Act.put, List.setIfInBounds_toArray, List.set_cons_zero, List.set_cons_succ]
  refine wpAnyH_take (i := 1) (oi := { dst := some 28, op := Op.fieldAddr 77 (Operand.tmp 8) 0, type := 0, pos := "law.go:62", after := #[{ on := 4, ground := Ground.gcOnly Departure.lateStores }], guard := none }) (v := .pointer (some ⟨g8, 0, none⟩)) rfl (by kernel_rfl) (by kernel_rfl) (by kernel_rfl) (fun _ _ _ h => h) (Or.inl ⟨by rfl, by intro w hSw; go_simp⟩) (by assumption) ?_
  simp only [Act.put, List.setIfInBounds_toArray, List.set_cons_zero, List.set_cons_succ]
  refine wpAnyH_take (i := 2) (oi := { dst := some 29, op := Op.load 23 (Operand.tmp 28), type := 23, pos := "law.go:62", after := #[{ on := 1, ground := Ground.data }, { on := 4, ground := Ground.gcOnly Departure.lateStores }], guard := none }) (v := .pointer (some ⟨g, 0, none⟩)) rfl (by kernel_rfl) (by kernel_rfl) (by kernel_rfl) (fun _ _ _ h => h) (Or.inl ⟨by rfl, by intro w hSw; have hc : w.cell? ⟨g8, 0, none⟩ = some (.pointer (some ⟨g, 0, none⟩)) := hSw.cell 0; go_simp⟩) (by assumption) ?_
  simp only [Act.put, List.setIfInBounds_toArray, List.set_cons_zero, List.set_cons_succ]
  refine wpAnyH_take (i := 3) (oi := { dst := some 30, op := Op.binOp BinOp.neq 23 (Operand.tmp 29) (Operand.const (Value.pointer none)) 23, type := 4, pos := "law.go:62", after := #[{ on := 2, ground := Ground.data }, { on := 4, ground := Ground.gcOnly Departure.lateStores }], guard := none }) (v := .bool true) rfl (by kernel_rfl) (by kernel_rfl) (by kernel_rfl) (fun _ _ _ h => h) (Or.inl ⟨by rfl, by intro w hSw; go_simp⟩) (by assumption) ?_
  simp only [Act.put, List.setIfInBounds_toArray, List.set_cons_zero, List.set_cons_succ]
  refine wpAnyH_ready (rs := [4]) (by kernel_rfl) (by simp) (AllReadyH.cons (o := { dst := none, op := Op.store 77 (Operand.tmp 2) (Operand.tmp 27), type := 0, pos := "law.go:62", after := #[{ on := 0, ground := Ground.data }, { on := 0, ground := Ground.phase }, { on := 1, ground := Ground.textOnly Departure.lateStores }, { on := 2, ground := Ground.textOnly Departure.lateStores }, { on := 3, ground := Ground.textOnly Departure.lateStores }], guard := none }) rfl (fun KQ hK => ?_) AllReadyH.nil)
  rw [if_pos (by rfl)]
  refine wp_store_st 77 _ _ rfl g2 [.pointer (some ⟨g, 0, none⟩), .pointer (some ⟨rp.g, 0, none⟩)] rfl rfl E1.out.1.c size77 rfl rfl ?_
  intro w7 hc hb hs
  have E2 : Hid (Cel w7 g2 77 [.pointer (some ⟨g, 0, none⟩), .pointer (some ⟨rp.g, 0, none⟩)] ∧ OD W w7 ⟨g, gw, f⟩ D0) := hid ⟨hc, E1.out.1.o.db.frame hb (fun k hk hm => E1.out.1.off (by simp only [List.mem_singleton] at hm; rw [← hm]; exact hk)), E1.out.1.o.bl.trans (hb.below (by simp only [List.mem_singleton, forall_eq]; exact HG.out) E1.out.1.o.bl.size), E1.out.1.o.own⟩
  have E3 := hid (E1.out.2.1.but hb (by simp only [List.mem_singleton]; have := E1.out.2.2; omega))
  clear hc hb hs E1
  refine hK.out _ _ E3.out (fun hHeld => ?_)
  clear hK KQ
  try simp only [Act.put]
  refine wpAnyH_ready (rs := [5]) (by kernel_rfl) (by simp) (AllReadyH.cons (o := { dst := some 3, op := Op.assign (Operand.tmp 30), type := 4, pos := "law.go:62", after := #[{ on := 3, ground := Ground.data }, { on := 4, ground := Ground.chain }, { on := 0, ground := Ground.phase }, { on := 1, ground := Ground.phase }, { on := 2, ground := Ground.phase }, { on := 3, ground := Ground.phase }, { on := 4, ground := Ground.phase }], guard := none }) rfl (fun KQ hK => ?_) AllReadyH.nil)
  go_simp
  refine hK.out _ _ E3.out (fun hHeld => ?_)
  clear hK KQ
  try simp only [Act.put, List.setIfInBounds_toArray, List.set_cons_zero, List.set_cons_succ]
  refine wpAnyH_done (by kernel_rfl) ?_ _
  go_wp2_with fail
  refine ret_st2 rfl rfl g2 _ rfl E2.out.1 under77 rfl size77 ⟨⟨g, gw, f⟩, rp.g, rfl, E2.out.2⟩
end Go.Proofs.YtdfnbcbnmiohnaaGreatDoor
