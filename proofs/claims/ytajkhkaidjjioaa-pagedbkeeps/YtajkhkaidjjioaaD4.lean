/- wipe 63, turns 56, isSpace 59, ownsMore 57, count 58, typed 88. -/
import Derived.Test.YtajkhkaidjjioaaD3
namespace Go.Proofs.Ytajkhkaidjjioaa
open Go.RowKit
set_option maxHeartbeats 8000000
set_option maxRecDepth 100000
theorem MS.zero_ns (m : MS) (s : Bool) (p : Int) : (m.zero s p).ns = m.ns := by
  unfold MS.zero
  split <;> rfl
theorem MS.write_ns (m : MS) (s : Bool) (p off v : Int) : (m.write s p off v).ns = m.ns := by
  unfold MS.write
  split
  · rfl
  · split <;> rfl
def DS.wipe (d : DS) (q : Int) : DS := { d with m := d.m.zero true q }
theorem wipe_any (W : World) (p : Dp) (d : DS) (h : DB W p d) (q : Int) :
    Calls Try.prog 63 #[ptr p.g, .int .i64 q] W fun e W' => e = .returned (.tuple #[]) ∧ DB W' p (d.wipe q) ∧ ButL p.f.w W W' := by
  have HX := hid (h.on (Below.refl _ W).drew)
  have HB : Hid (Below W.heap.size W W.drew) := hid (Below.refl _ _).drew
  clear h
  simp only [ptr]
  go_enter Try.func63, Try.ntmps63
  refine wp_region_held_drew (S := fun w => w.cell? ⟨p.g, 0, none⟩ = some (.pointer (some ⟨p.f.gm, 0, none⟩))) (by kernel_rfl) HX.out.dv.mp (fun hHeld => ?_)
  refine wpAnyH_take (i := 0) (oi := { dst := some 4, op := Op.move (Operand.tmp 0), type := 23, pos := "pagedb.go:55", after := #[], guard := none }) (v := .pointer (some ⟨p.g, 0, none⟩)) rfl (by kernel_rfl) (by kernel_rfl) (by kernel_rfl) (fun _ _ _ h => h) (Or.inl ⟨by rfl, by intro w hSw; go_simp⟩) (by assumption) ?_
  simp only [Act.put, List.setIfInBounds_toArray, List.set_cons_zero, List.set_cons_succ]
  refine wpAnyH_take (i := 1) (oi := { dst := some 5, op := Op.nilCheck (Operand.tmp 4), type := 0, pos := "pagedb.go:55", after := #[{ on := 0, ground := Ground.data }], guard := none }) (v := .pointer (some ⟨p.g, 0, none⟩)) rfl (by kernel_rfl) (by kernel_rfl) (by kernel_rfl) (fun _ _ _ h => h) (Or.inl ⟨by rfl, by intro w hSw; go_simp⟩) (by assumption) ?_
  simp only [Act.put, List.setIfInBounds_toArray, List.set_cons_zero, List.set_cons_succ]
  refine wpAnyH_take (i := 2) (oi := { dst := some 6, op := Op.fieldAddr 92 (Operand.tmp 5) 0, type := 0, pos := "pagedb.go:55", after := #[{ on := 1, ground := Ground.data }], guard := none }) (v := .pointer (some ⟨p.g, 0, none⟩)) rfl (by kernel_rfl) (by kernel_rfl) (by kernel_rfl) (fun _ _ _ h => h) (Or.inl ⟨by rfl, by intro w hSw; go_simp⟩) (by assumption) ?_
  simp only [Act.put, List.setIfInBounds_toArray, List.set_cons_zero, List.set_cons_succ]
  refine wpAnyH_take (i := 3) (oi := { dst := some 7, op := Op.load 24 (Operand.tmp 6), type := 24, pos := "pagedb.go:55", after := #[{ on := 2, ground := Ground.data }], guard := none }) (v := .pointer (some ⟨p.f.gm, 0, none⟩)) rfl (by kernel_rfl) (by kernel_rfl) (by kernel_rfl) (fun _ _ _ h => h) (Or.inl ⟨by rfl, by intro w hSw; have hc := hSw; go_simp⟩) (by assumption) ?_
  simp only [Act.put, List.setIfInBounds_toArray, List.set_cons_zero, List.set_cons_succ]
  refine wpAnyH_take (i := 4) (oi := { dst := some 8, op := Op.move (Operand.tmp 1), type := 3, pos := "pagedb.go:55", after := #[], guard := none }) (v := .int .i64 q) rfl (by kernel_rfl) (by kernel_rfl) (by kernel_rfl) (fun _ _ _ h => h) (Or.inl ⟨by rfl, by intro w hSw; go_simp⟩) (by assumption) ?_
  simp only [Act.put, List.setIfInBounds_toArray, List.set_cons_zero, List.set_cons_succ]
  refine wpAnyH_ready (rs := [5]) (by kernel_rfl) (by simp) (AllReadyH.cons (o := { dst := some 9, op := Op.call { callee := Callee.value (Operand.func 54), args := #[Operand.tmp 8], argTypes := #[3] }, type := 54, pos := "pagedb.go:55", after := #[{ on := 4, ground := Ground.data }], guard := none }) rfl (fun KQ hK => ?_) AllReadyH.nil)
  go_simp
  refine (frame_any _ q).mono ?_
  rintro e w1 ⟨rfl, hb⟩
  have HX1 := hid (HX.out.on hb)
  have HB1 := hid (below_on HB.out hb)
  clear hb
  go_wp2_with fail
  refine hK.out _ _ HX1.out.dv.mp (fun hHeld => ?_)
  clear hK KQ
  try simp only [Act.put, List.setIfInBounds_toArray, List.set_cons_zero, List.set_cons_succ]
  refine wpAnyH_ready (rs := [6]) (by kernel_rfl) (by simp) (AllReadyH.cons (o := { dst := some 10, op := Op.call { callee := Callee.value (Operand.func 96), args := #[Operand.tmp 7, Operand.tmp 9], argTypes := #[24, 54] }, type := 30, pos := "pagedb.go:55", after := #[{ on := 3, ground := Ground.data }, { on := 5, ground := Ground.data }, { on := 5, ground := Ground.chain }], guard := none }) rfl (fun KQ hK => ?_) AllReadyH.nil)
  go_simp
  refine (zero_any _ p.f d.m HX1.out.mem true q).mono ?_
  rintro e w2 ⟨rfl, hm, hb⟩
  have HZ := hid (HX1.out.memory hm hb (MS.zero_ns _ _ _))
  have HZB := hid ((ButL.of (G := p.f.w) HB1.out).trans hb)
  clear hb hm
  go_wp2_with fail
  refine hK.out _ _ HZ.out.dv.mp (fun hHeld => ?_)
  clear hK KQ
  try simp only [Act.put, List.setIfInBounds_toArray, List.set_cons_zero, List.set_cons_succ]
  refine wpAnyH_done (by kernel_rfl) ?_ _
  go_wp2_with fail
  go_returns
  exact ⟨rfl, HZ.out, HZB.out⟩
def trn (t : Int) : Bool := t == 4 || (t == 5 || t == 6)
theorem turns_any (W : World) (t : Int) : Calls Try.prog 56 #[.int .i64 t] W fun e W' => e = .returned (.bool (trn t)) ∧ W = W' := by
  unfold trn
  by_cases h4 : t = 4
  · subst h4
    go_enter Try.func56, Try.ntmps56
    go_wp2_with fail
    go_ret
    exact ⟨rfl, rfl⟩
  · by_cases h5 : t = 5
    · subst h5
      go_enter Try.func56, Try.ntmps56
      go_wp2_with fail
      go_ret
      exact ⟨rfl, rfl⟩
    · have q4 : (t == 4) = false := by simpa using h4
      have q5 : (t == 5) = false := by simpa using h5
      rw [q4, q5]
      clear h4 h5
      go_enter Try.func56, Try.ntmps56
      go_wp2_with fail
      go_ret
      exact ⟨rfl, rfl⟩
theorem isSpace_any (W : World) (p : Dp) (d : DS) (h : DB W p d) (q : Int) :
    Calls Try.prog 59 #[ptr p.g, .int .i64 q] W fun e W' => e = .returned (.bool ((d.ent q).t == 1)) ∧ Below W.heap.size W W' := by
  have HE := hid (fun w (hw : DB w p d) => entry_any w p d hw q)
  have HX := hid h
  clear h
  generalize d.ent q = D at *
  generalize d.entE q = DE at *
  simp only [ptr, En.v] at HE ⊢
  go_enter Try.func59, Try.ntmps59
  go_upto_region 2 with (first | (go_at_call 55; refine (HE.out _ HX.out).mono ?_; rintro e w1 ⟨rfl, hb⟩; have HB := hid hb; clear hb) | (refine wpList_store_st rfl 62 _ _ rfl w1.heap.size D.cs rfl rfl (Cel.new w1 62 En.zero.cs) sizeE rfl rfl ?_; intro w2 hc hb hs; have HC := hid hc; have HB2 := hid (new_below HB.out hb); clear hc hb hs))
  have c0 := HC.out.cell 0
  simp only [En.cs, List.getElem?_cons_zero] at c0
  go_wp2_with fail
  go_ret
  exact ⟨rfl, HB2.out⟩
def DS.more (d : DS) (q : Int) : Bool := (d.ent q).t == 1 && decide ((d.ent q).r < 63)
theorem ownsMore_any (W : World) (p : Dp) (d : DS) (h : DB W p d) (q : Int) :
    Calls Try.prog 57 #[ptr p.g, .int .i64 q] W fun e W' => e = .returned (.bool (d.more q)) ∧ Below W.heap.size W W' := by
  have HE := hid (isSpace_any W p d h q)
  have HX := hid h
  unfold DS.more
  cases ht : ((d.ent q).t == 1)
  · rw [ht] at HE
    clear h ht
    simp only [Bool.false_and]
    simp only [ptr] at HE ⊢
    go_enter Try.func57, Try.ntmps57
    go_wp2_with (go_at_call 59; refine HE.out.mono ?_; rintro e w1 ⟨rfl, hb⟩; have HB := hid hb; clear hb)
    go_ret
    exact ⟨rfl, HB.out⟩
  · rw [ht] at HE
    have hq : d.there q = true := by
      cases hh : d.there q
      · rw [DS.ent, hh, if_neg (by decide)] at ht; exact absurd ht (by decide)
      · rfl
    have e1 : d.ent q = d.at q.toNat := by rw [DS.ent, if_pos hq]
    obtain ⟨q0, q1⟩ := of_decide_eq_true hq
    have HA := hid (fun w (hw : DB w p d) => dat_any w p d hw q.toNat (by omega))
    rw [Int.toNat_of_nonneg q0, ← e1] at HA
    clear e1 hq h ht q0 q1
    generalize d.ent q = D at *
    obtain ⟨t, o, r, s, e⟩ := D
    simp only [ptr, En.v, En.cs, Bool.true_and] at HE HA ⊢
    have hfd : ∀ w : World, (Instr.field 62 (.agg #[.int .i64 t, .int .i64 o, .int .i64 r, .int .i64 s, .bool e]) 2).run Try.prog w = .ok (.int .i64 r) w := fun _ => by kernel_rfl
    go_enter Try.func57, Try.ntmps57
    go_wp2_with (first | (go_at_call 59; refine HE.out.mono ?_; rintro e w1 ⟨rfl, hb⟩; have HB := hid hb; clear hb) | (go_at_call 87; refine (HA.out _ (HX.out.on HB.out)).mono ?_; rintro e w2 ⟨rfl, hb⟩; have HB2 := hid (below_on HB.out hb); clear hb))
    go_ret
    exact ⟨rfl, HB2.out⟩
theorem Bag.cell {W w : World} {L : List (Nat × TypeId × List Value)} (h : Bag W w L) (k j : Nat) {g : Nat} {t : TypeId} {cs : List Value} (hk : L[k]? = some (g, t, cs)) : w.cell? ⟨g, j, none⟩ = cs[j]? := (h.get k hk).cell j
/-- A database, and a bag of the call's own beside it. -/
structure DG (W w : World) (p : Dp) (d : DS) (G : List Nat) (L : List (Nat × TypeId × List Value)) : Prop where
  db : DB w p d
  but : ButL G W w
  bag : ∀ q ∈ L, Cel w q.1 q.2.1 q.2.2
  off : ∀ q ∈ L, W.heap.size ≤ q.1
  old : ∀ k ∈ p.all, k < W.heap.size
  G : ∀ k ∈ G, k < W.heap.size
theorem DG.start {W : World} {p : Dp} {d : DS} (h : DB W p d) (G : List Nat) (hG : ∀ k ∈ G, k < W.heap.size) : DG W W p d G [] := ⟨h, .refl _ _, by simp, by simp, h.lt, hG⟩
theorem DG.on {W w w' : World} {p : Dp} {d : DS} {G : List Nat} {L : List (Nat × TypeId × List Value)} (h : DG W w p d G L) (hb : Below w.heap.size w w') : DG W w' p d G L :=
  ⟨h.db.on hb, h.but.on hb, fun q hq => (h.bag q hq).on hb, h.off, h.old, h.G⟩
theorem DG.get {W w : World} {p : Dp} {d : DS} {G : List Nat} {L : List (Nat × TypeId × List Value)} (h : DG W w p d G L) (k : Nat) {g : Nat} {t : TypeId} {cs : List Value} (hk : L[k]? = some (g, t, cs)) : Cel w g t cs := h.bag _ (List.mem_of_getElem? hk)
theorem DG.add {W w w2 : World} {p : Dp} {d : DS} {G : List Nat} {L : List (Nat × TypeId × List Value)} {u : TypeId} {ds es : List Value} (h : DG W w p d G L) (hc : Cel w2 w.heap.size u es) (hb : ButL [w.heap.size] (w.alloc (.cells ds.toArray u)) w2) : DG W w2 p d G ((w.heap.size, u, es) :: L) := by
  have h1 := h.on (below_one w (.cells ds.toArray u))
  have hs := h.but.size
  refine ⟨h1.db.frame hb (fun k hk hm => ?_), h1.but.trans' hb hs, fun q hq => ?_, fun q hq => ?_, h.old, h.G⟩
  · rw [List.mem_singleton] at hm; have := h.old k hk; omega
  · rcases List.mem_cons.1 hq with rfl | hq
    · exact hc
    · exact new_store (h.bag q hq) hb
  · rcases List.mem_cons.1 hq with rfl | hq
    · exact hs
    · exact h.off q hq
/-- A box of the bag is written anew. -/
theorem DG.put {W w w2 : World} {p : Dp} {d : DS} {G : List Nat} {g : Nat} {t : TypeId} {cs es : List Value} {L : List (Nat × TypeId × List Value)} (h : DG W w p d G ((g, t, cs) :: L)) (hne : ∀ q ∈ L, q.1 ≠ g) (hc : Cel w2 g t es) (hb : ButL [g] w w2) : DG W w2 p d G ((g, t, es) :: L) := by
  have hg := h.off (g, t, cs) (by simp)
  refine ⟨h.db.frame hb (fun k hk hm => ?_), h.but.trans' hb hg, fun q hq => ?_, fun q hq => ?_, h.old, h.G⟩
  · rw [List.mem_singleton] at hm; have := h.old k hk; simp only at hg; omega
  · rcases List.mem_cons.1 hq with rfl | hq
    · exact hc
    · exact (h.bag q (by simp [hq])).but hb (by rw [List.mem_singleton]; exact hne q hq)
  · rcases List.mem_cons.1 hq with rfl | hq
    · exact hg
    · exact h.off q (by simp [hq])
/-- The database has changed, by a call of its own. -/
theorem DG.step {W w w2 : World} {p : Dp} {d d' : DS} {G H : List Nat} {L : List (Nat × TypeId × List Value)} (h : DG W w p d G L) (hd : DB w2 p d') (hb : ButL H w w2) (hH : ∀ k ∈ H, k ∈ G) : DG W w2 p d' G L :=
  ⟨hd, h.but.trans (hb.mono hH), fun q hq => (h.bag q hq).but hb (fun hm => by have := h.off q hq; have := h.G _ (hH _ hm); omega), h.off, h.old, h.G⟩
theorem DG.tail {W w : World} {p : Dp} {d : DS} {G : List Nat} {x : Nat × TypeId × List Value} {L : List (Nat × TypeId × List Value)} (h : DG W w p d G (x :: L)) : DG W w p d G L :=
  ⟨h.db, h.but, fun q hq => h.bag q (by simp [hq]), fun q hq => h.off q (by simp [hq]), h.old, h.G⟩
theorem Dp.w_all {p : Dp} {k : Nat} (h : k ∈ p.w) : k ∈ p.all := by
  simp only [Dp.w, Dp.all, List.mem_cons] at h ⊢
  rcases h with h | h
  · simp [h]
  · exact .inr (.inr (Fp.w_all h))
theorem DB.wlt {w : World} {p : Dp} {d : DS} (h : DB w p d) : ∀ k ∈ p.w, k < w.heap.size := fun k hk => h.lt k (Dp.w_all hk)
def DS.cnt (d : DS) (k : Nat) (n : Int) : DS := d.lay k { d.at k with r := (d.at k).r + n }
theorem count_any (W : World) (p : Dp) (d : DS) (h : DB W p d) (k : Nat) (hk : k < d.m.ns) (n : Int) (hx : En.ok { d.at k with r := (d.at k).r + n } = true) :
    Calls Try.prog 58 #[ptr p.g, .int .i64 (k : Int), .int .i64 n] W fun e W' => e = .returned (.tuple #[]) ∧ DB W' p (d.cnt k n) ∧ ButL [p.gw] W W' := by
  have D0 := hid (DG.start h [p.gw] (by simpa using h.wds.lt))
  have HA := hid (fun w (hw : DB w p d) => dat_any w p d hw k hk)
  have ho := h.ok.own k hk
  have HL := hid (fun w (hw : DB w p d) => lay_any w p d hw k hk { d.at k with r := (d.at k).r + n } hx ho)
  have h2 := ((d.at k).ok_iff.1 (h.ok.ok k hk))
  have h3 := (En.ok_iff _).1 hx
  have h4 : wrap64 ((d.at k).r + n) = (d.at k).r + n := by have := h3.r0; have := h3.r1; simp only at *; unfold wrap64; omega
  unfold DS.cnt
  clear h hx ho h2 h3 hk
  generalize hD : d.at k = D at *
  obtain ⟨t, o, r, s, e⟩ := D
  clear hD
  simp only [ptr, En.v, En.cs] at HA HL h4 ⊢
  rw [← h4] at HL ⊢
  clear h4
  generalize hrn : wrap64 (r + n) = rn at *
  go_enter Try.func58, Try.ntmps58
  go_upto_region 1 with (first | (go_at_call 87; refine (HA.out _ D0.out.db).mono ?_; rintro e w1 ⟨rfl, hb⟩; have D1 := hid (D0.out.on hb); clear hb) | (refine wpList_store_st rfl 62 _ _ rfl w1.heap.size [.int .i64 t, .int .i64 o, .int .i64 r, .int .i64 s, .bool e] rfl rfl (Cel.new w1 62 En.zero.cs) sizeE rfl rfl ?_; intro w2 hc hb hs; have D2 := hid (D1.out.add hc hb); clear hc hb hs))
  clear D0 D1
  generalize w1.heap.size = g6 at *
  have c2 := (D2.out.get 0 rfl).cell 2
  have f2 := (D2.out.get 0 rfl).free 2
  have D3 := hid (D2.out.put (by simp) ((D2.out.get 0 rfl).setCell 2 (.int .i64 rn)) (.setCell _ _ _ _ (by simp)))
  simp only [List.getElem?_cons_zero, List.getElem?_cons_succ, List.set_cons_zero, List.set_cons_succ] at c2 D3
  go_upto_region 2 with fail
  rw [hrn]
  generalize w2.setCell _ _ = w3 at *
  go_wp2_with (first | (refine wpList_load_mid rfl 62 _ rfl g6 0 rfl _ _ ((D3.out.get 0 rfl).range) underE rfl (by rw [sizeE]; rfl) ?_) | (go_at_call 53; refine (HL.out _ D3.out.db).mono ?_; rintro e w4 ⟨rfl, hd, hb⟩; have D4 := hid (D3.out.step hd hb (by simp)); clear hb hd))
  go_returns
  exact ⟨rfl, D4.out.db, D4.out.but⟩
def DS.typ (d : DS) (q t : Int) : En := if d.there q = true ∧ (d.ent q).t = t then d.ent q else En.zero
def DS.typE (d : DS) (q t : Int) : Int := if d.there q = true then (if (d.ent q).t = t then 0 else 124) else 5
theorem typed_any (W : World) (p : Dp) (d : DS) (h : DB W p d) (q t : Int) :
    Calls Try.prog 88 #[ptr p.g, .int .i64 q, .int .i64 t] W fun e W' => e = .returned (.tuple #[(d.typ q t).v, .int .i64 (d.typE q t)]) ∧ Below W.heap.size W W' := by
  have B0 := hid (bag_one W 62 En.zero.cs)
  have HX := hid (h.on (below_one W (.cells En.zero.cs.toArray 62)))
  have HE := hid (fun w (hw : DB w p d) => entry_any w p d hw q)
  clear h
  unfold DS.typ DS.typE
  cases hq : d.there q
  · have e1 : d.ent q = En.zero := by simp [DS.ent, hq]
    have e2 : d.entE q = 5 := by simp [DS.entE, hq]
    rw [e1, e2] at HE
    simp only [Bool.false_eq_true, false_and, if_false]
    clear e1 e2 hq
    simp only [ptr, En.v, En.zero, En.cs] at HX B0 HE ⊢
    go_enter Try.func88, Try.ntmps88
    go_upto_region 1 with fail
    generalize W.alloc _ = X at *
    generalize hg : W.heap.size = g4 at B0 ⊢
    have HG := hid hg
    clear hg
    go_upto_region 2 with (first | (go_at_call 55; refine (HE.out _ HX.out).mono ?_; rintro e w1 ⟨rfl, hb⟩; have B1 := hid (B0.out.on hb); clear hb) | (refine wpList_store_st rfl 62 _ _ rfl w1.heap.size En.zero.cs rfl rfl (Cel.new w1 62 En.zero.cs) sizeE rfl rfl ?_; intro w2 hc hb hs; have B2 := hid (B1.out.add hc hb); clear hc hb hs))
    generalize w1.heap.size = g8 at *
    go_wp2_with (first | (refine wpList_load_mid rfl 62 _ rfl g8 0 rfl _ _ ((B2.out.get 0 rfl).range) underE rfl (by rw [sizeE]; rfl) ?_) | (refine wpList_store_st rfl 62 _ _ rfl g4 En.zero.cs rfl rfl (B2.out.get 1 rfl) sizeE rfl rfl ?_; intro w4 hc hb hs; have HF := hid (And.intro hc (B2.out.below.trans (hb.below (by have := HG.out; simp; omega) B2.out.below.size))); clear hc hb hs))
    exact ret_st2 rfl rfl g4 _ rfl HF.out.1 underE rfl sizeE ⟨rfl, HF.out.2⟩
  · have e2 : d.entE q = 0 := by simp [DS.entE, hq]
    rw [e2] at HE
    simp only [true_and, if_true]
    clear e2 hq
    generalize d.ent q = D at *
    by_cases ht : D.t = t
    · rw [if_pos ht, if_pos ht]
      obtain ⟨t', o, r, s, e⟩ := D
      simp only at ht
      subst ht
      simp only [ptr, En.v, En.zero, En.cs] at HX B0 HE ⊢
      go_enter Try.func88, Try.ntmps88
      go_upto_region 1 with fail
      generalize W.alloc _ = X at *
      generalize hg : W.heap.size = g4 at B0 ⊢
      have HG := hid hg
      clear hg
      go_upto_region 2 with (first | (go_at_call 55; refine (HE.out _ HX.out).mono ?_; rintro e w1 ⟨rfl, hb⟩; have B1 := hid (B0.out.on hb); clear hb) | (refine wpList_store_st rfl 62 _ _ rfl w1.heap.size [.int .i64 t', .int .i64 o, .int .i64 r, .int .i64 s, .bool e] rfl rfl (Cel.new w1 62 En.zero.cs) sizeE rfl rfl ?_; intro w2 hc hb hs; have B2 := hid (B1.out.add hc hb); clear hc hb hs))
      generalize w1.heap.size = g8 at *
      have c0 := (B2.out.get 0 rfl).cell 0
      simp only [List.getElem?_cons_zero] at c0
      go_wp2_with (first | (refine wpList_load_mid rfl 62 _ rfl g8 0 rfl _ _ ((B2.out.get 0 rfl).range) underE rfl (by rw [sizeE]; rfl) ?_) | (refine wpList_store_st rfl 62 _ _ rfl g4 [.int .i64 t', .int .i64 o, .int .i64 r, .int .i64 s, .bool e] rfl rfl (B2.out.get 1 rfl) sizeE rfl rfl ?_; intro w4 hc hb hs; have HF := hid (And.intro hc (B2.out.below.trans (hb.below (by have := HG.out; simp; omega) B2.out.below.size))); clear hc hb hs))
      exact ret_st2 rfl rfl g4 _ rfl HF.out.1 underE rfl sizeE ⟨rfl, HF.out.2⟩
    · rw [if_neg ht, if_neg ht]
      obtain ⟨t', o, r, s, e⟩ := D
      simp only at ht
      have ht' : (t' == t) = false := by simpa using ht
      clear ht
      simp only [ptr, En.v, En.zero, En.cs] at HX B0 HE ⊢
      go_enter Try.func88, Try.ntmps88
      go_upto_region 1 with fail
      generalize W.alloc _ = X at *
      generalize hg : W.heap.size = g4 at B0 ⊢
      have HG := hid hg
      clear hg
      go_upto_region 2 with (first | (go_at_call 55; refine (HE.out _ HX.out).mono ?_; rintro e w1 ⟨rfl, hb⟩; have B1 := hid (B0.out.on hb); clear hb) | (refine wpList_store_st rfl 62 _ _ rfl w1.heap.size [.int .i64 t', .int .i64 o, .int .i64 r, .int .i64 s, .bool e] rfl rfl (Cel.new w1 62 En.zero.cs) sizeE rfl rfl ?_; intro w2 hc hb hs; have B2 := hid (B1.out.add hc hb); clear hc hb hs))
      generalize w1.heap.size = g8 at *
      have c0 := (B2.out.get 0 rfl).cell 0
      simp only [List.getElem?_cons_zero] at c0
      go_wp2_with (first | (refine wpList_build_zE rfl rfl ?_) | (refine wpList_store_st rfl 62 _ _ rfl g4 En.zero.cs rfl rfl (B2.out.get 1 rfl) sizeE rfl rfl ?_; intro w4 hc hb hs; have HF := hid (And.intro hc (B2.out.below.trans (hb.below (by have := HG.out; simp; omega) B2.out.below.size))); clear hc hb hs))
      exact ret_st2 rfl rfl g4 _ rfl HF.out.1 underE rfl sizeE ⟨rfl, HF.out.2⟩
end Go.Proofs.Ytajkhkaidjjioaa
