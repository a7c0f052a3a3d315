import Derived.Test.YtllcbgdcepfdkaaGreatDoorP46
import Derived.Test.YtllcbgdcepfdkaaGreatDoorP52
import Derived.Test.YtllcbgdcepfdkaaGreatDoorP47
import Derived.Test.YtllcbgdcepfdkaaGreatDoorCards
import Derived.Test.YtllcbgdcepfdkaaGreatDoorTie
import Derived.ProofKit
import Derived.OpenShut
import Derived.ShutString
import Derived.ChangeOld
import Derived.Below
import Derived.Deep.DeepHandedRow
import Derived.SizedLaws
import Derived.Lib.LaidTab
namespace Go.Proofs.YtllcbgdcepfdkaaGreatDoor
open Go.RowKit
set_option maxRecDepth 100000
set_option maxHeartbeats 4000000
theorem hand_any (W : World) (p : Dp) (d : DS) (h : DB W p d) (hU : d.m.U) (hG : Gl W p) (hni : d.ni ≤ 64) (k a b c f : Int) (k1 : 1 ≤ k) (k5 : k ≤ 5) (hw : W5 a b c f) (hC : d.clC k a b c f = 0) :
    Calls Tryz.prog 15 #[ptr p.g, opV k a b c f] W fun e W' => ∃ d', e = .returned (.bool true) ∧ DS.Sim (d.clD k a b c f) d' ∧ DB W' p d' ∧ ButL p.w W W' := by
  have h0 := h.mem.ns0
  have hk := h.ok
  have a0 := hw.a0
  have hcase : k = 1 ∨ k = 2 ∨ k = 3 ∨ k = 4 ∨ k = 5 := by omega
  rcases hcase with rfl | rfl | rfl | rfl | rfl
  · exact hand1 W p d h hU hG a b c f hw (sp_zero a0 hw.b0 hC)
  · obtain ⟨h1, h2, h3⟩ := th_zero (d := d) (a := a) (b := b) hC
    exact hand2 W p d h hU hG a b c f hw h3 h2 (th_st h0 c a0 h1 h3)
  · obtain ⟨h1, h2, h3, h4, h5⟩ := tb_zero (d := d) (a := a) (b := b) (c := c) hC
    obtain ⟨h6, h7⟩ := tb_hand hk h0 hw.c0 h2 h3 h5
    exact hand3 W p d h hU hG a b c f hw h5 h6 h4 h7
  · obtain ⟨h1, h2, h3, h4, h5, h6⟩ := da_zero (d := d) (a := a) (b := b) (c := c) (f := f) hC
    have hm : Mp.err ⟨true, b, (gP c).wr, (gP c).ex⟩ = 0 := by
      unfold Mp.err
      rw [if_pos (pg_of hk (take_zero h6).1)]
      simp
    obtain ⟨q1, q2, q3, q4, q5, q6, q7, q8⟩ := da_hand hk hU h0 h.mem.full hw.f0 h3 h6 h4 hm _ rfl
    exact hand4 W p d h hU hG a b c f hw h2 h6 q1 q2 q3 h5 q4 q5 q6 q7 q8
  · obtain ⟨h1, h2, h3, h4, h5, h6⟩ := sh_zero (d := d) (a := a) (b := b) (c := c) hC
    have hm : Mp.err ⟨false, c, (gP b).wr, false⟩ = 0 := by
      unfold Mp.err
      rw [if_pos (show Pg c from ⟨hw.c0, by omega⟩)]
      simp
    obtain ⟨q1, q2, q3⟩ := put_hand h0 (op_zero a0 h1).2.1 h5 hm
    exact hand5 W p d h hU hG a b c f hw h2 h3 h4 q1 h6 q2
end Go.Proofs.YtllcbgdcepfdkaaGreatDoor
namespace Go.Proofs.YtllcbgdcepfdkaaGreatDoor
open Go.RowKit
set_option maxRecDepth 100000
set_option maxHeartbeats 8000000
/-- A call of the script. -/
structure Oq where
  k : Int
  a : Int
  b : Int
  c : Int
  f : Int
instance : Inhabited Oq := ⟨⟨0, 0, 0, 0, 0⟩⟩
def Oq.cs (x : Oq) : List Value := opC x.k x.a x.b x.c x.f
structure OpsAt (W : World) (ao : Option Addr) (n : Nat) (q : Nat → Oq) : Prop where
  at_ : 0 < n → ∃ g off, ao = some ⟨g, off, none⟩ ∧ g < W.heap.size ∧ ∀ j, j < n → W.rangeAt g (off + j * 5) (q j).cs
  v : ∀ j, j < n → W5 (q j).a (q j).b (q j).c (q j).f
theorem rangeAt_on {W W' : World} {g off : Nat} {cs : List Value} (h : W.rangeAt g off cs) (hg : g < W.heap.size) (hb : Below W.heap.size W W') : W'.rangeAt g off cs := fun j v hv => by
  have := h j v hv
  unfold World.cell? at this ⊢
  rw [hb.block g hg]
  exact this
theorem DS.Fit.ni {d e : DS} (h : DS.Fit d e) : e.ni = d.ni := by unfold DS.ni; rw [h.ns, h.P]
/-- What stays of the state in every round. -/
structure Iv (W0 w : World) (p : Dp) (d : DS) : Prop where
  o : OD W0 w p d
  U : d.m.U
  ni : d.ni ≤ 64
/-- A database and boxes beside it. -/
structure RO (W0 w : World) (p : Dp) (d : DS) (L : List (Nat × TypeId × List Value)) : Prop where
  o : OD W0 w p d
  bag : ∀ x ∈ L, Cel w x.1 x.2.1 x.2.2
  off : ∀ x ∈ L, x.1 ∉ p.all
theorem RO.start {W0 w : World} {p : Dp} {d : DS} (h : OD W0 w p d) : RO W0 w p d [] := ⟨h, by simp, by simp⟩
theorem RO.on {W0 w w' : World} {p : Dp} {d : DS} {L : List (Nat × TypeId × List Value)} (h : RO W0 w p d L) (hb : Below w.heap.size w w') : RO W0 w' p d L := ⟨h.o.on hb, fun x hx => (h.bag x hx).on hb, h.off⟩
theorem RO.get {W0 w : World} {p : Dp} {d : DS} {L : List (Nat × TypeId × List Value)} (h : RO W0 w p d L) (k : Nat) {g : Nat} {t : TypeId} {cs : List Value} (hk : L[k]? = some (g, t, cs)) : Cel w g t cs := h.bag _ (List.mem_of_getElem? hk)
theorem RO.new {W0 w : World} {p : Dp} {d : DS} {L : List (Nat × TypeId × List Value)} (h : RO W0 w p d L) (t : TypeId) (cs : List Value) : RO W0 (w.alloc (.cells cs.toArray t)) p d ((w.heap.size, t, cs) :: L) :=
  ⟨h.o.on (below_one w _), fun x hx => by
    rcases List.mem_cons.1 hx with rfl | hx
    · exact Cel.new w t cs
    · exact (h.bag x hx).on (below_one w _), fun x hx hm => by
    rcases List.mem_cons.1 hx with rfl | hx
    · exact absurd (h.o.db.lt _ hm) (Nat.lt_irrefl _)
    · exact h.off x hx hm⟩
theorem RO.step {W0 w w' : World} {p : Dp} {d d' : DS} {L : List (Nat × TypeId × List Value)} (h : RO W0 w p d L) (hd : DB w' p d') (hb : ButL p.w w w') : RO W0 w' p d' L :=
  ⟨h.o.step hd hb, fun x hx => (h.bag x hx).but hb (fun hm => h.off x hx (p.w_all' _ hm)), h.off⟩
/-- Two databases and boxes beside them. -/
structure RQ (W0 w : World) (p p' : Dp) (d d' : DS) (L : List (Nat × TypeId × List Value)) : Prop where
  l : RO W0 w p d L
  r : RO W0 w p' d' L
  ap : ∀ k ∈ p.all, k ∉ p'.all
theorem RQ.on {W0 w w' : World} {p p' : Dp} {d d' : DS} {L : List (Nat × TypeId × List Value)} (h : RQ W0 w p p' d d' L) (hb : Below w.heap.size w w') : RQ W0 w' p p' d d' L := ⟨h.l.on hb, h.r.on hb, h.ap⟩
theorem RQ.of {W0 w w' : World} {p p' : Dp} {d : DS} {L : List (Nat × TypeId × List Value)} (h : RO W0 w p d L) (hn : NewDB w w' p' d) : RQ W0 w' p p' d d L :=
  ⟨h.on hn.below, ⟨h.o.new hn, fun x hx => (h.bag x hx).on hn.below, fun x hx hm => by have := hn.new _ hm; have := (h.bag x hx).lt; omega⟩, fun k hk hm => by have := hn.new k hm; have := h.o.db.lt k hk; omega⟩
theorem RQ.stepL {W0 w w' : World} {p p' : Dp} {d d' d2 : DS} {L : List (Nat × TypeId × List Value)} (h : RQ W0 w p p' d d' L) (hd : DB w' p d2) (hb : ButL p.w w w') : RQ W0 w' p p' d2 d' L :=
  ⟨h.l.step hd hb, ⟨⟨h.r.o.db.frame hb (fun k hk hm => h.ap k (p.w_all' _ hm) hk), (h.l.step hd hb).o.bl, h.r.o.own⟩, (h.l.step hd hb).bag, h.r.off⟩, h.ap⟩
theorem RQ.stepR {W0 w w' : World} {p p' : Dp} {d d' d2 : DS} {L : List (Nat × TypeId × List Value)} (h : RQ W0 w p p' d d' L) (hd : DB w' p' d2) (hb : ButL p'.w w w') : RQ W0 w' p p' d d2 L :=
  ⟨⟨⟨h.l.o.db.frame hb (fun k hk hm => h.ap k hk (p'.w_all' _ hm)), (h.r.step hd hb).o.bl, h.l.o.own⟩, (h.r.step hd hb).bag, h.l.off⟩, h.r.step hd hb, h.ap⟩
theorem RQ.add {W0 w w2 : World} {p p' : Dp} {d d' : DS} {L : List (Nat × TypeId × List Value)} {u : TypeId} {ds es : List Value} (h : RQ W0 w p p' d d' L) (hc : Cel w2 w.heap.size u es) (hb : ButL [w.heap.size] (w.alloc (.cells ds.toArray u)) w2) : RQ W0 w2 p p' d d' ((w.heap.size, u, es) :: L) := by
  have hB : Below w.heap.size w w2 := (below_one w (.cells ds.toArray u)).trans (hb.below (by simp) (by simp))
  have h2 := h.on hB
  have key : ∀ x ∈ (w.heap.size, u, es) :: L, Cel w2 x.1 x.2.1 x.2.2 := fun x hx => by
    rcases List.mem_cons.1 hx with rfl | hx
    · exact hc
    · exact h2.l.bag x hx
  exact ⟨⟨h2.l.o, key, fun x hx hm => by
    rcases List.mem_cons.1 hx with rfl | hx
    · exact absurd (h.l.o.db.lt _ hm) (Nat.lt_irrefl _)
    · exact h.l.off x hx hm⟩, ⟨h2.r.o, key, fun x hx hm => by
    rcases List.mem_cons.1 hx with rfl | hx
    · exact absurd (h.r.o.db.lt _ hm) (Nat.lt_irrefl _)
    · exact h.r.off x hx hm⟩, h.ap⟩
/-- One call that is no build call. -/
theorem besO (W0 w : World) (p : Dp) (d : DS) (L : List (Nat × TypeId × List Value)) (h : RO W0 w p d L) (o : Oq) (hw : W5 o.a o.b o.c o.f) : Calls Tryz.prog 9 #[ptr p.g, opV o.k o.a o.b o.c o.f] w fun e w' => e = .returned (.tuple #[]) ∧ RO W0 w' p (d.bes o.k o.a o.b o.c) L :=
  (beside_any w p d h.o.db o.k o.a o.b o.c o.f hw).mono fun _ _ ⟨he, hd, hb⟩ => ⟨he, h.step hd hb⟩
theorem iv_bes {W0 w w' : World} {p p' : Dp} {d : DS} (h : Iv W0 w p d) (o : Oq) (hw : W5 o.a o.b o.c o.f) (hO : OD W0 w' p' (d.bes o.k o.a o.b o.c)) : Iv W0 w' p' (d.bes o.k o.a o.b o.c) := by
  have hF := fit_bes (d := d) o.k o.a o.b o.c hw.c0 hw.c1
  exact ⟨hO, hF.U h.U, by rw [hF.ni]; exact h.ni⟩
theorem iv_cl {W0 w w' : World} {p : Dp} {d d' : DS} (h : Iv W0 w p d) (o : Oq) (hw : W5 o.a o.b o.c o.f) (hS : DS.Sim (if d.clC o.k o.a o.b o.c o.f = 0 then d.clD o.k o.a o.b o.c o.f else d) d') (hO : OD W0 w' p d') : Iv W0 w' p d' := by
  have hF : DS.Fit d d' := by
    refine DS.Fit.trans ?_ hS.fit
    split
    · exact fit_cl h.o.db.ok h.U _ _ _ _ _ hw
    · exact .refl d
  exact ⟨hO, hF.U h.U, by rw [hF.ni]; exact h.ni⟩
theorem iv_first (W w : World) (p : Dp) (s n : Nat) (n2 : n ≤ 64) (h : OD W w p (DS.fresh (MS.new s n))) : Iv W w p (DS.fresh (MS.new s n)) := by
  refine ⟨h, zall_U (MS.U.new s n) _, ?_⟩
  unfold DS.ni DS.fresh DS.zed
  rw [zall_len, MS.zall_ns]
  simp only [MS.new, List.length_replicate]
  omega
theorem under23 : Tryz.prog.underlying 23 = some (.struct (Tryz.prog.fieldsOf 23)) := by kernel_rfl
theorem cloQ (W0 w : World) (p : Dp) (d : DS) (L : List (Nat × TypeId × List Value)) (h : RO W0 w p d L) : Calls Tryz.prog 11 #[ptr p.g] w fun e w' => ∃ p', e = .returned (ptr p'.g) ∧ RQ W0 w' p p' d d L :=
  (dclone_any w p d h.o.db).mono fun _ _ ⟨p', he, hn⟩ => ⟨p', he, .of h hn⟩
theorem calQ (W0 w : World) (hT : H.Tab W0) (hs : 1 < W0.heap.size) (p p' : Dp) (d : DS) (hU : d.m.U) (L : List (Nat × TypeId × List Value)) (h : RQ W0 w p p' d d L) (k a b c f : Int) (hw : W5 a b c f) : Calls Tryz.prog 13 #[ptr p.g, opV k a b c f] w fun e w' => ∃ d2, e = .returned (.int .i64 (d.clC k a b c f)) ∧ DS.Sim (if d.clC k a b c f = 0 then d.clD k a b c f else d) d2 ∧ RQ W0 w' p p' d2 d L :=
  (called_any w p d h.l.o.db hU (h.l.o.gl hT hs) k a b c f hw).mono fun _ _ ⟨d2, he, hS, hd, hb⟩ => ⟨d2, he, hS, h.stepL hd hb⟩
theorem likQ (W0 w : World) (p p' : Dp) (d2 d3 : DS) (L : List (Nat × TypeId × List Value)) (h : RQ W0 w p p' d2 d3 L) (hS : DS.Sim d3 d2) : Calls Tryz.prog 14 #[ptr p'.g, ptr p.g] w fun e w' => e = .returned (.bool true) ∧ RQ W0 w' p p' d2 d3 L :=
  (likewise_yes w p' p d3 d2 h.r.o.db h.l.o.db hS).mono fun _ _ ⟨he, hb⟩ => ⟨he, h.on hb⟩
theorem hanQ (W0 w : World) (hT : H.Tab W0) (hs : 1 < W0.heap.size) (p p' : Dp) (d d2 : DS) (hU : d.m.U) (hni : d.ni ≤ 64) (L : List (Nat × TypeId × List Value)) (h : RQ W0 w p p' d2 d L) (k a b c f : Int) (k1 : 1 ≤ k) (k5 : k ≤ 5) (hw : W5 a b c f) (hC : d.clC k a b c f = 0) : Calls Tryz.prog 15 #[ptr p'.g, opV k a b c f] w fun e w' => ∃ d3, e = .returned (.bool true) ∧ DS.Sim (d.clD k a b c f) d3 ∧ RQ W0 w' p p' d2 d3 L :=
  (hand_any w p' d h.r.o.db hU (h.r.o.gl hT hs) hni k a b c f k1 k5 hw hC).mono fun _ _ ⟨d3, he, hS, hd, hb⟩ => ⟨d3, he, hS, h.stepR hd hb⟩
theorem entQ (W0 w : World) (p p' : Dp) (d d2 : DS) (L : List (Nat × TypeId × List Value)) (h : RQ W0 w p p' d2 d L) (a : Int) : Calls Tryz.prog 12 #[ptr p'.g, .int .i64 a] w fun e w' => e = .returned (.tuple #[(d.ent a).v, .int .i64 (d.entE a)]) ∧ RQ W0 w' p p' d2 d L :=
  (entry_any w p' d h.r.o.db a).mono fun _ _ ⟨he, hb⟩ => ⟨he, h.on hb⟩
theorem refuses_l (W : World) (s m : Int) (ao : Option Addr) (n cp : Nat) (q : Nat → Oq) (hq : OpsAt W ao n q) (hn : (n : Int) ≤ 4611686018427387904) (hT : H.Tab W) (hs : 1 < W.heap.size) :
    Calls Tryz.prog 3 #[.agg #[.int .i64 s, .int .i64 m], .slice ao n cp] W fun x W' => x = .returned (.bool true) ∧ Below W.heap.size W W' := by
  by_cases hm : 1 ≤ s ∧ s ≤ 64 ∧ 1 ≤ m ∧ m ≤ 64
  rotate_left
  · have HF := hid (fun w => fresh_no w s m hm)
    have HH := hid (fun w (hb : Below W.heap.size W w) => head_any w (hT.below hb hs) (by have := hb.size; omega))
    have B0 := hid (bag_one W 23 [.int .i64 s, .int .i64 m])
    clear hm hq hn hT hs
    go_enter Tryz.func3, Tryz.ntmps3
    go_upto_region 1 with fail
    generalize World.alloc _ _ = X at *
    generalize hg : W.heap.size = g1 at B0 ⊢
    have HG := hid hg
    clear hg
    go_upto_region 2 with (first | (refine wpList_load_mid rfl 23 _ rfl g1 0 rfl _ _ (B0.out.get 0 rfl).range under23 rfl (by rw [size23]; rfl) ?_) | (go_at_call 7; refine (HF.out _).mono ?_; rintro e w1 ⟨rfl, hb⟩; have B1 := hid (B0.out.on hb); clear hb))
    clear B0 HF
    go_wp2_with (first | (go_at_call 8; refine (HH.out _ B1.out.below).mono ?_; rintro e w2 ⟨rfl, hb⟩; have B2 := hid (B1.out.on hb); clear hb))
    go_returns
    first | exact ⟨rfl, B2.out.below⟩ | exact ⟨rfl, by rw [← HG.out]; exact B2.out.below⟩
  obtain ⟨s1, s2, m1, m2⟩ := hm
  obtain ⟨s', rfl⟩ : ∃ s' : Nat, s = (s' : Int) := ⟨s.toNat, by omega⟩
  obtain ⟨m', rfl⟩ : ∃ m' : Nat, m = (m' : Int) := ⟨m.toNat, by omega⟩
  have HF := hid (fun w => fresh_yes w s' m' (by omega) (by omega) (by omega) (by omega))
  have HIf := hid (fun w w' p h => iv_first w w' p s' m' (by omega) h)
  have HH := hid (fun w (hb : Below W.heap.size W w) => head_any w (hT.below hb hs) (by have := hb.size; omega))
  have B0 := hid (bag_one W 23 [.int .i64 (s' : Int), .int .i64 (m' : Int)])
  have HQ := hid hq
  have HT := hid hT
  have HS := hid hs
  have HFr : Hid (∀ w w' p d, Below W.heap.size W w → OD w w' p d → OD W w' p d) := hid (fun w w' p d hb h => ⟨h.db, below_on hb h.bl, fun k hk => Nat.le_trans hb.size (h.own k hk)⟩)
  clear s1 s2 m1 m2 hq hT hs
  generalize DS.fresh (MS.new s' m') = D0 at *
  generalize (s' : Int) = s at *
  generalize (m' : Int) = m at *
  simp only [ptr] at HF
  go_enter Tryz.func3, Tryz.ntmps3
  go_upto_region 1 with fail
  generalize World.alloc _ _ = X at *
  generalize hg : W.heap.size = g1 at B0 ⊢
  have HG := hid hg
  clear hg
  go_upto_region 2 with (first | (refine wpList_load_mid rfl 23 _ rfl g1 0 rfl _ _ (B0.out.get 0 rfl).range under23 rfl (by rw [size23]; rfl) ?_) | (go_at_call 7; refine (HF.out _).mono ?_; rintro e w1 ⟨p, rfl, hO⟩; have O1 : Hid (Iv W w1 p D0) := hid (by have hI := HIf.out _ _ _ hO; exact ⟨HFr.out _ _ _ _ B0.out.below hI.o, hI.U, hI.ni⟩); clear hO))
  clear B0 HF HIf HFr
  go_upto_region 6 with (first | (go_at_call 8; refine (HH.out _ O1.out.o.bl).mono ?_; rintro e w2 ⟨rfl, hb⟩; have O2 : Hid (Iv W w2 p D0) := hid ⟨O1.out.o.on hb, O1.out.U, O1.out.ni⟩; clear hb))
  clear O1 HH
  go_wp2_with fail
  go_loopw [5, 7] (fun dv i wr => ∃ (k : Nat) (p : Dp) (d : DS), k ≤ n ∧ i = .int .i64 (k : Int) ∧ dv = .pointer (some ⟨p.g, 0, none⟩) ∧ Hid (Iv W wr p d)) (fun _ i _ => n - (intOf i).toNat)
  case atStart => exact ⟨0, p, D0, Nat.zero_le _, rfl, rfl, O2⟩
  case round =>
    obtain ⟨k, p, d, hk, rfl, rfl, HD⟩ := hrel
    clear O2
    by_cases hlt : k < n
    · have q1 : (k : Int) < (n : Int) := by omega
      have q2 : (k : Int) ≤ 4611686018427387904 := by omega
      obtain ⟨g, off, rfl, hgl, hr⟩ := HQ.out.at_ (by omega)
      have HR := hid (rangeAt_on (hr k hlt) hgl HD.out.o.bl)
      have HV := hid (HQ.out.v k hlt)
      have HK : Hid (k < n) := hid hlt
      clear hlt hgl hr hk HQ
      generalize q k = oo at *
      have HIb := hid (fun w' p' hO => iv_bes (w' := w') (p' := p') HD.out oo HV.out hO)
      have HIc := hid (fun w' d' hS hO => iv_cl (w' := w') (d' := d') HD.out oo HV.out hS hO)
      have HBe := hid (fun w L h => besO W w p d L h oo HV.out)
      obtain ⟨ok, oa, ob, oc, of⟩ := oo
      have HOt := hid (fun w e (h : OD W w p e) => other_any W w p e h ok oa ob oc of)
      have HCl := hid (fun w L h => cloQ W w p d L h)
      have HEn := hid (fun w p' L h => entQ W w p p' d d L h oa)
      have HCa := hid (fun w p' L h => calQ W w HT.out HS.out p p' d HD.out.U L h ok oa ob oc of HV.out)
      have HLi := hid (fun w p' d2 d3 L h hS => likQ W w p p' d2 d3 L h hS)
      have HHa := hid (fun w p' d2 L h k1 k5 hC => hanQ W w HT.out HS.out p p' d d2 HD.out.U HD.out.ni L h ok oa ob oc of k1 k5 HV.out hC)
      have HOp := hid (fun k1 k5 hC => cl_open (d := d) (k := ok) (b := ob) (c := oc) (f := of) HV.out.a0 k1 k5 hC)
      have R0 := hid ((RO.start HD.out.o).new 31 [.int .i64 ok, .int .u32 oa, .int .u32 ob, .int .u32 oc, .int .u32 of])
      have a0 := HV.out.a0
      have a1 := HV.out.a1
      have kwa : wrap64 oa = oa := by unfold wrap64; simp only at a0 a1; omega
      have kxa : IntKind.wrap .i64 oa = oa := by rw [IntKind.wrap_i64]; simp only at a0 a1; omega
      clear a0 a1 HD HV
      simp only [ptr, opV, opC, Oq.cs] at *
      go_upto_region 10 with (first | (refine wpList_load_mid rfl 31 _ rfl g (off + k * 5) rfl _ _ HR.out under31 rfl (by rw [size31]; rfl) ?_))
      clear HR
      generalize wr.alloc _ = w2 at *
      generalize wr.heap.size = g8 at *
      by_cases hkd : ok < 1 ∨ 5 < ok
      · have c0 := (R0.out.get 0 rfl).cell 0
        simp only [List.getElem?_cons_zero] at c0
        clear HCl HEn HCa HLi HHa HOp HIc kwa kxa
        generalize DS.bes d ok oa ob oc = d3 at *
        have hgo : (ok < 1) ∨ (1 ≤ ok ∧ 5 < ok) := by omega
        clear hkd
        rcases hgo with hk1 | ⟨hk1, hk5⟩
        all_goals
          go_upto_region 11 with fail
          clear c0
          go_upto_region 12 with (first | (refine wpList_load_mid rfl 31 _ rfl g8 0 rfl _ _ (R0.out.get 0 rfl).range under31 rfl (by rw [size31]; rfl) ?_) | (go_at_call 9; refine (HBe.out _ _ R0.out).mono ?_; rintro e w3 ⟨rfl, hR⟩; have R1 := hid hR; clear hR))
          clear R0
          go_wp2_with (first | (refine wpList_load_mid rfl 31 _ rfl g8 0 rfl _ _ (R1.out.get 0 rfl).range under31 rfl (by rw [size31]; rfl) ?_) | (go_at_call 10; refine (HOt.out _ _ R1.out.o).mono ?_; rintro e w4 ⟨p', rfl, hO⟩; have O4 := hid hO; clear hO))
          go_roundw
          case measure => have := HK.out; simp [intOf] <;> omega
          case rel => exact ⟨k + 1, p', _, by have := HK.out; omega, by simp, rfl, hid (HIb.out _ _ O4.out)⟩
      · have k1 : 1 ≤ ok := by omega
        have k5 : ok ≤ 5 := by omega
        clear hkd HBe HOt HIb
        have c0 := (R0.out.get 0 rfl).cell 0
        simp only [List.getElem?_cons_zero] at c0
        go_upto_region 13 with fail
        clear c0
        go_upto_region 14 with (first | (go_at_call 11; refine (HCl.out _ _ R0.out).mono ?_; rintro e w3 ⟨p', rfl, hQ⟩; have Q1 := hid hQ; clear hQ))
        clear R0 HCl
        have c1 := (Q1.out.l.get 0 rfl).cell 1
        simp only [List.getElem?_cons_zero, List.getElem?_cons_succ] at c1
        by_cases hC : d.clC ok oa ob oc of = 0
        · obtain ⟨hE, hT⟩ := HOp.out k1 k5 hC
          have HH := hid (fun w p' d2 L h => HHa.out w p' d2 L h k1 k5 hC)
          rw [if_pos hC] at HIc
          simp only [if_pos hC] at HCa
          rw [hC] at HCa
          rw [hE] at HEn
          clear HHa HOp hE hC
          generalize DS.clD d ok oa ob oc of = fin at *
          generalize d.ent oa = X at *
          obtain ⟨xt, xo, xr, xs, xx⟩ := X
          simp only [En.v, En.cs] at HEn
          go_upto_region 15 with (first | (go_at_call 12; refine (HEn.out _ _ _ Q1.out).mono ?_; rintro e w4 ⟨rfl, hQ⟩; have Q2 := hid hQ; clear hQ c1) | (refine wpList_store_st rfl 38 _ _ rfl w4.heap.size [.int .i64 xt, .int .i64 xo, .int .i64 xr, .int .i64 xs, .bool xx] rfl rfl (Cel.new w4 38 En.zero.cs) sizeE rfl rfl ?_; intro w5 hc hb hs; have Q3 := hid (Q2.out.add hc hb); clear hc hb hs))
          clear Q1 Q2 HEn
          generalize w4.heap.size = g10 at *
          go_upto_region 18 with (first | (refine wpList_load_mid rfl 31 _ rfl g8 0 rfl _ _ (Q3.out.l.get 1 rfl).range under31 rfl (by rw [size31]; rfl) ?_) | (go_at_call 13; refine (HCa.out _ _ _ Q3.out).mono ?_; rintro e w6 ⟨d2, rfl, hS, hQ⟩; have Q4 := hid hQ; have S4 := hid hS; clear hQ hS))
          clear Q3 HCa
          have e0 := (Q4.out.l.get 0 rfl).cell 0
          have e3 := (Q4.out.l.get 0 rfl).cell 3
          have c0 := (Q4.out.l.get 1 rfl).cell 0
          have c1 := (Q4.out.l.get 1 rfl).cell 1
          have c2 := (Q4.out.l.get 1 rfl).cell 2
          have c3 := (Q4.out.l.get 1 rfl).cell 3
          have c4 := (Q4.out.l.get 1 rfl).cell 4
          simp only [List.getElem?_cons_zero, List.getElem?_cons_succ] at e0 e3 c0 c1 c2 c3 c4
          by_cases hk : ok = 1
          · subst hk
            clear hT k1 k5
            go_wp2_with (first | (go_at_call 15; refine (HH.out _ _ _ _ Q4.out).mono ?_; rintro e w7 ⟨d3, rfl, hS, hQ⟩; have Q5 := hid hQ; have S5 := hid (hS.symm.trans S4.out); clear hQ hS e0 e3 c0 c1 c2 c3 c4) | (go_at_call 14; refine (HLi.out _ _ _ _ _ Q5.out S5.out).mono ?_; rintro e w8 ⟨rfl, hQ⟩; have Q6 := hid hQ; clear hQ))
            go_roundw
            case measure => have := HK.out; simp [intOf] <;> omega
            case rel => exact ⟨k + 1, p, d2, by have := HK.out; omega, by simp, rfl, hid (HIc.out _ _ S4.out Q6.out.l.o)⟩
          · obtain ⟨ht, hs⟩ := hT hk
            subst ht hs
            have hk' : (ok != 1) = true := by simpa using hk
            clear hT hk
            go_wp2_with (first | (go_at_call 15; refine (HH.out _ _ _ _ Q4.out).mono ?_; rintro e w7 ⟨d3, rfl, hS, hQ⟩; have Q5 := hid hQ; have S5 := hid (hS.symm.trans S4.out); clear hQ hS e0 e3 c0 c1 c2 c3 c4) | (go_at_call 14; refine (HLi.out _ _ _ _ _ Q5.out S5.out).mono ?_; rintro e w8 ⟨rfl, hQ⟩; have Q6 := hid hQ; clear hQ))
            go_roundw
            case measure => have := HK.out; simp [intOf] <;> omega
            case rel => exact ⟨k + 1, p, d2, by have := HK.out; omega, by simp, rfl, hid (HIc.out _ _ S4.out Q6.out.l.o)⟩
        · simp only [if_neg hC] at HCa HIc
          have hne : (d.clC ok oa ob oc of != 0) = true := by simpa using hC
          clear HHa HOp hC
          generalize DS.clC d ok oa ob oc of = code at *
          generalize d.entE oa = xe at *
          generalize d.ent oa = X at *
          obtain ⟨xt, xo, xr, xs, xx⟩ := X
          simp only [En.v, En.cs] at HEn
          go_upto_region 15 with (first | (go_at_call 12; refine (HEn.out _ _ _ Q1.out).mono ?_; rintro e w4 ⟨rfl, hQ⟩; have Q2 := hid hQ; clear hQ c1) | (refine wpList_store_st rfl 38 _ _ rfl w4.heap.size [.int .i64 xt, .int .i64 xo, .int .i64 xr, .int .i64 xs, .bool xx] rfl rfl (Cel.new w4 38 En.zero.cs) sizeE rfl rfl ?_; intro w5 hc hb hs; have Q3 := hid (Q2.out.add hc hb); clear hc hb hs))
          clear Q1 Q2 HEn
          generalize w4.heap.size = g10 at *
          go_upto_region 16 with (first | (refine wpList_load_mid rfl 31 _ rfl g8 0 rfl _ _ (Q3.out.l.get 1 rfl).range under31 rfl (by rw [size31]; rfl) ?_) | (go_at_call 13; refine (HCa.out _ _ _ Q3.out).mono ?_; rintro e w6 ⟨d2, rfl, hS, hQ⟩; have Q4 := hid hQ; have S4 := hid hS; clear hQ hS))
          clear Q3 HCa
          go_wp2_with (first | (go_at_call 14; refine (HLi.out _ _ _ _ _ Q4.out S4.out).mono ?_; rintro e w8 ⟨rfl, hQ⟩; have Q6 := hid hQ; clear hQ))
          go_roundw
          case measure => have := HK.out; simp [intOf] <;> omega
          case rel => exact ⟨k + 1, p, d2, by have := HK.out; omega, by simp, rfl, hid (HIc.out _ _ S4.out Q6.out.l.o)⟩
    · have hkn : (n : Int) ≤ (k : Int) := by omega
      clear hlt hk
      go_wp2_with fail
      go_returns
      first | exact ⟨rfl, HD.out.o.bl⟩ | exact ⟨rfl, by rw [← HG.out]; exact HD.out.o.bl⟩
end Go.Proofs.YtllcbgdcepfdkaaGreatDoor
namespace Go.Proofs.YtllcbgdcepfdkaaGreatDoor
open Go.ChangeShapes Go.WideShapes Go.ChangeAt Go.RowKit
theorem own : ownKnob Tryz.prog.godebug = none := by kernel_rfl
theorem laidOut : laidOutB Tryz.prog = true := by kernel_rfl
theorem gTab : Tryz.prog.globalNamed "warden/sha.roundWords" = some 0 := by kernel_rfl
theorem gTabType : (Tryz.prog.globals[0]?).map (·.type) = some 314 := by kernel_rfl
theorem celA : Tryz.prog.cellsOf 314 = 64 := by kernel_rfl
theorem celW : Tryz.prog.cellsOf 29 = 1 := by kernel_rfl
theorem celI : Tryz.prog.cellsOf 3 = 1 := by kernel_rfl
theorem tab_of {rest : List (String × DataW Unit)} {W : World} (h : laidMet Tryz.prog (("warden/sha.roundWords", Rows.laid_warden_sha_roundWords) :: rest) W) : H.Tab W := by
  have hT : Lib.TabIs Tryz.prog W "warden/sha.roundWords" .u32 H.S.K := Lib.tabIs_of_head (rest := rest) gTab gTabType Tryz.underlying314 Tryz.underlying29 celW celA h
  have hc : ∀ i : Nat, i < 64 → W.cell? ⟨0, i, none⟩ = some (.int .u32 (H.S.K.getD i 0)) := fun i hi => hT.cell gTab i hi
  exact fun i hi => by rw [Nat.zero_add]; exact hc i hi
theorem size_of_shape {W : World} (h : W.ShapedOpen Tryz.prog) : 1 < W.heap.size := by
  have h0 : ((begin Tryz.prog (fun _ _ => 0) default).world.heap[1]?).bind Obj.row? = some (#[.int .u32 0, .int .u32 0, .int .u32 0, .int .u32 0, .int .u32 0, .int .u32 0, .int .u32 0, .int .u32 0, .int .u32 0, .int .u32 0, .int .u32 0, .int .u32 0, .int .u32 0, .int .u32 0, .int .u32 0, .int .u32 0, .int .u32 0, .int .u32 0, .int .u32 0, .int .u32 0, .int .u32 0, .int .u32 0, .int .u32 0, .int .u32 0, .int .u32 0, .int .u32 0, .int .u32 0, .int .u32 0, .int .u32 0, .int .u32 0, .int .u32 0, .int .u32 0, .int .u32 0, .int .u32 0, .int .u32 0, .int .u32 0, .int .u32 0, .int .u32 0, .int .u32 0, .int .u32 0, .int .u32 0, .int .u32 0, .int .u32 0, .int .u32 0, .int .u32 0, .int .u32 0, .int .u32 0, .int .u32 0, .int .u32 0, .int .u32 0, .int .u32 0, .int .u32 0, .int .u32 0, .int .u32 0, .int .u32 0, .int .u32 0, .int .u32 0, .int .u32 0, .int .u32 0, .int .u32 0, .int .u32 0, .int .u32 0, .int .u32 0, .int .u32 0], 314) := by kernel_rfl
  obtain ⟨cs, hh, _, _⟩ := h.1 1 _ _ (by rw [show Tryz.prog.globals.size = 2 from by kernel_rfl]; decide) h0
  exact (Array.getElem?_eq_some_iff.1 hh).1
theorem trodAll_below {H : Type} {enc : TypeId × Value → H} {P : Program} (hl : laidOutB P = true) {W W' : World} (hb : Below W.heap.size W W') (ts : List TypeId) : ∀ {vs : List Value} {ds : List (DataW H)} {ps : List MemPlace},
    (ts.all fun t => P.readableRec t && decide (t < P.types.size)) = true → DataW.TrodAll enc P W 0 (fun _ => true) true ts vs ds ps → (∀ x ∈ ps, x.block < W.heap.size) →
    DataW.TrodAll enc P W' 0 (fun b => decide (b < W.heap.size)) true ts vs ds ps := by
  induction ts with
  | nil =>
    intro vs ds ps _ h _
    obtain ⟨rfl, rfl, rfl⟩ := trodAll_nil h
    exact trodAll_mk0
  | cons t ts ih =>
    intro vs ds ps ht h hlt
    obtain ⟨v0, vs0, d0, ds0, p0, q0, rfl, rfl, rfl, h0, r0⟩ := trodAll_cons h
    simp only [List.all_cons, Bool.and_eq_true, decide_eq_true_eq] at ht
    exact trodAll_cons_mk (Below.trod hl ht.1.1 ht.1.2 h0 hb (fun x hx => hlt x (by simp [hx]))) (ih (by simpa using ht.2) r0 (fun x hx => hlt x (by simp [hx])))
theorem law_post {H : Type} {enc : TypeId × Value → H} {f : Func} {s : ChangeSpec} {W W' : World} {args : Array Value} {ds gs : List (DataW H)} {before : List MemPlace}
    (hts : (f.params.toList.all fun t => Tryz.prog.readableRec t && decide (t < Tryz.prog.types.size)) = true) (hr : f.resultTypes = #[4]) (hv : s.vars = [])
    (hs : s.fn H (ds ++ gs) = { results := [.lit (.bool true)], args := ds })
    (hW : DataW.Whole enc Tryz.prog f.params.toList s.vars false W args.toList ds gs before) (hb : Below W.heap.size W W') :
    s.post enc Tryz.prog f false true false false W args (.bool true) W' := by
  have hW' := hW
  have hlt := hW.lt
  obtain ⟨p, q, hA, hV, rfl, hfz, hnd⟩ := hW
  rw [hv] at hV
  obtain ⟨rfl, rfl⟩ := trodVars_none hV
  rw [List.append_nil] at hlt
  refine ⟨ds, [], _, [], p, [], hW', ?_, ?_, ?_, hb.frame _, fun h => by cases h⟩
  · rw [hs, hr]
    exact trodAll_mk1 (shut_bool Tryz.underlying4 _)
  · rw [hs]
    exact trodAll_below laidOut hb _ hts hA hlt
  · rw [hs, hv]
    rfl
theorem lit_u32 {n : Int} (h : (Lit.int .u32 n).wf = true) : 0 ≤ n ∧ n < 4294967296 := by
  simp only [Lit.wf, IntKind.min, IntKind.max, IntKind.signed, IntKind.bits, Bool.and_eq_true] at h
  obtain ⟨h1, h2⟩ := h
  simp at h1 h2
  omega
set_option maxRecDepth 100000 in
theorem open_slice {H : Type} {enc : TypeId × Value → H} {W : World} {fuel : Nat} {held : Bool} {cs0 : List Value} {y0 : DataW H × List MemPlace} {t e : TypeId} {st : Nat} (ht : Tryz.prog.underlying t = some (.slice e)) (hce : Tryz.prog.cellsOf e = st) (hst : 0 < st)
    (hf : DataW.trod enc Tryz.prog W 0 (fun _ => true) held fuel t cs0 = some y0) :
    ∃ (ao : Option Addr) (n cap b off : Nat), cs0 = [.slice ao n cap] ∧ n ≤ cap ∧ (0 < n → ao = some ⟨b, off, none⟩ ∧ b < W.heap.size) ∧
      (∀ k, k < n → ∃ cs m y, W.rangeAt b (off + k * st) cs ∧ DataW.trod enc Tryz.prog W 0 (fun _ => true) held m e cs = some y) ∧ (n = 0 ∨ ∃ elems spare, y0.1 = .slice elems spare ∧ elems.length = n) := by
  rcases DataW.trod_slice ht hf with ⟨hcs, hx⟩ | ⟨a, len, cap', elems, rest, m, rfl, hcs, hx, hb0, hl, hm, hlen, hel, hsp, hns⟩
  · exact ⟨none, 0, 0, 0, 0, hcs, Nat.le_refl _, fun h => absurd h (by decide), fun k hk => absurd hk (by omega), .inl rfl⟩
  · rw [hce] at hel
    have hd : len = 0 ∨ ∃ es sp, y0.1 = .slice es sp ∧ es.length = len := .inr ⟨_, _, by rw [hx], by rw [List.length_map]; exact hlen⟩
    rcases Nat.eq_zero_or_pos len with h0 | hn
    · subst h0
      exact ⟨_, 0, _, 0, 0, hcs, hl, fun h => absurd h (by decide), fun k hk => absurd hk (by omega), .inl rfl⟩
    · have each : ∀ k (hk : k < len), ∃ cs y, W.cells? 0 (a.add (k * st)) st = some cs ∧ DataW.trod enc Tryz.prog W 0 (fun _ => true) held m e cs = some y := fun k hk => by
        have he := hel k hk
        obtain ⟨y, hy⟩ : ∃ y, elems[k]? = some y := ⟨elems[k], List.getElem?_eq_getElem (by omega)⟩
        rw [hy] at he
        obtain ⟨cs, h1, h2⟩ := Option.bind_eq_some_iff.1 he
        exact ⟨cs, y, h1, h2⟩
      obtain ⟨b, off, spot⟩ := a
      have hspot : spot = none := by
        obtain ⟨cs, y, h1, _⟩ := each 0 hn
        have := (World.cells?_some h1).2.2 0 hst
        have hc := (World.cells?_some h1).2.1
        rw [List.getElem?_eq_getElem (by omega)] at this
        simpa [Addr.add] using World.cell?_spot this
      subst hspot
      have hadd : ∀ i j, ((⟨b, off, none⟩ : Addr).add i).add j = ⟨b, off + i + j, none⟩ := fun i j => by rw [Addr.add_mid, Addr.add_mid]
      have hblk : b < W.heap.size := by
        obtain ⟨cs, y, h1, _⟩ := each 0 hn
        have := World.cells?_block h1 hst
        simpa [Addr.add] using this
      refine ⟨_, len, cap', b, off, hcs, hl, fun _ => ⟨rfl, hblk⟩, fun k hk => ?_, hd⟩
      obtain ⟨cs, y, h1, h2⟩ := each k hk
      refine ⟨cs, m, y, fun j v hv => ?_, h2⟩
      have hj : j < st := by have := (List.getElem?_eq_some_iff.1 hv).1; have := (World.cells?_some h1).2.1; omega
      have := (World.cells?_some h1).2.2 j hj
      rw [hadd] at this
      rw [this, hv]
theorem pick {Q : Nat → Int → Prop} (n : Nat) (h : ∀ k, k < n → ∃ x, Q k x) : ∃ f : Nat → Int, ∀ k, k < n → Q k (f k) :=
  ⟨fun k => if hk : k < n then (h k hk).choose else 0, fun k hk => by simp only [hk, dif_pos]; exact (h k hk).choose_spec⟩
theorem pickA {α : Type} [Inhabited α] {Q : Nat → α → Prop} (n : Nat) (h : ∀ k, k < n → ∃ x, Q k x) : ∃ f : Nat → α, ∀ k, k < n → Q k (f k) :=
  ⟨fun k => if hk : k < n then (h k hk).choose else default, fun k hk => by simp only [hk, dif_pos]; exact (h k hk).choose_spec⟩
theorem celOp : Tryz.prog.cellsOf 31 = 5 := by kernel_rfl
theorem bytesOp : Tryz.prog.bytesOf 31 = 24 := by kernel_rfl
set_option maxRecDepth 100000 in
theorem open_op {H : Type} {enc : TypeId × Value → H} {W : World} {b0 fuel : Nat} {sp : Nat → Bool} {held : Bool} {cs : List Value} {y : DataW H × List MemPlace}
    (h : DataW.trod enc Tryz.prog W b0 sp held fuel 31 cs = some y) : ∃ x : Oq, cs = x.cs ∧ W5 x.a x.b x.c x.f := by
  obtain ⟨xs, m, rfl, hy, hlen, hn, hel⟩ := DataW.trod_struct Tryz.underlying31 h
  rw [celOp] at hlen
  have hsz : xs.length = 5 := hn
  match xs, hsz with
  | [x0, x1, x2, x3, x4], _ =>
    have e0 : DataW.trod enc Tryz.prog W b0 sp held m 3 ((cs.drop 0).take (Tryz.prog.cellsOf 3)) = some x0 := hel 0 _ rfl
    have e1 : DataW.trod enc Tryz.prog W b0 sp held m 29 ((cs.drop 1).take (Tryz.prog.cellsOf 29)) = some x1 := hel 1 _ rfl
    have e2 : DataW.trod enc Tryz.prog W b0 sp held m 29 ((cs.drop 2).take (Tryz.prog.cellsOf 29)) = some x2 := hel 2 _ rfl
    have e3 : DataW.trod enc Tryz.prog W b0 sp held m 29 ((cs.drop 3).take (Tryz.prog.cellsOf 29)) = some x3 := hel 3 _ rfl
    have e4 : DataW.trod enc Tryz.prog W b0 sp held m 29 ((cs.drop 4).take (Tryz.prog.cellsOf 29)) = some x4 := hel 4 _ rfl
    rw [celI] at e0
    rw [celW] at e1 e2 e3 e4
    obtain ⟨q0, g0, _, k0⟩ := DataW.trod_int Tryz.underlying3 (show _ = some x0 from e0)
    obtain ⟨q1, g1, _, k1⟩ := DataW.trod_int Tryz.underlying29 (show _ = some x1 from e1)
    obtain ⟨q2, g2, _, k2⟩ := DataW.trod_int Tryz.underlying29 (show _ = some x2 from e2)
    obtain ⟨q3, g3, _, k3⟩ := DataW.trod_int Tryz.underlying29 (show _ = some x3 from e3)
    obtain ⟨q4, g4, _, k4⟩ := DataW.trod_int Tryz.underlying29 (show _ = some x4 from e4)
    refine ⟨⟨q0, q1, q2, q3, q4⟩, ?_, ⟨(lit_u32 k1).1, (lit_u32 k1).2, (lit_u32 k2).1, (lit_u32 k2).2, (lit_u32 k3).1, (lit_u32 k3).2, (lit_u32 k4).1, (lit_u32 k4).2⟩⟩
    match cs, hlen with
    | [c0, c1, c2, c3, c4], _ =>
      simp at g0 g1 g2 g3 g4
      rw [g0, g1, g2, g3, g4]
      rfl
set_option maxRecDepth 100000 in
theorem open_ops {H : Type} {enc : TypeId × Value → H} {W : World} {base : Nat} {held : Bool} {v : Value} {d : DataW H} {p : List MemPlace}
    (hv : Value.okWide Tryz.prog W .any base 24 v) (h : DataW.Trod enc Tryz.prog W 0 (fun _ => true) held 24 v d p) :
    ∃ (ao : Option Addr) (n cp : Nat) (q : Nat → Oq), v = .slice ao n cp ∧ OpsAt W ao n q ∧ (n = 0 ∨ ∃ elems spare, d = .slice elems spare ∧ elems.length = n) := by
  obtain ⟨ao, n, cp, rfl⟩ := okWide_slice Tryz.underlying24 hv
  obtain ⟨fuel, hf⟩ := h
  obtain ⟨ao', n', cp', b, off, hcs, _, hao, hk, hd⟩ := open_slice Tryz.underlying24 celOp (by decide) hf
  simp only [Value.cells, List.cons.injEq, Value.slice.injEq, and_true] at hcs
  obtain ⟨rfl, rfl, rfl⟩ := hcs
  obtain ⟨F, hF⟩ := pickA (α := Oq) (Q := fun k x => W.rangeAt b (off + k * 5) x.cs ∧ W5 x.a x.b x.c x.f) n fun k hkn => by
    obtain ⟨cs, m, y, h1, h2⟩ := hk k hkn
    obtain ⟨x, rfl, hx⟩ := open_op h2
    exact ⟨x, h1, hx⟩
  exact ⟨ao, n, cp, F, rfl, ⟨fun hn => ⟨b, off, (hao hn).1, (hao hn).2, fun j hj => (hF j hj).1⟩, fun j hj => (hF j hj).2⟩, hd⟩
theorem cel23 : Tryz.prog.cellsOf 23 = 2 := by kernel_rfl
set_option maxRecDepth 100000 in
theorem open_mach {H : Type} {enc : TypeId × Value → H} {W : World} {base : Nat} {held : Bool} {v : Value} {d : DataW H} {p : List MemPlace}
    (hv : Value.okWide Tryz.prog W .any base 23 v) (h : DataW.Trod enc Tryz.prog W 0 (fun _ => true) held 23 v d p) :
    ∃ a b : Int, v = .agg #[.int .i64 a, .int .i64 b] := by
  obtain ⟨cs, rfl, hsz, _⟩ : ∃ cs, v = .agg cs ∧ cs.size = Tryz.prog.cellsOf 23 ∧ Row.okWide Tryz.prog W .any base 23 cs := by
    simpa [Value.okWide, Tryz.underlying23] using hv
  obtain ⟨fuel, hf⟩ := h
  obtain ⟨xs, m, rfl, hy, hlen, hn, hel⟩ := DataW.trod_struct Tryz.underlying23 hf
  obtain ⟨cs⟩ := cs
  have hlen' : cs.length = 2 := by simpa [cel23] using hsz
  have hsz' : xs.length = 2 := hn
  match xs, hsz' with
  | [x0, x1], _ =>
    have e0 : DataW.trod enc Tryz.prog W 0 (fun _ => true) held m 3 ((cs.drop 0).take (Tryz.prog.cellsOf 3)) = some x0 := hel 0 _ rfl
    have e1 : DataW.trod enc Tryz.prog W 0 (fun _ => true) held m 3 ((cs.drop 1).take (Tryz.prog.cellsOf 3)) = some x1 := hel 1 _ rfl
    rw [celI] at e0 e1
    obtain ⟨q0, g0, _, _⟩ := DataW.trod_int Tryz.underlying3 (show _ = some x0 from e0)
    obtain ⟨q1, g1, _, _⟩ := DataW.trod_int Tryz.underlying3 (show _ = some x1 from e1)
    match cs, hlen' with
    | [c0, c1], _ =>
      simp at g0 g1
      exact ⟨q0, q1, by rw [g0, g1]⟩
end Go.Proofs.YtllcbgdcepfdkaaGreatDoor
