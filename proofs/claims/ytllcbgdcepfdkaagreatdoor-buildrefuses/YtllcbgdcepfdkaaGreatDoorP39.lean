import Derived.Test.YtllcbgdcepfdkaaGreatDoorP38
import Derived.Tactics
import Derived.Tactics2
import Derived.Defers
import Derived.Recover
import Derived.Laws.Pointers
namespace Go.Proofs.YtllcbgdcepfdkaaGreatDoor
open Go.RowKit
set_option maxRecDepth 100000
set_option maxHeartbeats 4000000
theorem DS.Sim.wc {d e : DS} (h : DS.Sim d e) : e = { d with m := { d.m with c := e.m.c } } := by
  obtain ⟨⟨c, ns, P⟩, b, E⟩ := d
  obtain ⟨⟨c', ns', P'⟩, b', E'⟩ := e
  obtain ⟨h1, h2, h3, h4⟩ := h
  simp only at h1 h2 h3 h4
  subst h1 h2 h3 h4
  rfl
theorem DS.Sim.takeE {d e : DS} (h : DS.Sim d e) (q t s : Int) : e.takeE q t s = d.takeE q t s := by unfold DS.takeE DS.more; rw [h.entE, h.ent, h.ent]
theorem DS.Sim.bearE {d e : DS} (h : DS.Sim d e) (s f : Int) : e.bearE s f = d.bearE s f := by unfold DS.bearE; rw [h.entE, h.entE, h.ent, h.ent, h.b]
theorem DS.Sim.lay {d e : DS} (h : DS.Sim d e) (k : Nat) (x : En) : DS.Sim (d.lay k x) (e.lay k x) := ⟨by unfold DS.lay; simp only [h.E], h.b, h.ns, h.P⟩
theorem DS.Sim.take {d e : DS} (h : DS.Sim d e) (q t s : Int) : DS.Sim (d.take q t s) (e.take q t s) := by
  unfold DS.take
  rw [h.takeE]
  split
  · unfold DS.taken DS.cnt
    have := (h.lay q.toNat (enT t s))
    rw [this.at]
    exact this.lay _ _
  · exact h
theorem MS.write_sim (m : MS) (c : Int) (s : Bool) (q o v : Int) : (MS.write { m with c := c } s q o v).ns = (m.write s q o v).ns ∧ (MS.write { m with c := c } s q o v).P = (m.write s q o v).P := by
  unfold MS.write
  rw [show MS.at { m with c := c } s q = m.at s q from rfl]
  split
  · exact ⟨rfl, rfl⟩
  · split <;> exact ⟨rfl, rfl⟩
theorem MS.zero_sim (m : MS) (c : Int) (s : Bool) (q : Int) : (MS.zero { m with c := c } s q).ns = (m.zero s q).ns ∧ (MS.zero { m with c := c } s q).P = (m.zero s q).P := by
  unfold MS.zero
  rw [show MS.at { m with c := c } s q = m.at s q from rfl]
  split <;> exact ⟨rfl, rfl⟩
theorem DS.Sim.write {d e : DS} (h : DS.Sim d e) (s : Bool) (q o v : Int) : DS.Sim { d with m := d.m.write s q o v } { e with m := e.m.write s q o v } := by
  rw [h.wc]
  have := MS.write_sim d.m e.m.c s q o v
  exact ⟨rfl, rfl, this.1, this.2⟩
theorem DS.Sim.wr {d e : DS} (h : DS.Sim d e) (q o v : Int) : DS.Sim (d.wr q o v) (e.wr q o v) := h.write true q o v
theorem DS.Sim.dig {d e : DS} (h : DS.Sim d e) (s : Int) (L : List Int) : ∀ j, DS.Sim (d.dig s L j) (e.dig s L j)
  | 0 => h
  | j + 1 => (DS.Sim.dig h s L j).wr _ _ _
theorem DS.Sim.wipe {d e : DS} (h : DS.Sim d e) (q : Int) : DS.Sim (d.wipe q) (e.wipe q) := by
  rw [h.wc]
  have := MS.zero_sim d.m e.m.c true q
  exact ⟨rfl, rfl, this.1, this.2⟩
theorem DS.Sim.own {d e : DS} (h : DS.Sim d e) (s q k : Int) : e.own s q k = d.own s q k := by unfold DS.own; rw [h.ent]
theorem DS.Sim.preE {d e : DS} (h : DS.Sim d e) (s : Int) : e.preE s = d.preE s := by unfold DS.preE; rw [h.entE, h.ent]
theorem DS.Sim.fst {d e : DS} (h : DS.Sim d e) (s : Int) : e.fst s = d.fst s := h.word _ _ _
theorem DS.Sim.folE {d e : DS} (h : DS.Sim d e) (s : Int) : e.folE s = d.folE s := by unfold DS.folE; rw [h.preE, h.fst, h.own]
theorem DS.Sim.w1 {d e : DS} (h : DS.Sim d e) (s va : Int) : e.w1 s va = d.w1 s va := by unfold DS.w1; rw [h.fst, h.word]
theorem DS.Sim.isS {d e : DS} (h : DS.Sim d e) (s w : Int) : e.isS s w = d.isS s w := by unfold DS.isS; rw [h.own]
theorem DS.Sim.fndE {d e : DS} (h : DS.Sim d e) (s va : Int) : e.fndE s va = d.fndE s va := by unfold DS.fndE; rw [h.folE, h.w1, h.isS]
theorem DS.Sim.w2 {d e : DS} (h : DS.Sim d e) (s va : Int) : e.w2 s va = d.w2 s va := by unfold DS.w2; rw [h.w1, h.word]
theorem DS.Sim.slotE {d e : DS} (h : DS.Sim d e) (s va : Int) : e.slotE s va = d.slotE s va := by unfold DS.slotE; rw [h.fndE, h.w2]
theorem DS.Sim.putE {d e : DS} (h : DS.Sim d e) (s va : Int) (m : Mp) : e.putE s va m = d.putE s va m := by unfold DS.putE; rw [h.fndE, h.w2]
theorem DS.Sim.addE {d e : DS} (h : DS.Sim d e) (s i q : Int) : e.addE s i q = d.addE s i q := by unfold DS.addE; rw [h.folE, h.entE, h.own, h.fst, h.word]
theorem DS.Sim.ntC {d e : DS} (h : DS.Sim d e) (s i : Int) : e.ntC s i = d.ntC s i := by unfold DS.ntC; rw [h.folE, h.fst, h.word]
theorem DS.Sim.ni {d e : DS} (h : DS.Sim d e) : e.ni = d.ni := by unfold DS.ni; rw [h.ns, h.P]
/-- A place is filled, but for the meter. -/
def DS.putS (d : DS) (s va : Int) (m : Mp) : DS := if d.putE s va m = 0 then d.wr (pf (d.w1 s va)) (spJ va) m.enc else d
def DS.addS (d : DS) (s i q : Int) : DS := if d.addE s i q = 0 then d.wr (d.fst s) i (fW q) else d
theorem DS.Sim.put (d : DS) (s va : Int) (m : Mp) : DS.Sim (d.putS s va m) (d.put s va m) := by
  unfold DS.putS DS.put DS.putE
  by_cases h1 : d.fndE s va = 0
  · simp only [if_pos h1]
    unfold DS.tn filW filE
    by_cases h2 : d.w2 s va = 0
    · simp only [if_pos h2]
      split
      · exact ((DS.Sim.fndD d s va).trans (.rd _ _ _)).wr _ _ _
      · exact (DS.Sim.fndD d s va).trans (.rd _ _ _)
    · simp only [if_neg h2, if_neg (show ¬ (140 : Int) = 0 by decide)]
      exact (DS.Sim.fndD d s va).trans (.rd _ _ _)
  · simp only [if_neg h1]
    exact .fndD d s va
theorem DS.Sim.add (d : DS) (s i q : Int) : DS.Sim (d.addS s i q) (d.add s i q) := by
  unfold DS.addS DS.add DS.addE
  by_cases h1 : d.folE s = 0
  · by_cases h2 : 0 ≤ i ∧ i < 256
    · by_cases h3 : d.entE q = 0
      · by_cases h4 : d.own s q 4 = true
        · simp only [if_pos h1, if_pos h2, if_pos h3, if_pos h4, if_pos (show d.folE s = 0 ∧ (0 ≤ i ∧ i < 256) ∧ d.entE q = 0 ∧ d.own s q 4 = true from ⟨h1, h2, h3, h4⟩)]
          unfold DS.tn filW filE
          by_cases h5 : d.m.word true (d.fst s) i = 0
          · simp only [if_pos h5]
            split
            · exact ((DS.Sim.folD d s).trans (.rd _ _ _)).wr _ _ _
            · exact (DS.Sim.folD d s).trans (.rd _ _ _)
          · simp only [if_neg h5, if_neg (show ¬ (140 : Int) = 0 by decide)]
            exact (DS.Sim.folD d s).trans (.rd _ _ _)
        · simp only [if_pos h1, if_pos h2, if_pos h3, if_neg h4, if_neg (show ¬ (124 : Int) = 0 by decide), if_neg (show ¬ (d.folE s = 0 ∧ (0 ≤ i ∧ i < 256) ∧ d.entE q = 0 ∧ d.own s q 4 = true) from fun h => h4 h.2.2.2)]
          exact .folD d s
      · simp only [if_pos h1, if_pos h2, if_neg h3, if_neg (show ¬ (d.folE s = 0 ∧ (0 ≤ i ∧ i < 256) ∧ d.entE q = 0 ∧ d.own s q 4 = true) from fun h => h3 h.2.2.1)]
        exact .folD d s
    · simp only [if_pos h1, if_neg h2, if_neg (show ¬ (4 : Int) = 0 by decide), if_neg (show ¬ (d.folE s = 0 ∧ (0 ≤ i ∧ i < 256) ∧ d.entE q = 0 ∧ d.own s q 4 = true) from fun h => h2 h.2.1)]
      exact .folD d s
  · simp only [if_neg h1, if_neg (show ¬ (d.folE s = 0 ∧ (0 ≤ i ∧ i < 256) ∧ d.entE q = 0 ∧ d.own s q 4 = true) from fun h => h1 h.1)]
    exact .folD d s
theorem DS.Sim.putS {d e : DS} (h : DS.Sim d e) (s va : Int) (m : Mp) : DS.Sim (d.putS s va m) (e.putS s va m) := by
  unfold DS.putS
  rw [h.putE, h.w1]
  split
  · exact h.wr _ _ _
  · exact h
theorem DS.Sim.addS {d e : DS} (h : DS.Sim d e) (s i q : Int) : DS.Sim (d.addS s i q) (e.addS s i q) := by
  unfold DS.addS
  rw [h.addE, h.fst]
  split
  · exact h.wr _ _ _
  · exact h
end Go.Proofs.YtllcbgdcepfdkaaGreatDoor
namespace Go.Proofs.YtllcbgdcepfdkaaGreatDoor
open Go.RowKit
set_option maxRecDepth 100000
set_option maxHeartbeats 8000000
instance (s : List Int) : Decidable (H.LoadOk s) := by unfold H.LoadOk; exact inferInstance
theorem DG.push {W w : World} {p : Dp} {d : DS} {G : List Nat} {L : List (Nat × TypeId × List Value)} (h : DG W w p d G L) {g : Nat} {t : TypeId} {cs : List Value} (hc : Cel w g t cs) (hg : W.heap.size ≤ g) : DG W w p d G ((g, t, cs) :: L) :=
  ⟨h.db, h.but, fun q hq => by rcases List.mem_cons.1 hq with rfl | hq; exact hc; exact h.bag q hq, fun q hq => by rcases List.mem_cons.1 hq with rfl | hq; exact hg; exact h.off q hq, h.old, h.G⟩
theorem Dp.fw_w (p : Dp) : ∀ k ∈ p.f.w, k ∈ p.w := fun _ hk => List.mem_cons_of_mem _ hk
theorem Dp.w_all' (p : Dp) : ∀ k ∈ p.w, k ∈ p.all := fun _ hk => Dp.w_all hk
theorem DG.memp {W w w2 : World} {p : Dp} {d : DS} {L : List (Nat × TypeId × List Value)} {m' : MS} (h : DG W w p d p.w L) (hm : Mem w2 p.f m') (hb : ButL p.f.w w w2) (hn : m'.ns = d.m.ns) : DG W w2 p { d with m := m' } p.w L := h.step (h.db.memory hm hb hn) hb p.fw_w
theorem DG.notin {W w : World} {p : Dp} {d : DS} {G : List Nat} {L : List (Nat × TypeId × List Value)} (h : DG W w p d G L) {g : Nat} (hg : W.heap.size ≤ g) : g ∉ p.f.w := fun hm => by have := h.old g (Dp.w_all (p.fw_w g hm)); omega
theorem DG.low {W w : World} {p : Dp} {d : DS} {G : List Nat} {L : List (Nat × TypeId × List Value)} (h : DG W w p d G L) : W.heap.size ≤ w.heap.size := h.but.size
theorem extended_ok (W : World) (p : Dp) (d : DS) (h : DB W p d) (hU : d.m.U) (hG : Gl W p) (s : Int) (o : Q.MOp) (ho : o.Ok) (ao : Option Addr) (c : Nat) (hat : ∀ w, ButL p.f.w W w → H.At w .u32 ao o.ws) (hk : H.LoadOk (d.st s)) :
    Calls Tryz.prog 156 #[stV p s, o.v ao c] W fun e W' => ∃ d' g, e = .returned (.slice (some ⟨g, 0, none⟩) 26 26) ∧ DS.Sim d d' ∧ DB W' p d' ∧ ButL p.f.w W W' ∧ W.heap.size ≤ g ∧ Cel W' g 59 (u32s (Q.exS (d.st s) o.wds)) :=
  (extended_any W p d h hU hG s o ho ao c hat).mono fun e W' ⟨d', h1, h2, h3, h4⟩ => by
    rcases h4 with ⟨_, g, he, hg, hc⟩ | ⟨hn, _⟩
    · exact ⟨d', g, he, h1, h2, h3, hg, hc⟩
    · exact absurd hk hn
theorem extended_no (W : World) (p : Dp) (d : DS) (h : DB W p d) (hU : d.m.U) (hG : Gl W p) (s : Int) (o : Q.MOp) (ho : o.Ok) (ao : Option Addr) (c : Nat) (hat : ∀ w, ButL p.f.w W w → H.At w .u32 ao o.ws) (hk : ¬ H.LoadOk (d.st s)) :
    Calls Tryz.prog 156 #[stV p s, o.v ao c] W fun e W' => ∃ d', e = .panicked (pn 4) ∧ DS.Sim d d' ∧ DB W' p d' ∧ ButL p.f.w W W' :=
  (extended_any W p d h hU hG s o ho ao c hat).mono fun e W' ⟨d', h1, h2, h3, h4⟩ => by
    rcases h4 with ⟨hn, _⟩ | ⟨_, he⟩
    · exact absurd hn hk
    · exact ⟨d', he, h1, h2, h3⟩
theorem okK (k v : Int) (h1 : 1 ≤ k) (h2 : k ≤ 4) (h3 : 0 = Q.pgN k) : Q.MOp.Ok ⟨k, v, []⟩ := ⟨h1, h2, h3⟩
theorem built54 (k : Int) (a : Int) : Tryz.prog.built 54 [(0, .int .i64 k), (1, .int .u32 a)] = some #[.int .i64 k, .int .u32 a, .slice none 0 0] := by kernel_rfl
/-- The code of a thread's call, and what it does. -/
def DS.thC (d : DS) (s q : Int) : Int := if (d.m.ns : Int) ≤ q then 1 else if (d.ent q).t = 0 then (if H.LoadOk (d.st s) then (if d.takeE q 2 s = 0 then 0 else 2) else 4) else 2
def DS.thD (d : DS) (s q v : Int) : DS := ((d.take q 2 s).wr q 0 v).dig s (Q.exS (d.st s) [1, v]) 26
theorem addThread_any (W : World) (p : Dp) (d : DS) (h : DB W p d) (hU : d.m.U) (hG : Gl W p) (s q v : Int) (q0 : 0 ≤ q) :
    Calls Tryz.prog 83 #[stV p s, .int .u32 q, .int .u32 v] W fun e W' => ∃ d', e = (if d.thC s q = 0 then .returned (.tuple #[]) else .panicked (pn (d.thC s q))) ∧ DS.Sim (if d.thC s q = 0 then d.thD s q v else d) d' ∧ DB W' p d' ∧ ButL p.w W W' := by
  have hC : d.thC s q = if (d.m.ns : Int) ≤ q then 1 else if (d.ent q).t = 0 then (if H.LoadOk (d.st s) then (if d.takeE q 2 s = 0 then 0 else 2) else 4) else 2 := rfl
  have D0 := hid ((DG.startp h).new 148 (stC p s))
  have HGl := hid (fun w L d' (k : DG W w p d' p.w L) => hG.step k.but p.w_all')
  have HS0 := hid (DS.Sim.refl d)
  by_cases a1 : (d.m.ns : Int) ≤ q
  · have HSp := hid (fun w (hw : DB w p d) => secureP_no w p d hw q a1)
    rw [hC, if_pos a1, if_neg (by decide), if_neg (by decide)]
    clear h hC a1 hU hG q0
    simp only [stV, stC, ptr] at *
    go_enter Tryz.func83, Tryz.ntmps83
    go_upto_region 1 with fail
    generalize World.alloc _ _ = X at *
    generalize hg3 : W.heap.size = g3 at D0 ⊢
    have HG3 := hid hg3
    clear hg3
    have c0 := (D0.out.get 0 rfl).cell 0
    have c1 := (D0.out.get 0 rfl).cell 1
    simp only [List.getElem?_cons_zero, List.getElem?_cons_succ] at c0 c1
    go_wp2_with (first | (go_at_call 151; refine (HSp.out _ D0.out.db).mono ?_; rintro e w1 ⟨rfl, rfl⟩))
    exact ⟨rfl, d, rfl, HS0.out, D0.out.db, D0.out.but⟩
  have HSp := hid (fun w (hw : DB w p d) => secureP_yes w p d hw q q0 (by omega))
  have HFr := hid (fun w (hw : DB w p d) => isFree_any w p d hw q)
  rw [hC, if_neg a1]
  clear hC a1
  by_cases a2 : (d.ent q).t = 0
  rotate_left
  · rw [if_neg a2, if_neg (by decide), if_neg (by decide)]
    rw [decide_eq_false a2] at HFr
    clear h a2 hU hG q0
    simp only [stV, stC, ptr, inE, Bool.false_eq_true, if_false] at *
    go_enter Tryz.func83, Tryz.ntmps83
    go_upto_region 1 with fail
    generalize World.alloc _ _ = X at *
    generalize hg3 : W.heap.size = g3 at D0 ⊢
    have HG3 := hid hg3
    clear hg3
    have c0 := (D0.out.get 0 rfl).cell 0
    have c1 := (D0.out.get 0 rfl).cell 1
    simp only [List.getElem?_cons_zero, List.getElem?_cons_succ] at c0 c1
    go_wp2_with (first | (go_at_call 151; refine (HSp.out _ D0.out.db).mono ?_; rintro e w1 ⟨rfl, rfl⟩) | (go_at_call 153; refine (HFr.out _ D0.out.db).mono ?_; rintro e w1 ⟨rfl, hb⟩; have D1 := hid (D0.out.on hb); clear hb))
    exact ⟨rfl, d, rfl, HS0.out, D1.out.db, D1.out.but⟩
  rw [if_pos a2]
  rw [decide_eq_true a2] at HFr
  clear a2
  by_cases a3 : H.LoadOk (d.st s)
  rotate_left
  · rw [if_neg a3, if_neg (by decide), if_neg (by decide)]
    have HX := hid (fun w (hw : DB w p d) (hg : Gl w p) => extended_no w p d hw hU hg s ⟨1, v, []⟩ (okK 1 v (by decide) (by decide) rfl) none 0 (fun _ _ => .inl rfl) a3)
    clear h a3 hU hG q0
    simp only [stV, stC, ptr, inE, if_true, Q.MOp.v, List.length_nil] at *
    go_enter Tryz.func83, Tryz.ntmps83
    go_upto_region 1 with fail
    generalize World.alloc _ _ = X at *
    generalize hg3 : W.heap.size = g3 at D0 ⊢
    have HG3 := hid hg3
    clear hg3
    have c0 := (D0.out.get 0 rfl).cell 0
    have c1 := (D0.out.get 0 rfl).cell 1
    simp only [List.getElem?_cons_zero, List.getElem?_cons_succ] at c0 c1
    go_upto_region 3 with (first | (go_at_call 151; refine (HSp.out _ D0.out.db).mono ?_; rintro e w1 ⟨rfl, rfl⟩) | (go_at_call 153; refine (HFr.out _ D0.out.db).mono ?_; rintro e w1 ⟨rfl, hb⟩; have D1 := hid (D0.out.on hb); clear hb c0 c1))
    go_wp2_with (first | (refine wpList_load_gm rfl 148 _ rfl g3 0 rfl _ _ (D1.out.get 0 rfl).range under148 rfl size148 ?_) | (refine wpList_build_f rfl 54 _ rfl _ rfl _ (built54 1 v) ?_) | (go_at_call 156; refine (HX.out _ D1.out.db (HGl.out _ _ _ D1.out)).mono ?_; rintro e w2 ⟨d1, rfl, hs1, hd1, hb1⟩; have D2 := hid (D1.out.step hd1 hb1 p.fw_w); have S2 := hid hs1; clear hs1 hd1 hb1))
    exact ⟨rfl, d1, rfl, S2.out, D2.out.db, D2.out.but⟩
  rw [if_pos a3]
  have HX := hid (fun w (hw : DB w p d) (hg : Gl w p) => extended_ok w p d hw hU hg s ⟨1, v, []⟩ (okK 1 v (by decide) (by decide) rfl) none 0 (fun _ _ => .inl rfl) a3)
  have hXl : (Q.exS (d.st s) [1, v]).length = 26 := Q.exS_len (d.st_length s)
  have HT := hid (fun w e (hs : DS.Sim d e) (hw : DB w p e) => (by have := stake_any w p e hw s q 2; rw [hs.takeE] at this; exact this : Calls Tryz.prog 157 #[stV p s, .int .i64 q, .int .i64 2] w fun x w' => x = inE (decide (d.takeE q 2 s = 0)) 2 ∧ DB w' p (e.take q 2 s) ∧ ButL p.w w w'))
  have HTs := hid (fun e (hs : DS.Sim d e) => hs.take q 2 s)
  have HDt : Hid (d.thD s q v = ((d.take q 2 s).wr q 0 v).dig s (Q.exS (d.st s) [1, v]) 26) := hid rfl
  have HTn := hid (fun (e : DS) (hs : DS.Sim d e) (hn : ¬ d.takeE q 2 s = 0) => (show DS.Sim d (e.take q 2 s) from by rw [DS.take, hs.takeE, if_neg hn]; exact hs))
  clear a3
  by_cases a4 : d.takeE q 2 s = 0
  rotate_left
  · rw [if_neg a4, if_neg (by decide), if_neg (by decide)]
    rw [decide_eq_false a4] at HT
    have HTm := hid (fun e hs => HTn.out e hs a4)
    clear h hU hG q0 HTs HDt HTn a4
    simp only [stV, stC, ptr, inE, if_true, Bool.false_eq_true, if_false, Q.MOp.v, Q.MOp.wds, List.length_nil] at *
    generalize Q.exS (d.st s) [1, v] = XS at *
    go_enter Tryz.func83, Tryz.ntmps83
    go_upto_region 1 with fail
    generalize World.alloc _ _ = X at *
    generalize hg3 : W.heap.size = g3 at D0 ⊢
    have HG3 := hid hg3
    clear hg3
    have c0 := (D0.out.get 0 rfl).cell 0
    have c1 := (D0.out.get 0 rfl).cell 1
    simp only [List.getElem?_cons_zero, List.getElem?_cons_succ] at c0 c1
    go_upto_region 3 with (first | (go_at_call 151; refine (HSp.out _ D0.out.db).mono ?_; rintro e w1 ⟨rfl, rfl⟩) | (go_at_call 153; refine (HFr.out _ D0.out.db).mono ?_; rintro e w1 ⟨rfl, hb⟩; have D1 := hid (D0.out.on hb); clear hb c0 c1))
    go_upto_region 4 with (first | (refine wpList_load_gm rfl 148 _ rfl g3 0 rfl _ _ (D1.out.get 0 rfl).range under148 rfl size148 ?_) | (refine wpList_build_f rfl 54 _ rfl _ rfl _ (built54 1 v) ?_) | (go_at_call 156; refine (HX.out _ D1.out.db (HGl.out _ _ _ D1.out)).mono ?_; rintro e w2 ⟨d1, gx, rfl, hs1, hd1, hb1, hg1, hc1⟩; have D2 := hid (D1.out.step hd1 hb1 p.fw_w); have S2 := hid hs1; have HN := hid (Nat.le_trans D1.out.low hg1); have D3 := hid (D2.out.push hc1 HN.out); clear hs1 hd1 hb1 hg1 hc1))
    clear D1 D2
    go_wp2_with (first | (refine wpList_load_gm rfl 148 _ rfl g3 0 rfl _ _ (D3.out.get 1 rfl).range under148 rfl size148 ?_) | (go_at_call 157; refine (HT.out _ _ S2.out D3.out.db).mono ?_; rintro e w3 ⟨rfl, hd1, hb1⟩; have D4 := hid (D3.out.step hd1 hb1 (fun _ hk => hk)); clear hd1 hb1))
    exact ⟨rfl, _, rfl, HTm.out _ S2.out, D4.out.db, D4.out.but⟩
  · rw [if_pos a4, if_pos rfl, if_pos rfl, HDt.out]
    rw [decide_eq_true a4] at HT
    have HMm := hid (fun w e (hw : DB w p e) => memory_any w p e hw)
    have HSf := hid (fun w => sframe_any w q)
    have HWr := hid (fun w e (hw : DB w p e) => write_any w p.f e.m hw.mem true q 0 v)
    have HLd := hid (fun w e g L (hw : DB w p e) (hL : L.length = 26) (hc : Cel w g 59 (u32s L)) (hg : g ∉ p.f.w) => layDigest_any w p e hw s g L hL hc hg)
    have HDg := hid (fun (e f : DS) L (hs : DS.Sim e f) => (hs.wr q 0 v).dig s L 26)
    clear h hU hG q0 HDt HTn a4
    simp only [stV, stC, ptr, fr, inE, if_true, Q.MOp.v, Q.MOp.wds, List.length_nil] at *
    generalize Q.exS (d.st s) [1, v] = XS at *
    go_enter Tryz.func83, Tryz.ntmps83
    go_upto_region 1 with fail
    generalize World.alloc _ _ = X at *
    generalize hg3 : W.heap.size = g3 at D0 ⊢
    have HG3 := hid hg3
    clear hg3
    have c0 := (D0.out.get 0 rfl).cell 0
    have c1 := (D0.out.get 0 rfl).cell 1
    simp only [List.getElem?_cons_zero, List.getElem?_cons_succ] at c0 c1
    go_upto_region 3 with (first | (go_at_call 151; refine (HSp.out _ D0.out.db).mono ?_; rintro e w1 ⟨rfl, rfl⟩) | (go_at_call 153; refine (HFr.out _ D0.out.db).mono ?_; rintro e w1 ⟨rfl, hb⟩; have D1 := hid (D0.out.on hb); clear hb c0 c1))
    go_upto_region 4 with (first | (refine wpList_load_gm rfl 148 _ rfl g3 0 rfl _ _ (D1.out.get 0 rfl).range under148 rfl size148 ?_) | (refine wpList_build_f rfl 54 _ rfl _ rfl _ (built54 1 v) ?_) | (go_at_call 156; refine (HX.out _ D1.out.db (HGl.out _ _ _ D1.out)).mono ?_; rintro e w2 ⟨d1, gx, rfl, hs1, hd1, hb1, hg1, hc1⟩; have D2 := hid (D1.out.step hd1 hb1 p.fw_w); have S2 := hid hs1; have HN := hid (Nat.le_trans D1.out.low hg1); have D3 := hid (D2.out.push hc1 HN.out); clear hs1 hd1 hb1 hg1 hc1))
    clear D1 D2
    go_upto_region 5 with (first | (refine wpList_load_gm rfl 148 _ rfl g3 0 rfl _ _ (D3.out.get 1 rfl).range under148 rfl size148 ?_) | (go_at_call 157; refine (HT.out _ _ S2.out D3.out.db).mono ?_; rintro e w3 ⟨rfl, hd1, hb1⟩; have D4 := hid (D3.out.step hd1 hb1 (fun _ hk => hk)); have S4 := hid (HTs.out _ S2.out); have c0 := (D4.out.get 1 rfl).cell 0; simp only [List.getElem?_cons_zero] at c0; clear hd1 hb1))
    clear D3
    go_upto_region 6 with (first | (go_at_call 25; refine (HMm.out _ _ D4.out.db).mono ?_; rintro e w4 ⟨rfl, rfl⟩) | (go_at_call 158; refine (HSf.out _).mono ?_; rintro e w5 ⟨rfl, hb⟩; have D5 := hid (D4.out.on hb); clear hb c0) | (go_at_call 32; refine (HWr.out _ _ D5.out.db).mono ?_; rintro e w6 ⟨rfl, hm, hb⟩; have D6 := hid (D5.out.memp hm hb (MS.write_ns ..)); clear hm hb))
    go_wp2_with (first | (refine wpList_load_gm rfl 148 _ rfl g3 0 rfl _ _ (D6.out.get 1 rfl).range under148 rfl size148 ?_) | (go_at_call 155; refine (HLd.out _ _ _ XS D6.out.db hXl (D6.out.get 0 rfl) (D6.out.notin HN.out)).mono ?_; rintro e w7 ⟨rfl, hd1, hb1⟩; have D7 := hid (D6.out.step hd1 hb1 p.fw_w); clear hd1 hb1))
    go_returns
    exact ⟨_, rfl, HDg.out _ _ XS S4.out, D7.out.db, D7.out.but⟩
end Go.Proofs.YtllcbgdcepfdkaaGreatDoor
namespace Go.Proofs.YtllcbgdcepfdkaaGreatDoor
open Go.RowKit
set_option maxRecDepth 100000
set_option maxHeartbeats 4000000
theorem catch78 (a : Addr) (x c : Int) (w : World) (hc : w.cell? a = some (.int .u32 x)) (hz : w.frozen? a = false) :
    CallsD Tryz.prog 78 #[.pointer (some a)] (.panicking (pn c)) w fun e u' w' =>
      e = .returned (.tuple #[]) ∧ u' = .panicking [{ v := .iface 77 (.int .u32 c), recovered := true }] ∧ w' = w.setCell a (.int .u32 c) := by
  refine callsD_of_wpS Tryz.func78 rfl fun c₀ cs hu => ?_
  apply wpS_seq
  apply wpS_region
  simp [wpOpsS, go_sem, recoverD, hu, Tryz.ntmps78, Exit.thenS, pn]
  refine wpS_of_wp ?_
  show Code.wp Tryz.prog _ _ { tmps := #[.pointer (some a), .iface 77 (.int .u32 c), .iface 77 (.int .u32 c), undef, undef, undef, undef], defers := [] } w
  go_wp2_with (first | (go_at_call 79; refine (codeOf_any _ c).mono ?_; rintro e w1 ⟨rfl, rfl⟩))
  simp [bodyPostS, results, Tryz.results78]
theorem idle78 (a : Addr) (w : World) :
    CallsD Tryz.prog 78 #[.pointer (some a)] .returning w fun e u' w' => e = .returned (.tuple #[]) ∧ u' = .returning ∧ w' = w := by
  refine callsD_of_wpS Tryz.func78 rfl fun c₀ cs hu => ?_
  apply wpS_seq
  apply wpS_region
  simp [wpOpsS, go_sem, recoverD, hu, Tryz.ntmps78, Exit.thenS]
  refine wpS_of_wp ?_
  show Code.wp Tryz.prog _ _ { tmps := #[.pointer (some a), .nilIface, .nilIface, undef, undef, undef, undef], defers := [] } w
  go_wp2_with fail
  cases c₀
  simp_all [bodyPostS, results, Tryz.results78]
theorem catch81 (a : Addr) (x c : Int) (w : World) (hc : w.cell? a = some (.int .u32 x)) (hz : w.frozen? a = false) :
    CallsD Tryz.prog 81 #[.pointer (some a)] (.panicking (pn c)) w fun e u' w' =>
      e = .returned (.tuple #[]) ∧ u' = .panicking [{ v := .iface 77 (.int .u32 c), recovered := true }] ∧ w' = w.setCell a (.int .u32 c) := by
  refine callsD_of_wpS Tryz.func81 rfl fun c₀ cs hu => ?_
  apply wpS_seq
  apply wpS_region
  simp [wpOpsS, go_sem, recoverD, hu, Tryz.ntmps81, Exit.thenS, pn]
  refine wpS_of_wp ?_
  show Code.wp Tryz.prog _ _ { tmps := #[.pointer (some a), .iface 77 (.int .u32 c), .iface 77 (.int .u32 c), undef, undef, undef, undef], defers := [] } w
  go_wp2_with (first | (go_at_call 79; refine (codeOf_any _ c).mono ?_; rintro e w1 ⟨rfl, rfl⟩))
  simp [bodyPostS, results, Tryz.results81]
theorem idle81 (a : Addr) (w : World) :
    CallsD Tryz.prog 81 #[.pointer (some a)] .returning w fun e u' w' => e = .returned (.tuple #[]) ∧ u' = .returning ∧ w' = w := by
  refine callsD_of_wpS Tryz.func81 rfl fun c₀ cs hu => ?_
  apply wpS_seq
  apply wpS_region
  simp [wpOpsS, go_sem, recoverD, hu, Tryz.ntmps81, Exit.thenS]
  refine wpS_of_wp ?_
  show Code.wp Tryz.prog _ _ { tmps := #[.pointer (some a), .nilIface, .nilIface, undef, undef, undef, undef], defers := [] } w
  go_wp2_with fail
  cases c₀
  simp_all [bodyPostS, results, Tryz.results81]
theorem catch92 (a : Addr) (x c : Int) (w : World) (hc : w.cell? a = some (.int .u32 x)) (hz : w.frozen? a = false) :
    CallsD Tryz.prog 92 #[.pointer (some a)] (.panicking (pn c)) w fun e u' w' =>
      e = .returned (.tuple #[]) ∧ u' = .panicking [{ v := .iface 77 (.int .u32 c), recovered := true }] ∧ w' = w.setCell a (.int .u32 c) := by
  refine callsD_of_wpS Tryz.func92 rfl fun c₀ cs hu => ?_
  apply wpS_seq
  apply wpS_region
  simp [wpOpsS, go_sem, recoverD, hu, Tryz.ntmps92, Exit.thenS, pn]
  refine wpS_of_wp ?_
  show Code.wp Tryz.prog _ _ { tmps := #[.pointer (some a), .iface 77 (.int .u32 c), .iface 77 (.int .u32 c), undef, undef, undef, undef], defers := [] } w
  go_wp2_with (first | (go_at_call 79; refine (codeOf_any _ c).mono ?_; rintro e w1 ⟨rfl, rfl⟩))
  simp [bodyPostS, results, Tryz.results92]
theorem idle92 (a : Addr) (w : World) :
    CallsD Tryz.prog 92 #[.pointer (some a)] .returning w fun e u' w' => e = .returned (.tuple #[]) ∧ u' = .returning ∧ w' = w := by
  refine callsD_of_wpS Tryz.func92 rfl fun c₀ cs hu => ?_
  apply wpS_seq
  apply wpS_region
  simp [wpOpsS, go_sem, recoverD, hu, Tryz.ntmps92, Exit.thenS]
  refine wpS_of_wp ?_
  show Code.wp Tryz.prog _ _ { tmps := #[.pointer (some a), .nilIface, .nilIface, undef, undef, undef, undef], defers := [] } w
  go_wp2_with fail
  cases c₀
  simp_all [bodyPostS, results, Tryz.results92]
theorem catch94 (a : Addr) (x c : Int) (w : World) (hc : w.cell? a = some (.int .u32 x)) (hz : w.frozen? a = false) :
    CallsD Tryz.prog 94 #[.pointer (some a)] (.panicking (pn c)) w fun e u' w' =>
      e = .returned (.tuple #[]) ∧ u' = .panicking [{ v := .iface 77 (.int .u32 c), recovered := true }] ∧ w' = w.setCell a (.int .u32 c) := by
  refine callsD_of_wpS Tryz.func94 rfl fun c₀ cs hu => ?_
  apply wpS_seq
  apply wpS_region
  simp [wpOpsS, go_sem, recoverD, hu, Tryz.ntmps94, Exit.thenS, pn]
  refine wpS_of_wp ?_
  show Code.wp Tryz.prog _ _ { tmps := #[.pointer (some a), .iface 77 (.int .u32 c), .iface 77 (.int .u32 c), undef, undef, undef, undef], defers := [] } w
  go_wp2_with (first | (go_at_call 79; refine (codeOf_any _ c).mono ?_; rintro e w1 ⟨rfl, rfl⟩))
  simp [bodyPostS, results, Tryz.results94]
theorem idle94 (a : Addr) (w : World) :
    CallsD Tryz.prog 94 #[.pointer (some a)] .returning w fun e u' w' => e = .returned (.tuple #[]) ∧ u' = .returning ∧ w' = w := by
  refine callsD_of_wpS Tryz.func94 rfl fun c₀ cs hu => ?_
  apply wpS_seq
  apply wpS_region
  simp [wpOpsS, go_sem, recoverD, hu, Tryz.ntmps94, Exit.thenS]
  refine wpS_of_wp ?_
  show Code.wp Tryz.prog _ _ { tmps := #[.pointer (some a), .nilIface, .nilIface, undef, undef, undef, undef], defers := [] } w
  go_wp2_with fail
  cases c₀
  simp_all [bodyPostS, results, Tryz.results94]
theorem catch96 (a : Addr) (x c : Int) (w : World) (hc : w.cell? a = some (.int .u32 x)) (hz : w.frozen? a = false) :
    CallsD Tryz.prog 96 #[.pointer (some a)] (.panicking (pn c)) w fun e u' w' =>
      e = .returned (.tuple #[]) ∧ u' = .panicking [{ v := .iface 77 (.int .u32 c), recovered := true }] ∧ w' = w.setCell a (.int .u32 c) := by
  refine callsD_of_wpS Tryz.func96 rfl fun c₀ cs hu => ?_
  apply wpS_seq
  apply wpS_region
  simp [wpOpsS, go_sem, recoverD, hu, Tryz.ntmps96, Exit.thenS, pn]
  refine wpS_of_wp ?_
  show Code.wp Tryz.prog _ _ { tmps := #[.pointer (some a), .iface 77 (.int .u32 c), .iface 77 (.int .u32 c), undef, undef, undef, undef], defers := [] } w
  go_wp2_with (first | (go_at_call 79; refine (codeOf_any _ c).mono ?_; rintro e w1 ⟨rfl, rfl⟩))
  simp [bodyPostS, results, Tryz.results96]
theorem idle96 (a : Addr) (w : World) :
    CallsD Tryz.prog 96 #[.pointer (some a)] .returning w fun e u' w' => e = .returned (.tuple #[]) ∧ u' = .returning ∧ w' = w := by
  refine callsD_of_wpS Tryz.func96 rfl fun c₀ cs hu => ?_
  apply wpS_seq
  apply wpS_region
  simp [wpOpsS, go_sem, recoverD, hu, Tryz.ntmps96, Exit.thenS]
  refine wpS_of_wp ?_
  show Code.wp Tryz.prog _ _ { tmps := #[.pointer (some a), .nilIface, .nilIface, undef, undef, undef, undef], defers := [] } w
  go_wp2_with fail
  cases c₀
  simp_all [bodyPostS, results, Tryz.results96]
end Go.Proofs.YtllcbgdcepfdkaaGreatDoor
namespace Go.Proofs.YtllcbgdcepfdkaaGreatDoor
open Go.RowKit
set_option maxRecDepth 100000
set_option maxHeartbeats 8000000
/-- The code of a thread's call. -/
def DS.thK (d : DS) (a b : Int) : Int := if d.opE a = 0 then d.thC a b else d.opE a
theorem thread_any (W : World) (p : Dp) (d : DS) (h : DB W p d) (hU : d.m.U) (hG : Gl W p) (a b c : Int) (a0 : 0 ≤ a) (b0 : 0 ≤ b) :
    Calls Tryz.prog 30 #[ptr p.g, .int .u32 a, .int .u32 b, .int .u32 c] W fun e W' => ∃ d', e = .returned (.int .u32 (d.thK a b)) ∧ DS.Sim (if d.thK a b = 0 then d.thD a b c else d) d' ∧ DB W' p d' ∧ ButL p.w W W' := by
  have hmf : ∀ (fn : Fn) (first cap : Array Value) (w : World), (Instr.makeFunc fn first cap).run Tryz.prog w = .ok (.func fn first cap) w := fun _ _ _ _ => rfl
  have hC : d.thK a b = if d.opE a = 0 then d.thC a b else d.opE a := rfl
  have D0 := hid ((DG.startp h).new 77 [.int .u32 0])
  have HGl := hid (fun w L d' (k : DG W w p d' p.w L) => hG.step k.but p.w_all')
  have HO := hid (fun w (hw : DB w p d) => open_any w p d hw a a0)
  have HS0 := hid (DS.Sim.refl d)
  by_cases e1 : d.opE a = 0
  rotate_left
  · rw [hC, if_neg e1, if_neg e1]
    rw [if_neg e1] at HO
    clear h hC hU hG a0 b0 e1
    generalize d.opE a = oe at *
    simp only [ptr] at *
    go_enter_defers Tryz.func30, Tryz.ntmps30
    go_upto_region 1 with fail
    generalize World.alloc _ _ = X at *
    generalize hg3 : W.heap.size = g3 at D0 ⊢
    clear hg3
    go_wp2_with (first | (go_at_call 82; refine (HO.out _ D0.out.db).mono ?_; rintro e w1 ⟨rfl, hb⟩; have D1 := hid (D0.out.on hb); clear hb))
    refine leaves_cons (f := 81) (args := #[.pointer (some ⟨g3, 0, none⟩)]) (by simp) (by simp [go_sem]) ?_
    refine (catch81 ⟨g3, 0, none⟩ 0 oe _ ?_ ?_).mono ?_
    · exact (D1.out.get 0 rfl).cell 0
    · exact (D1.out.get 0 rfl).free 0
    rintro e u' w'' ⟨rfl, rfl, rfl⟩
    have DX := hid (D1.out.put (by simp) ((D1.out.get 0 rfl).setCell 0 (.int .u32 oe)) (.setCell _ _ _ _ (by simp)))
    simp only [List.set_cons_zero] at DX
    have hcc := (DX.out.get 0 rfl).cell 0
    simp only [List.getElem?_cons_zero] at hcc
    simp [Leaves, settle, results, Tryz.results30, go_sem]
    rw [hcc]
    exact ⟨_, rfl, rfl, d, HS0.out, DX.out.db, DX.out.but⟩
  rw [hC, if_pos e1]
  rw [if_pos e1] at HO
  have HA := hid (fun w (hw : DB w p d) (hg : Gl w p) => addThread_any w p d hw hU hg a b c b0)
  clear hC e1 h hU hG a0 b0
  by_cases e2 : d.thC a b = 0
  rotate_left
  · rw [if_neg e2]
    simp only [if_neg e2] at HA
    clear e2
    generalize d.thC a b = oe at *
    simp only [ptr, stV, stC] at *
    go_enter_defers Tryz.func30, Tryz.ntmps30
    go_upto_region 1 with fail
    generalize World.alloc _ _ = X at *
    generalize hg3 : W.heap.size = g3 at D0 ⊢
    clear hg3
    go_wp2_with (first | (go_at_call 82; refine (HO.out _ D0.out.db).mono ?_; rintro e w1 ⟨rfl, hb⟩; have D1 := hid (D0.out.on hb); clear hb) | (go_at_call 83; refine (HA.out _ D1.out.db (HGl.out _ _ _ D1.out)).mono ?_; rintro e w2 ⟨d1, rfl, hs, hd, hb⟩; have D2 := hid (D1.out.step hd hb (fun _ hk => hk)); have S2 := hid hs; clear hs hd hb))
    refine leaves_cons (f := 81) (args := #[.pointer (some ⟨g3, 0, none⟩)]) (by simp) (by simp [go_sem]) ?_
    refine (catch81 ⟨g3, 0, none⟩ 0 oe _ ?_ ?_).mono ?_
    · exact (D2.out.get 0 rfl).cell 0
    · exact (D2.out.get 0 rfl).free 0
    rintro e u' w'' ⟨rfl, rfl, rfl⟩
    have DX := hid (D2.out.put (by simp) ((D2.out.get 0 rfl).setCell 0 (.int .u32 oe)) (.setCell _ _ _ _ (by simp)))
    simp only [List.set_cons_zero] at DX
    have hcc := (DX.out.get 0 rfl).cell 0
    simp only [List.getElem?_cons_zero] at hcc
    simp [Leaves, settle, results, Tryz.results30, go_sem]
    rw [hcc]
    exact ⟨_, rfl, rfl, d1, S2.out, DX.out.db, DX.out.but⟩
  · rw [if_pos e2, e2]
    simp only [if_pos e2] at HA
    clear e2
    generalize d.thD a b c = dT at *
    simp only [ptr, stV, stC] at *
    go_enter_defers Tryz.func30, Tryz.ntmps30
    go_upto_region 1 with fail
    generalize World.alloc _ _ = X at *
    generalize hg3 : W.heap.size = g3 at D0 ⊢
    clear hg3
    go_upto_region 3 with (first | (go_at_call 82; refine (HO.out _ D0.out.db).mono ?_; rintro e w1 ⟨rfl, hb⟩; have D1 := hid (D0.out.on hb); clear hb) | (go_at_call 83; refine (HA.out _ D1.out.db (HGl.out _ _ _ D1.out)).mono ?_; rintro e w2 ⟨d1, rfl, hs, hd, hb⟩; have D2 := hid (D1.out.step hd hb (fun _ hk => hk)); have S2 := hid hs; clear hs hd hb))
    have z0 := (D2.out.get 0 rfl).cell 0
    have z1 := (D2.out.get 0 rfl).free 0
    simp only [List.getElem?_cons_zero] at z0
    have D3 := hid (D2.out.put (by simp) ((D2.out.get 0 rfl).setCell 0 (.int .u32 0)) (.setCell _ _ _ _ (by simp)))
    simp only [List.set_cons_zero] at D3
    go_wp2_with fail
    refine leaves_cons (f := 81) (args := #[.pointer (some ⟨g3, 0, none⟩)]) (by simp) (by simp [go_sem]) ?_
    refine (idle81 ⟨g3, 0, none⟩ _).mono ?_
    rintro e u' w'' ⟨rfl, rfl, rfl⟩
    simp [Leaves, settle, results, Tryz.results30, go_sem]
    have hcc := (D3.out.get 0 rfl).cell 0
    simp only [List.getElem?_cons_zero] at hcc
    rw [hcc]
    exact ⟨_, rfl, rfl, _, S2.out, D3.out.db, D3.out.but⟩
end Go.Proofs.YtllcbgdcepfdkaaGreatDoor
namespace Go.Proofs.YtllcbgdcepfdkaaGreatDoor
open Go.RowKit
set_option maxRecDepth 100000
set_option maxHeartbeats 2000000
def DS.spC (d : DS) (s f : Int) : Int := if (d.m.ns : Int) ≤ s then 1 else if (d.m.ns : Int) ≤ f then 1 else if s = f then 16 else if (d.ent s).t = 0 then (if (d.ent f).t = 0 then (if d.b < 64 then 0 else 24) else 2) else 2
def DS.spD (d : DS) (s f : Int) : DS := (d.takeSpace s f).dig s (H.saveOf []) 26
attribute [-simp] Tryz.isAgg59 Tryz.sizeOf59 Tryz.zeroValue59
theorem begin_any (W : World) (p : Dp) (d : DS) (h : DB W p d) (s f : Int) (s0 : 0 ≤ s) (f0 : 0 ≤ f) :
    Calls Tryz.prog 80 #[ptr p.g, .int .u32 s, .int .u32 f] W fun e W' => e = (if d.spC s f = 0 then .returned (.tuple #[]) else .panicked (pn (d.spC s f))) ∧ DB W' p (if d.spC s f = 0 then d.spD s f else d) ∧ ButL p.w W W' := by
  have hC : d.spC s f = if (d.m.ns : Int) ≤ s then 1 else if (d.m.ns : Int) ≤ f then 1 else if s = f then 16 else if (d.ent s).t = 0 then (if (d.ent f).t = 0 then (if d.b < 64 then 0 else 24) else 2) else 2 := rfl
  have D0 := hid (DG.startp h)
  by_cases a1 : (d.m.ns : Int) ≤ s
  · have HS1 := hid (fun w (hw : DB w p d) => secureP_no w p d hw s a1)
    rw [hC, if_pos a1, if_neg (by decide), if_neg (by decide)]
    clear h hC a1 s0 f0
    simp only [ptr] at *
    go_enter Tryz.func80, Tryz.ntmps80
    go_wp2_with (first | (go_at_call 151; refine (HS1.out _ D0.out.db).mono ?_; rintro e w1 ⟨rfl, rfl⟩))
    exact ⟨rfl, rfl, D0.out.db, D0.out.but⟩
  have HS1 := hid (fun w (hw : DB w p d) => secureP_yes w p d hw s s0 (by omega))
  rw [hC, if_neg a1]
  clear hC
  by_cases a2 : (d.m.ns : Int) ≤ f
  · have HS2 := hid (fun w (hw : DB w p d) => secureP_no w p d hw f a2)
    rw [if_pos a2, if_neg (by decide), if_neg (by decide)]
    have hne : s ≠ f := by omega
    clear h a1 a2 s0 f0
    simp only [ptr] at *
    go_enter Tryz.func80, Tryz.ntmps80
    go_upto_region 1 with (first | (go_at_call 151; refine (HS1.out _ D0.out.db).mono ?_; rintro e w1 ⟨rfl, rfl⟩))
    go_wp2_with (first | (go_at_call 151; refine (HS2.out _ D0.out.db).mono ?_; rintro e w1 ⟨rfl, rfl⟩))
    exact ⟨rfl, rfl, D0.out.db, D0.out.but⟩
  have HS2 := hid (fun w (hw : DB w p d) => secureP_yes w p d hw f f0 (by omega))
  rw [if_neg a2]
  clear a1 a2
  by_cases a3 : s = f
  · rw [if_pos a3, if_neg (by decide), if_neg (by decide)]
    subst a3
    clear h s0 f0
    simp only [ptr] at *
    go_enter Tryz.func80, Tryz.ntmps80
    go_upto_region 1 with (first | (go_at_call 151; refine (HS1.out _ D0.out.db).mono ?_; rintro e w1 ⟨rfl, rfl⟩))
    go_upto_region 2 with (first | (go_at_call 151; refine (HS2.out _ D0.out.db).mono ?_; rintro e w1 ⟨rfl, rfl⟩))
    go_wp2_with (first | (go_at_call 152; refine (insist_no _ 16).mono ?_; rintro e w1 ⟨rfl, rfl⟩))
    exact ⟨rfl, rfl, D0.out.db, D0.out.but⟩
  rw [if_neg a3]
  have hne : (s != f) = true := by simpa using a3
  have HF1 := hid (fun w (hw : DB w p d) => isFree_any w p d hw s)
  have HF2 := hid (fun w (hw : DB w p d) => isFree_any w p d hw f)
  by_cases a4 : (d.ent s).t = 0
  rotate_left
  · rw [if_neg a4, if_neg (by decide), if_neg (by decide)]
    rw [decide_eq_false a4] at HF1
    clear h a4 a3 s0 f0 HF2
    simp only [ptr, inE, Bool.false_eq_true, if_false] at *
    go_enter Tryz.func80, Tryz.ntmps80
    go_upto_region 1 with (first | (go_at_call 151; refine (HS1.out _ D0.out.db).mono ?_; rintro e w1 ⟨rfl, rfl⟩))
    go_upto_region 2 with (first | (go_at_call 151; refine (HS2.out _ D0.out.db).mono ?_; rintro e w1 ⟨rfl, rfl⟩))
    go_wp2_with (first | (go_at_call 152; refine (insist_yes _ 16).mono ?_; rintro e w1 ⟨rfl, rfl⟩) | (go_at_call 153; refine (HF1.out _ D0.out.db).mono ?_; rintro e w1 ⟨rfl, hb⟩; have D1 := hid (D0.out.on hb); clear hb))
    exact ⟨rfl, rfl, D1.out.db, D1.out.but⟩
  rw [if_pos a4]
  rw [decide_eq_true a4] at HF1
  clear a4
  by_cases a5 : (d.ent f).t = 0
  rotate_left
  · rw [if_neg a5, if_neg (by decide), if_neg (by decide)]
    rw [decide_eq_false a5] at HF2
    clear h a5 a3 s0 f0
    simp only [ptr, inE, Bool.false_eq_true, if_false, if_true] at *
    go_enter Tryz.func80, Tryz.ntmps80
    go_upto_region 1 with (first | (go_at_call 151; refine (HS1.out _ D0.out.db).mono ?_; rintro e w1 ⟨rfl, rfl⟩))
    go_upto_region 2 with (first | (go_at_call 151; refine (HS2.out _ D0.out.db).mono ?_; rintro e w1 ⟨rfl, rfl⟩))
    go_upto_region 4 with (first | (go_at_call 152; refine (insist_yes _ 16).mono ?_; rintro e w1 ⟨rfl, rfl⟩) | (go_at_call 153; refine (HF1.out _ D0.out.db).mono ?_; rintro e w1 ⟨rfl, hb⟩; have D1 := hid (D0.out.on hb); clear hb))
    go_wp2_with (first | (go_at_call 153; refine (HF2.out _ D1.out.db).mono ?_; rintro e w2 ⟨rfl, hb⟩; have D2 := hid (D1.out.on hb); clear hb))
    exact ⟨rfl, rfl, D2.out.db, D2.out.but⟩
  rw [if_pos a5]
  rw [decide_eq_true a5] at HF2
  have HBi := hid (fun w (hw : DB w p d) => births_any w p d hw)
  clear a5
  by_cases a6 : d.b < 64
  rotate_left
  · rw [if_neg a6, if_neg (by decide), if_neg (by decide)]
    have HI : Hid (∀ W, Calls Tryz.prog 152 #[.bool (decide (d.b < 64)), .int .u32 24] W fun e W' => e = .panicked (pn 24) ∧ W' = W) := hid (fun W => by rw [decide_eq_false a6]; exact insist_no W 24)
    clear h a6 a3 s0 f0
    simp only [ptr, inE, if_true] at *
    generalize d.b = db at *
    go_enter Tryz.func80, Tryz.ntmps80
    go_upto_region 1 with (first | (go_at_call 151; refine (HS1.out _ D0.out.db).mono ?_; rintro e w1 ⟨rfl, rfl⟩))
    go_upto_region 2 with (first | (go_at_call 151; refine (HS2.out _ D0.out.db).mono ?_; rintro e w1 ⟨rfl, rfl⟩))
    go_upto_region 4 with (first | (go_at_call 152; refine (insist_yes _ 16).mono ?_; rintro e w1 ⟨rfl, rfl⟩) | (go_at_call 153; refine (HF1.out _ D0.out.db).mono ?_; rintro e w1 ⟨rfl, hb⟩; have D1 := hid (D0.out.on hb); clear hb))
    go_upto_region 5 with (first | (go_at_call 153; refine (HF2.out _ D1.out.db).mono ?_; rintro e w2 ⟨rfl, hb⟩; have D2 := hid (D1.out.on hb); clear hb))
    go_wp2_with (first | (go_at_call 154; refine (HBi.out _ D2.out.db).mono ?_; rintro e w3 ⟨rfl, rfl⟩) | (go_at_call 152; refine (HI.out _).mono ?_; rintro e w3 ⟨rfl, rfl⟩))
    exact ⟨rfl, rfl, D2.out.db, D2.out.but⟩
  rw [if_pos a6, if_pos rfl, if_pos rfl]
  have HI : Hid (∀ W, Calls Tryz.prog 152 #[.bool (decide (d.b < 64)), .int .u32 24] W fun e W' => e = .returned (.tuple #[]) ∧ W' = W) := hid (fun W => by rw [decide_eq_true a6]; exact insist_yes W 24)
  have HTs := hid (fun w (hw : DB w p d) => takeSpace_any w p d hw s f)
  have HSt := hid (fun w => Q.start_any w)
  have hSl : (H.saveOf []).length = 26 := H.saveOf_length _
  have HLd := hid (fun w e g L (hw : DB w p e) (hL : L.length = 26) (hc : Cel w g 59 (u32s L)) (hg : g ∉ p.f.w) => layDigest_any w p e hw s g L hL hc hg)
  obtain ⟨Z, hZ⟩ : ∃ Z : List Int, Z = List.replicate 26 0 := ⟨_, rfl⟩
  have hZl : Z.length = 26 := by rw [hZ]; simp
  have hz : ∀ w, (zeroValue 59).run Tryz.prog w = .ok (.agg (Z.map (Value.int .u32)).toArray) w := fun w => by rw [Tryz.zeroValue59, hZ]; rfl
  have HSD : Hid (d.spD s f = (d.takeSpace s f).dig s (H.saveOf []) 26) := hid rfl
  rw [HSD.out]
  clear h a6 a3 s0 f0 hZ HSD
  generalize d.takeSpace s f = dT at *
  generalize d.bearE s f = be at *
  generalize H.saveOf [] = S0 at *
  simp only [ptr, inE, if_true, stV, stC, H.Ag] at *
  generalize d.b = db at *
  go_enter Tryz.func80, Tryz.ntmps80
  go_upto_region 1 with (first | (go_at_call 151; refine (HS1.out _ D0.out.db).mono ?_; rintro e w1 ⟨rfl, rfl⟩))
  go_upto_region 2 with (first | (go_at_call 151; refine (HS2.out _ D0.out.db).mono ?_; rintro e w1 ⟨rfl, rfl⟩))
  go_upto_region 4 with (first | (go_at_call 152; refine (insist_yes _ 16).mono ?_; rintro e w1 ⟨rfl, rfl⟩) | (go_at_call 153; refine (HF1.out _ D0.out.db).mono ?_; rintro e w1 ⟨rfl, hb⟩; have D1 := hid (D0.out.on hb); clear hb))
  go_upto_region 5 with (first | (go_at_call 153; refine (HF2.out _ D1.out.db).mono ?_; rintro e w2 ⟨rfl, hb⟩; have D2 := hid (D1.out.on hb); clear hb))
  go_upto_region 7 with (first | (go_at_call 154; refine (HBi.out _ D2.out.db).mono ?_; rintro e w3 ⟨rfl, rfl⟩) | (go_at_call 152; refine (HI.out _).mono ?_; rintro e w3 ⟨rfl, rfl⟩) | (go_at_call 45; refine (HTs.out _ D2.out.db).mono ?_; rintro e w4 ⟨rfl, hd, hb⟩; have D3 := hid (D2.out.step hd hb (fun _ hk => hk)); clear hd hb))
  go_upto_region 8 with (first | (go_at_call 47; refine (HSt.out _).mono ?_; rintro e w5 ⟨rfl, hb⟩; have D4 := hid (D3.out.on hb); clear hb) | (refine wpList_store_st rfl 59 _ _ rfl w5.heap.size (u32s S0) rfl rfl (Cel.new w5 59 (u32s Z)) (by rw [u32s, List.length_map, hSl]; exact size59) (by simp [u32s, hZl, hSl]) (List.all_eq_true.2 (fun v hv => by simp only [u32s, List.mem_map] at hv; obtain ⟨x, _, rfl⟩ := hv; rfl)) ?_; intro w6 hc hb hs; have D5 := hid (D4.out.add hc hb); have HN := hid D4.out.low; clear hc hb hs))
  generalize w5.heap.size = g8 at *
  go_wp2_with (first | (refine wpList_build_f rfl 148 _ rfl _ rfl _ (built148 p s) ?_) | (go_at_call 155; refine (HLd.out _ _ _ S0 D5.out.db hSl (D5.out.get 0 rfl) (D5.out.notin HN.out)).mono ?_; rintro e w7 ⟨rfl, hd1, hb1⟩; have D7 := hid (D5.out.step hd1 hb1 p.fw_w); clear hd1 hb1))
  go_returns
  exact ⟨rfl, D7.out.db, D7.out.but⟩
theorem space_any (W : World) (p : Dp) (d : DS) (h : DB W p d) (a b : Int) (a0 : 0 ≤ a) (b0 : 0 ≤ b) :
    Calls Tryz.prog 29 #[ptr p.g, .int .u32 a, .int .u32 b] W fun e W' => e = .returned (.int .u32 (d.spC a b)) ∧ DB W' p (if d.spC a b = 0 then d.spD a b else d) ∧ ButL p.w W W' := by
  have hmf : ∀ (fn : Fn) (first cap : Array Value) (w : World), (Instr.makeFunc fn first cap).run Tryz.prog w = .ok (.func fn first cap) w := fun _ _ _ _ => rfl
  have D0 := hid ((DG.startp h).new 77 [.int .u32 0])
  have HA := hid (fun w (hw : DB w p d) => begin_any w p d hw a b a0 b0)
  clear h a0 b0
  by_cases e2 : d.spC a b = 0
  rotate_left
  · simp only [if_neg e2] at HA ⊢
    clear e2
    generalize d.spC a b = oe at *
    simp only [ptr] at *
    go_enter_defers Tryz.func29, Tryz.ntmps29
    go_upto_region 1 with fail
    generalize World.alloc _ _ = X at *
    generalize hg3 : W.heap.size = g3 at D0 ⊢
    clear hg3
    go_wp2_with (first | (go_at_call 80; refine (HA.out _ D0.out.db).mono ?_; rintro e w2 ⟨rfl, hd, hb⟩; have D2 := hid (D0.out.step hd hb (fun _ hk => hk)); clear hd hb))
    refine leaves_cons (f := 78) (args := #[.pointer (some ⟨g3, 0, none⟩)]) (by simp) (by simp [go_sem]) ?_
    refine (catch78 ⟨g3, 0, none⟩ 0 oe _ ?_ ?_).mono ?_
    · exact (D2.out.get 0 rfl).cell 0
    · exact (D2.out.get 0 rfl).free 0
    rintro e u' w'' ⟨rfl, rfl, rfl⟩
    have DX := hid (D2.out.put (by simp) ((D2.out.get 0 rfl).setCell 0 (.int .u32 oe)) (.setCell _ _ _ _ (by simp)))
    simp only [List.set_cons_zero] at DX
    have hcc := (DX.out.get 0 rfl).cell 0
    simp only [List.getElem?_cons_zero] at hcc
    simp [Leaves, settle, results, Tryz.results29, go_sem]
    rw [hcc]
    exact ⟨_, rfl, rfl, DX.out.db, DX.out.but⟩
  · simp only [if_pos e2] at HA ⊢
    rw [e2]
    clear e2
    generalize d.spD a b = dT at *
    simp only [ptr] at *
    go_enter_defers Tryz.func29, Tryz.ntmps29
    go_upto_region 1 with fail
    generalize World.alloc _ _ = X at *
    generalize hg3 : W.heap.size = g3 at D0 ⊢
    clear hg3
    go_upto_region 3 with (first | (go_at_call 80; refine (HA.out _ D0.out.db).mono ?_; rintro e w2 ⟨rfl, hd, hb⟩; have D2 := hid (D0.out.step hd hb (fun _ hk => hk)); clear hd hb))
    have z0 := (D2.out.get 0 rfl).cell 0
    have z1 := (D2.out.get 0 rfl).free 0
    simp only [List.getElem?_cons_zero] at z0
    have D3 := hid (D2.out.put (by simp) ((D2.out.get 0 rfl).setCell 0 (.int .u32 0)) (.setCell _ _ _ _ (by simp)))
    simp only [List.set_cons_zero] at D3
    go_wp2_with fail
    refine leaves_cons (f := 78) (args := #[.pointer (some ⟨g3, 0, none⟩)]) (by simp) (by simp [go_sem]) ?_
    refine (idle78 ⟨g3, 0, none⟩ _).mono ?_
    rintro e u' w'' ⟨rfl, rfl, rfl⟩
    simp [Leaves, settle, results, Tryz.results29, go_sem]
    have hcc := (D3.out.get 0 rfl).cell 0
    simp only [List.getElem?_cons_zero] at hcc
    rw [hcc]
    exact ⟨_, rfl, rfl, D3.out.db, D3.out.but⟩
end Go.Proofs.YtllcbgdcepfdkaaGreatDoor
