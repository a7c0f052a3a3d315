import Derived.Test.YtdfnbcbnmiohnaaGreatDoorP42
import Derived.Test.YtdfnbcbnmiohnaaGreatDoorP45
import Derived.Test.YtdfnbcbnmiohnaaGreatDoorP47
import Derived.Test.YtdfnbcbnmiohnaaGreatDoorP37
import Derived.Test.YtdfnbcbnmiohnaaGreatDoorP01
import Derived.Test.YtdfnbcbnmiohnaaGreatDoorP35
namespace Go.Proofs.YtdfnbcbnmiohnaaGreatDoor
open Go.RowKit
set_option maxRecDepth 100000
set_option maxHeartbeats 4000000
structure LI (n : Nat) (d : DS) : Prop where
  ns : d.m.ns = n
  U : d.m.U
  inv : InvF d.at n
theorem LI.sim {n : Nat} {d e : DS} (h : LI n d) (hs : DS.Sim d e) : LI n e := ⟨hs.ns.trans h.ns, hs.U h.U, by rw [at_of_E hs.E]; exact h.inv⟩
theorem LI.fitE {n : Nat} {d e : DS} (h : LI n d) (hf : DS.Fit d e) (hE : e.E = d.E) : LI n e := ⟨hf.ns.trans h.ns, hf.U h.U, by rw [at_of_E hE]; exact h.inv⟩
theorem LI.start (n : Nat) : LI n (DS.fresh (MS.new n 1)) := by
  refine ⟨(MS.zall_ns _ _).trans rfl, zall_U (MS.U.new n 1) _, ?_⟩
  have : (DS.fresh (MS.new n 1)).at = fun _ => En.zero := by
    funext k
    show (List.replicate _ En.zero).getD k En.zero = En.zero
    rw [List.getD_eq_getElem?_getD, List.getElem?_replicate]
    split <;> rfl
  rw [this]
  exact InvF.zero n
theorem LI.dig {n : Nat} {d : DS} (h : LI n d) (s : Int) (L : List Int) (hL : H.Wds L) (j : Nat) : LI n (d.dig s L j) := h.fitE (fit_dig d s L hL j) (dig_E d s L j).1
theorem LI.born {n : Nat} {d : DS} (a b : Int) (h : LI n d) (hk : d.Ok) (hz : d.bearE a b = 0) (b0 : 0 ≤ b) (b1 : b < 4294967296) : LI n (d.takeSpace a b) := by
  have e0 : d.takeSpace a b = d.space a b := by unfold DS.takeSpace; rw [if_pos hz]
  have f1 := fit_space hk a b b0 b1
  refine ⟨f1.ns.trans h.ns, f1.U h.U, ?_⟩
  rw [e0]
  have := inv_space hk (by rw [h.ns]; exact h.inv) hz
  rw [h.ns] at this
  exact this
theorem LI.take {n : Nat} {d : DS} (q t s : Int) (h : LI n d) (hk : d.Ok) : LI n (d.take q t s) := by
  have f1 := fit_take d q t s
  refine ⟨f1.ns.trans h.ns, f1.U h.U, ?_⟩
  unfold DS.take
  split
  · rename_i hz
    have hi := inv_taken hk (by rw [h.ns]; exact h.inv) hz
    rw [h.ns] at hi
    exact hi
  · exact h.inv
theorem LI.state {n : Nat} {d : DS} (q s : Int) (h : LI n d) (hk : d.Ok) : LI n (d.state q s) := by
  have f1 := fit_state d q s
  refine ⟨f1.ns.trans h.ns, f1.U h.U, ?_⟩
  unfold DS.state
  split
  · rename_i hz
    obtain ⟨ha, h1, h2⟩ := stated_at hk hz
    rw [ha]; exact h.inv.like rfl Iff.rfl Iff.rfl (fun _ => rfl)
  · exact h.inv
theorem LI.stop {n : Nat} {d : DS} (a : Int) (h : LI n d) (hk : d.Ok) : LI n (d.stD a) := by
  unfold DS.stD
  split
  · exact h.state a 3 hk
  · exact h
theorem LI.spare {n : Nat} {d : DS} (a q : Int) (h : LI n d) (hk : d.Ok) : LI n (d.srD a q) := by
  unfold DS.srD
  split
  · exact h.take q 6 a hk
  · exact h
theorem LI.give {n : Nat} {d : DS} (q : Int) (h : LI n d) (hk : d.Ok) : LI n (d.give q) := by
  have hf := fit_give d q
  refine ⟨hf.ns.trans h.ns, hf.U h.U, ?_⟩
  unfold DS.give
  split
  · rename_i hz
    have := (inv_given hk (by rw [h.ns]; exact h.inv) hz).1
    rw [h.ns] at this
    exact this
  · exact h.inv
theorem LI.rem {n : Nat} {d : DS} (a : Int) (h : LI n d) (hk : d.Ok) : LI n (d.rmD a) := by
  unfold DS.rmD
  split
  · exact h.give a hk
  · exact h
theorem LI.ext {n : Nat} {d : DS} (a t v : Int) (h : LI n d) (v0 : 0 ≤ v) (v1 : v < 4294967296) : LI n (d.ext a (stepO t v)) := by
  unfold DS.ext
  split
  · rename_i hz
    refine h.dig a _ ?_ 26
    unfold DS.exL
    split
    · exact Q.exS_wds (DS.st_wds h.U a) (stepO_wds t v v0 v1).1
    · rename_i hk
      unfold DS.exE at hz
      rw [if_neg hk] at hz
      cases hz
  · exact h
theorem LI.write {n : Nat} {d : DS} (a o v : Int) (h : LI n d) (v0 : 0 ≤ v) (v1 : v < 4294967296) : LI n { d with m := d.m.write true a o v } := h.fitE (fit_write d true a o v v0 v1) rfl
theorem fnL_wds {d : DS} (hU : d.m.U) (s : Int) : H.Wds (d.fnL s) := by
  unfold DS.fnL
  split
  · exact Q.wds_runA (Q.wds_take (DS.st_wds hU s) 8) _ _
  · intro i
    rw [List.getD_eq_getElem?_getD, List.getElem?_replicate]
    split <;> decide
theorem LI.fin {n : Nat} {d : DS} (a : Int) (h : LI n d) (hk : d.Ok) : LI n (d.fiD a) := by
  unfold DS.fiD
  split
  · have hf := msr_len d a (d.fnL a) (fnL_wds h.U a)
    obtain ⟨m1, m3⟩ := msr_E d a (d.fnL a)
    have hk' : (d.msr a (d.fnL a)).Ok := ⟨by rw [m1, m3]; exact hk.len, by rw [m3]; exact hk.n64, fun k hk2 => by rw [at_of_E m1]; rw [m3] at hk2; exact hk.ok k hk2, fun k hk2 => by rw [at_of_E m1, m3]; rw [m3] at hk2; exact hk.own k hk2, by show 0 ≤ ((d.lay8 a _ 8).dig a zz 26).b; rw [(dig_E _ _ _ 26).2.1, (lay8_E _ _ _ 8).2.1]; exact hk.b0, by show ((d.lay8 a _ 8).dig a zz 26).b ≤ 64; rw [(dig_E _ _ _ 26).2.1, (lay8_E _ _ _ 8).2.1]; exact hk.b1⟩
    exact (h.fitE hf m1).state a 2 hk'
  · exact h
theorem LI.own {n : Nat} {d : DS} (h : LI n d) {q : Int} (t1 : (d.ent q).t = 1) : (d.ent q).o = q := by
  obtain ⟨ht, he⟩ := ent_t0 (d := d) (x := q) (by rw [t1]; decide)
  obtain ⟨q0, q1, eq⟩ := there_lt ht
  rw [he] at t1 ⊢
  rw [h.ns] at q1
  have := (h.inv.ow q.toNat (by omega) t1).1
  omega
theorem LI.more {n : Nat} {d : DS} (h : LI n d) (h8 : n ≤ 8) {w : Int} (hs : d.saE w = 0) : d.more w = true := by
  have t1 := (saE_yes hs).2
  obtain ⟨ht, he⟩ := ent_t0 (d := d) (x := w) (by rw [t1]; decide)
  obtain ⟨q0, q1, eq⟩ := there_lt ht
  rw [h.ns] at q1
  unfold DS.more
  rw [t1]
  rw [he] at t1 ⊢
  have h1 := (h.inv.ow w.toNat (by omega) t1).2
  have h2 := cntN_le (fun j => isO ((w.toNat : Nat) : Int) (j : Int) (d.at j)) n
  have : (d.at w.toNat).r < 63 := by rw [h1]; omega
  simp [this]
theorem DS.Sim.takeSpace {d e : DS} (h : DS.Sim d e) (s f : Int) : DS.Sim (d.takeSpace s f) (e.takeSpace s f) := by
  unfold DS.takeSpace
  rw [h.bearE]
  split
  · have h1 := (((h.wr s 0 f).wr s 1 d.b).wr s 2 0)
    unfold DS.space MS.born
    refine ⟨?_, ?_, ?_, ?_⟩
    · simp only [DS.lay, h.E]
    · simp only [h.b]
    · rw [h.b]; exact h1.ns
    · rw [h.b]; exact h1.P
  · exact h
theorem DS.Sim.exE {d e : DS} (h : DS.Sim d e) (s : Int) : e.exE s = d.exE s := by unfold DS.exE; rw [h.st]
theorem DS.Sim.exL {d e : DS} (h : DS.Sim d e) (s : Int) (o : Q.MOp) : e.exL s o = d.exL s o := by unfold DS.exL; rw [h.st]
theorem DS.Sim.ext {d e : DS} (h : DS.Sim d e) (s : Int) (o : Q.MOp) : DS.Sim (d.ext s o) (e.ext s o) := by
  unfold DS.ext
  rw [h.exE, h.exL]
  split
  · exact h.dig _ _ _
  · exact h
theorem DS.Sim.saE {d e : DS} (h : DS.Sim d e) (w : Int) : e.saE w = d.saE w := by unfold DS.saE; rw [h.ns, h.ent]
theorem DS.Sim.stD {d e : DS} (h : DS.Sim d e) (w : Int) : DS.Sim (d.stD w) (e.stD w) := by
  unfold DS.stD
  rw [h.saE]
  split
  · exact h.state _ _
  · exact h
theorem DS.Sim.srC {d e : DS} (h : DS.Sim d e) (w q : Int) : e.srC w q = d.srC w q := by unfold DS.srC; rw [h.saE, h.ent, h.ns, h.takeE]
theorem DS.Sim.srD {d e : DS} (h : DS.Sim d e) (w q : Int) : DS.Sim (d.srD w q) (e.srD w q) := by
  unfold DS.srD
  rw [h.srC]
  split
  · exact h.take _ _ _
  · exact h
theorem DS.Sim.rmC {d e : DS} (h : DS.Sim d e) (q : Int) : e.rmC q = d.rmC q := by unfold DS.rmC DS.rmT; rw [h.ns, h.ent, h.ent]
theorem DS.Sim.giveE {d e : DS} (h : DS.Sim d e) (q : Int) : e.giveE q = d.giveE q := by unfold DS.giveE; rw [h.entE, h.ent]
theorem DS.Sim.freed {d e : DS} (h : DS.Sim d e) (q : Int) : DS.Sim (d.freed q) (e.freed q) := (h.lay _ _).wipe q
theorem DS.Sim.give {d e : DS} (h : DS.Sim d e) (q : Int) : DS.Sim (d.give q) (e.give q) := by
  unfold DS.give DS.given
  rw [h.giveE, h.ent, (h.freed q).at]
  split
  · split
    · unfold DS.cnt
      rw [(h.freed q).at]
      exact (h.freed q).lay _ _
    · exact h.freed q
  · exact h
theorem DS.Sim.rmD {d e : DS} (h : DS.Sim d e) (q : Int) : DS.Sim (d.rmD q) (e.rmD q) := by
  unfold DS.rmD
  rw [h.rmC]
  split
  · exact h.give q
  · exact h
theorem DS.Sim.fnL {d e : DS} (h : DS.Sim d e) (s : Int) : e.fnL s = d.fnL s := by unfold DS.fnL; rw [h.st]
theorem DS.Sim.fiC {d e : DS} (h : DS.Sim d e) (w : Int) : e.fiC w = d.fiC w := by unfold DS.fiC; rw [h.saE, h.ent, h.fnE]
theorem DS.Sim.fiD {d e : DS} (h : DS.Sim d e) (w : Int) : DS.Sim (d.fiD w) (e.fiD w) := by
  unfold DS.fiD
  rw [h.fiC, h.fnL]
  split
  · exact (h.msr _ _).state _ _
  · exact h
theorem tk_eq (c : Int) : ∀ n : Nat, wrap64 (tkO c n - c) = wrap64 (n : Int)
  | 0 => by show wrap64 (c - c) = _; rw [Int.sub_self]; rfl
  | n + 1 => by
    have h := tk_eq c n
    show wrap64 (wrap64 (tkO c n + 1) - c) = wrap64 ((n + 1 : Nat) : Int)
    unfold wrap64 at h ⊢
    omega
theorem srD_c (d : DS) (w q : Int) : (d.srD w q).m.c = d.m.c := by
  unfold DS.srD
  split
  · rw [DS.take_m]
  · rfl
theorem stD_c (d : DS) (w : Int) : (d.stD w).m.c = d.m.c := by
  unfold DS.stD
  split
  · rw [state_m]
  · rfl
theorem rmD_c {d : DS} {q : Int} (q0 : 0 ≤ q) (h : d.rmC q = 0) : wrap64 ((d.rmD q).m.c - d.m.c) = 1024 := by
  unfold DS.rmD
  rw [if_pos h]
  unfold DS.rmC at h
  split at h
  · rename_i hq
    have hz : d.giveE q = 0 := by
      unfold DS.giveE DS.entE DS.there
      rw [if_pos (decide_eq_true ⟨q0, hq⟩)]
      unfold DS.rmT at h
      simp only [ne_eq, not_true_eq_false, if_false]
      split at h
      · cases h
      · rename_i t0
        rw [if_neg t0]
        split at h
        · rename_i t1
          unfold spcC at h
          split at h
          · split at h
            · cases h
            · rename_i hr
              rw [if_neg]
              intro ⟨_, h2⟩
              omega
          · cases h
        · rename_i t1
          rw [if_neg]
          intro ⟨h1, _⟩
          exact t1 h1
    unfold DS.give
    rw [if_pos hz, given_m]
    unfold MS.zero
    rw [at_yes q0 hq]
    show wrap64 (wrap64 (d.m.c + 1024) - d.m.c) = 1024
    unfold wrap64
    omega
  · cases h
set_option maxHeartbeats 8000000
set_option maxRecDepth 100000
theorem numbers_l (W : World) : Calls Tryz.prog 36 #[] W fun e W' => e = .returned (.bool true) ∧ W = W' := by
  go_enter Tryz.func36, Tryz.ntmps36
  go_wp2_with fail
  go_ret
  exact ⟨rfl, rfl⟩
def tch (k : Int) : Int := if k = 6 then 60 else if k = 8 then 1024 else 0
theorem touched_l (W : World) (k : Int) : Calls Tryz.prog 39 #[.int .i64 k] W fun e W' => e = .returned (.int .i64 (tch k)) ∧ W = W' := by
  unfold tch
  by_cases h6 : k = 6
  · subst h6
    go_enter Tryz.func39, Tryz.ntmps39
    go_wp2_with fail
    go_ret
    exact ⟨rfl, rfl⟩
  rw [if_neg h6]
  have b6 : (k == 6) = false := by simpa using h6
  by_cases h8 : k = 8
  · subst h8
    clear h6 b6
    go_enter Tryz.func39, Tryz.ntmps39
    go_wp2_with fail
    go_ret
    exact ⟨rfl, rfl⟩
  rw [if_neg h8]
  have b8 : (k == 8) = false := by simpa using h8
  clear h6 h8
  go_enter Tryz.func39, Tryz.ntmps39
  go_wp2_with fail
  go_ret
  exact ⟨rfl, rfl⟩
set_option maxHeartbeats 8000000
set_option maxRecDepth 100000
theorem RG.s2 {W w : World} {pg pe pc : Nat} {pr r : Rf} {d : DS} {b : Int} (h : RG W w ⟨pg, pe, pc, pr⟩ ⟨pg, pe, pc, r⟩ d) (hr : r.g = pr.g) (hb : d.b = b) : w.cell? ⟨pg, 0, none⟩ = some (.pointer (some ⟨pr.g, 0, none⟩)) ∧ w.cell? ⟨pg, 2, none⟩ = some (.int .i64 b) := by
  refine ⟨h.s0 hr, ?_⟩
  rw [← hb]
  exact h.db.c2
theorem rwrite_g (w : World) (r : Rf) (m : MS) (h : RMem w r m) (g : Nat) (hg : r.g = g) (s : Bool) (p off v : Int) : Calls Tryz.prog 84 #[.pointer (some ⟨g, 0, none⟩), fr s p, .int .i64 off, .int .u32 v] w fun x w' => x = .returned (.int .i64 (m.err s p off)) ∧ ∃ r', RSt w w' r r' (m.write s p off v) := by
  subst hg
  exact rwrite_any w r m h s p off v
theorem bear_s {d : DS} {s f : Int} (h : d.there s = false) : d.bearE s f = 5 := by simp [DS.bearE, DS.entE, h]
theorem bear_f {d : DS} {s f : Int} (h : d.there s = true) (h1 : d.there f = false) : d.bearE s f = 5 := by simp [DS.bearE, DS.entE, h, h1]
theorem bear_e {d : DS} {s f : Int} (_h : d.there s = true) (h1 : d.there f = true) (h2 : s = f) : d.bearE s f = 1 := by simp [DS.bearE, DS.entE, h1, h2]
theorem bear_u {d : DS} {s f : Int} (h : d.there s = true) (h1 : d.there f = true) (h2 : s ≠ f) (h3 : (d.ent s).t ≠ 0) : d.bearE s f = 120 := by simp [DS.bearE, DS.entE, h, h1, h2, h3]
theorem bear_v {d : DS} {s f : Int} (h : d.there s = true) (h1 : d.there f = true) (h2 : s ≠ f) (h3 : (d.ent s).t = 0) (h4 : (d.ent f).t ≠ 0) : d.bearE s f = 120 := by simp [DS.bearE, DS.entE, h, h1, h2, h3, h4]
theorem bear_b {d : DS} {s f : Int} (h : d.there s = true) (h1 : d.there f = true) (h2 : s ≠ f) (h3 : (d.ent s).t = 0) (h4 : (d.ent f).t = 0) (h5 : 64 ≤ d.b) : d.bearE s f = 240 := by simp [DS.bearE, DS.entE, h, h1, h2, h3, h4, h5]
theorem bear_y {d : DS} {s f : Int} (h : d.there s = true) (h1 : d.there f = true) (h2 : s ≠ f) (h3 : (d.ent s).t = 0) (h4 : (d.ent f).t = 0) (h5 : d.b < 64) : d.bearE s f = 0 := by
  have : ¬ 64 ≤ d.b := by omega
  simp [DS.bearE, DS.entE, h, h1, h2, h3, h4, this]
theorem rtakeSpace_any (W : World) (p : Rp) (d : DS) (h : RDB W p d) (s f : Int) :
    Calls Tryz.prog 82 #[ptr p.g, .int .i64 s, .int .i64 f] W fun e W' => e = .returned (.int .i64 (d.bearE s f)) ∧ ∃ r', RG W W' p ⟨p.g, p.ge, p.cap, r'⟩ (d.takeSpace s f) := by
  unfold DS.takeSpace
  have c1 := h.c1
  have HG := hid (RG.start h)
  by_cases hs : d.there s = true
  · obtain ⟨s0, s1, es⟩ := there_lt hs
    have s2 : s < (d.m.ns : Int) := by omega
    by_cases hf : d.there f = true
    · obtain ⟨f0, f1, ef⟩ := there_lt hf
      have f2 : f < (d.m.ns : Int) := by omega
      obtain ⟨x0, x1, x2, x3, x4⟩ := h.row s.toNat s1
      obtain ⟨y0, y1, y2, y3, y4⟩ := h.row f.toNat f1
      rw [← ent_at hs] at x0 x1 x2 x3 x4
      rw [← ent_at hf] at y0 y1 y2 y3 y4
      have c2 := h.c2
      by_cases h3 : s = f
      · rw [if_neg (by rw [bear_e hs hf h3]; decide), bear_e hs hf h3]
        subst h3
        clear y0 y1 y2 y3 y4 x0 x1 x2 x3 x4 h hs hf ef
        generalize s.toNat = k at *
        subst es
        generalize d.m.ns = n at *
        simp only [ptr] at *
        go_enter Tryz.func82, Tryz.ntmps82
        go_wp2_with fail
        go_ret
        exact ⟨rfl, p.r, HG.out⟩
      · by_cases h4 : (d.ent s).t = 0
        · by_cases h5 : (d.ent f).t = 0
          · by_cases h6 : 64 ≤ d.b
            · rw [if_neg (by rw [bear_b hs hf h3 h4 h5 h6]; decide), bear_b hs hf h3 h4 h5 h6]
              have h3' : (s == f) = false := by simpa using h3
              rw [h4] at x0
              rw [h5] at y0
              generalize d.ent s = X at *
              generalize d.ent f = Y at *
              clear h hs hf h3 h4 h5
              generalize s.toNat = k at *
              generalize f.toNat = j at *
              subst es
              subst ef
              generalize d.m.ns = n at *
              simp only [ptr] at *
              go_enter Tryz.func82, Tryz.ntmps82
              go_wp2_with fail
              go_ret
              exact ⟨rfl, p.r, HG.out⟩
            · have h6' : d.b < 64 := by omega
              have hz := bear_y hs hf h3 h4 h5 h6'
              rw [if_pos hz, hz]
              have h3' : (s == f) = false := by simpa using h3
              have n64 := h.ok.n64
              have b0 := h.ok.b0
              have HFZ := hid (fun i => h.fz i)
              have HL1 := hid (fun w' e => HG.out.lay5 (w' := w') f.toNat f1 (enF s) (enF_ok s0 (by omega)) (by simpa [enF] using s2) e)
              have HL2 := hid (fun w (hw : RG W w p p (d.lay f.toNat (enF s))) w' e => hw.lay5 (w' := w') s.toNat s1 (enS s) (enS_ok s0 (by omega)) (by simpa [enS, DS.lay] using s2) e)
              have HR2 := hid (fun w (hw : RG W w p p (d.lay f.toNat (enF s))) => And.intro hw.db.c1 (And.intro (hw.db.row s.toNat s1) (fun i => hw.db.fz i)))
              have HSP : Hid (d.space s f = { (d.lay f.toNat (enF s)).lay s.toNat (enS s) with m := d.m.born s f d.b, b := d.b + 1 }) := hid rfl
              have HN : Hid ((d.lay f.toNat (enF s)).m.ns = d.m.ns) := hid rfl
              have HD2 : Hid (((d.lay f.toNat (enF s)).lay s.toNat (enS s)).m = d.m ∧ ((d.lay f.toNat (enF s)).lay s.toNat (enS s)).b = d.b) := hid ⟨rfl, rfl⟩
              have wf : f % 4294967296 = f := by omega
              have wf2 : IntKind.wrap .u32 f = f := wr32 f (by omega) (by omega)
              have wb2 : IntKind.wrap .u32 d.b = d.b := wr32 d.b b0 (by omega)
              have wb : d.b % 4294967296 = d.b := by omega
              have wb3 : wrap64 (d.b + 1) = d.b + 1 := by unfold wrap64; omega
              have HBB := hid h6'
              rw [h4] at x0
              rw [h5] at y0
              generalize d.lay f.toNat (enF s) = d1 at *
              generalize d1.lay s.toNat (enS s) = d2 at *
              generalize d1.at s.toNat = Z at *
              generalize d.ent s = X at *
              generalize d.ent f = Y at *
              clear h hs hf h3 h4 h5 h6 hz
              generalize s.toNat = k at *
              generalize f.toNat = j at *
              subst es
              subst ef
              generalize d.m.ns = n at *
              obtain ⟨pg, pe, pc, pr⟩ := p
              simp only [ptr, enF, enS] at *
              have g0 := HFZ.out (j * 5)
              have g1 := HFZ.out (j * 5 + 1)
              have g2 := HFZ.out (j * 5 + 2)
              have g3 := HFZ.out (j * 5 + 3)
              have g4 := HFZ.out (j * 5 + 4)
              go_enter Tryz.func82, Tryz.ntmps82
              go_upto_region 10 with fail
              generalize hX8 : World.setCell _ _ _ = x8
              have HG1 := hid (HL1.out _ hX8)
              clear hX8 x0 x1 x2 x3 x4 y0 y1 y2 y3 y4 c1 c2 g0 g1 g2 g3 g4 HL1
              obtain ⟨c1, ⟨x0, x1, x2, x3, x4⟩, hz⟩ := HR2.out _ HG1.out
              rw [HN.out] at c1
              have g0 := hz (k * 5)
              have g1 := hz (k * 5 + 1)
              have g2 := hz (k * 5 + 2)
              have g3 := hz (k * 5 + 3)
              have g4 := hz (k * 5 + 4)
              have HL3 := hid (HL2.out _ HG1.out)
              clear hz HR2 HL2
              go_upto_region 11 with fail
              generalize hX9 : World.setCell _ _ _ = x9
              have HG2 := hid (HL3.out _ hX9)
              clear hX9 x0 x1 x2 x3 x4 c1 g0 g1 g2 g3 g4 HL3 HG1
              have HA0 := hid (HG2.out.on (Below.refl _ _).drew)
              have HB0 : Hid (d2.b = d.b) := hid HD2.out.2
              refine wp_region_held_drew (S := fun w => w.cell? ⟨pg, 0, none⟩ = some (.pointer (some ⟨pr.g, 0, none⟩)) ∧ w.cell? ⟨pg, 2, none⟩ = some (.int .i64 d.b)) (by kernel_rfl) (HA0.out.s2 rfl HB0.out) (fun hHeld => ?_)
              refine tk 0 (some 75) (.pointer (some ⟨pg, 0, none⟩)) ?_
              simp only [Act.put, tqA, tqZ, tqS]
              refine tk 1 (some 76) (.pointer (some ⟨pg, 0, none⟩)) ?_
              simp only [Act.put, tqA, tqZ, tqS]
              refine tk 2 (some 77) (.pointer (some ⟨pg, 0, none⟩)) ?_
              simp only [Act.put, tqA, tqZ, tqS]
              refine tk 3 (some 78) (.pointer (some ⟨pr.g, 0, none⟩)) ?_ (hy := Or.inl ⟨by rfl, by intro w hSw; have hc := hSw.1; go_simp⟩)
              simp only [Act.put, tqA, tqZ, tqS]
              refine tk 4 (some 79) (.int .i64 (k : Int)) ?_
              simp only [Act.put, tqA, tqZ, tqS]
              refine tk 6 (some 81) (.int .i64 (j : Int)) ?_
              simp only [Act.put, tqA, tqZ, tqS]
              refine tk 7 (some 82) (.int .u32 (j : Int)) ?_
              simp only [Act.put, tqA, tqZ, tqS]
              refine wpAnyH_ready (rs := [5]) (by kernel_rfl) (by simp) (AllReadyH.cons rfl (fun KQ hK => ?_) AllReadyH.nil)
              go_simp
              refine (rframe_any _ (k : Int)).mono ?_
              rintro e w3 ⟨rfl, hb⟩
              have HA1 := hid (HA0.out.on hb)
              clear hb
              go_wp2_with fail
              refine hK.out _ _ (HA1.out.s2 rfl HB0.out) (fun hHeld => ?_)
              clear hK KQ
              try simp only [Act.put, tqA, tqZ, tqS]
              refine wpAnyH_ready (rs := [8]) (by kernel_rfl) (by simp) (AllReadyH.cons rfl (fun KQ hK => ?_) AllReadyH.nil)
              go_simp
              refine (rwrite_g _ _ _ HA1.out.db.mem pr.g rfl true (k : Int) 0 (j : Int)).mono ?_
              rintro e w4 ⟨rfl, r1, hs⟩
              have HR1 := hid (hs.g.trans rfl)
              have HA2 := hid (HA1.out.mem hs (MS.write_ns _ _ _ _ _))
              clear hs
              go_wp2_with fail
              refine hK.out _ _ (HA2.out.s2 HR1.out HB0.out) (fun hHeld => ?_)
              clear hK KQ
              try simp only [Act.put, tqA, tqZ, tqS]
              refine wpAnyH_done (by kernel_rfl) ?_ _
              go_upto_region 12 with fail
              have HA3 := hid (HA2.out.on (Below.refl _ _).drew)
              clear HA0 HA1 HA2
              refine wp_region_held_drew (S := fun w => w.cell? ⟨pg, 0, none⟩ = some (.pointer (some ⟨pr.g, 0, none⟩)) ∧ w.cell? ⟨pg, 2, none⟩ = some (.int .i64 d.b)) (by kernel_rfl) (HA3.out.s2 HR1.out HB0.out) (fun hHeld => ?_)
              refine tk 0 (some 84) (.pointer (some ⟨pg, 0, none⟩)) ?_
              simp only [Act.put, tqA, tqZ, tqS]
              refine tk 1 (some 85) (.pointer (some ⟨pg, 0, none⟩)) ?_
              simp only [Act.put, tqA, tqZ, tqS]
              refine tk 2 (some 86) (.pointer (some ⟨pg, 0, none⟩)) ?_
              simp only [Act.put, tqA, tqZ, tqS]
              refine tk 3 (some 87) (.pointer (some ⟨pr.g, 0, none⟩)) ?_ (hy := Or.inl ⟨by rfl, by intro w hSw; have hc := hSw.1; go_simp⟩)
              simp only [Act.put, tqA, tqZ, tqS]
              refine tk 4 (some 88) (.int .i64 (k : Int)) ?_
              simp only [Act.put, tqA, tqZ, tqS]
              refine tk 6 (some 90) (.pointer (some ⟨pg, 0, none⟩)) ?_
              simp only [Act.put, tqA, tqZ, tqS]
              refine tk 7 (some 91) (.pointer (some ⟨pg, 0, none⟩)) ?_
              simp only [Act.put, tqA, tqZ, tqS]
              refine tk 8 (some 92) (.pointer (some ⟨pg, 2, none⟩)) ?_
              simp only [Act.put, tqA, tqZ, tqS]
              refine tk 9 (some 93) (.int .i64 d.b) ?_ (hy := Or.inl ⟨by rfl, by intro w hSw; have hc := hSw.2; go_simp⟩)
              simp only [Act.put, tqA, tqZ, tqS]
              refine tk 10 (some 94) (.int .u32 d.b) ?_
              simp only [Act.put, tqA, tqZ, tqS]
              refine wpAnyH_ready (rs := [5]) (by kernel_rfl) (by simp) (AllReadyH.cons rfl (fun KQ hK => ?_) AllReadyH.nil)
              go_simp
              refine (rframe_any _ (k : Int)).mono ?_
              rintro e w5 ⟨rfl, hb⟩
              have HA4 := hid (HA3.out.on hb)
              clear hb
              go_wp2_with fail
              refine hK.out _ _ (HA4.out.s2 HR1.out HB0.out) (fun hHeld => ?_)
              clear hK KQ
              try simp only [Act.put, tqA, tqZ, tqS]
              refine wpAnyH_ready (rs := [11]) (by kernel_rfl) (by simp) (AllReadyH.cons rfl (fun KQ hK => ?_) AllReadyH.nil)
              go_simp
              refine (rwrite_g _ _ _ HA4.out.db.mem pr.g HR1.out true (k : Int) 1 d.b).mono ?_
              rintro e w6 ⟨rfl, r2, hs⟩
              have HR2 := hid (hs.g.trans HR1.out)
              have HA5 := hid (HA4.out.mem hs (MS.write_ns _ _ _ _ _))
              clear hs
              go_wp2_with fail
              refine hK.out _ _ (HA5.out.s2 HR2.out HB0.out) (fun hHeld => ?_)
              clear hK KQ
              try simp only [Act.put, tqA, tqZ, tqS]
              refine wpAnyH_done (by kernel_rfl) ?_ _
              go_upto_region 13 with fail
              have HA6 := hid (HA5.out.on (Below.refl _ _).drew)
              clear HA3 HA4 HA5
              refine wp_region_held_drew (S := fun w => w.cell? ⟨pg, 0, none⟩ = some (.pointer (some ⟨pr.g, 0, none⟩)) ∧ w.cell? ⟨pg, 2, none⟩ = some (.int .i64 d.b)) (by kernel_rfl) (HA6.out.s2 HR2.out HB0.out) (fun hHeld => ?_)
              refine tk 0 (some 96) (.pointer (some ⟨pg, 0, none⟩)) ?_
              simp only [Act.put, tqA, tqZ, tqS]
              refine tk 1 (some 97) (.pointer (some ⟨pg, 0, none⟩)) ?_
              simp only [Act.put, tqA, tqZ, tqS]
              refine tk 2 (some 98) (.pointer (some ⟨pg, 0, none⟩)) ?_
              simp only [Act.put, tqA, tqZ, tqS]
              refine tk 3 (some 99) (.pointer (some ⟨pr.g, 0, none⟩)) ?_ (hy := Or.inl ⟨by rfl, by intro w hSw; have hc := hSw.1; go_simp⟩)
              simp only [Act.put, tqA, tqZ, tqS]
              refine tk 4 (some 100) (.int .i64 (k : Int)) ?_
              simp only [Act.put, tqA, tqZ, tqS]
              refine wpAnyH_ready (rs := [5]) (by kernel_rfl) (by simp) (AllReadyH.cons rfl (fun KQ hK => ?_) AllReadyH.nil)
              go_simp
              refine (rframe_any _ (k : Int)).mono ?_
              rintro e w7 ⟨rfl, hb⟩
              have HA7 := hid (HA6.out.on hb)
              clear hb
              go_wp2_with fail
              refine hK.out _ _ (HA7.out.s2 HR2.out HB0.out) (fun hHeld => ?_)
              clear hK KQ
              try simp only [Act.put, tqA, tqZ, tqS]
              refine wpAnyH_ready (rs := [6]) (by kernel_rfl) (by simp) (AllReadyH.cons rfl (fun KQ hK => ?_) AllReadyH.nil)
              go_simp
              refine (rwrite_g _ _ _ HA7.out.db.mem pr.g HR2.out true (k : Int) 2 0).mono ?_
              rintro e w8 ⟨rfl, r3, hs⟩
              have HR3 := hid (hs.g.trans HR2.out)
              have HA8 := hid (HA7.out.mem hs (MS.write_ns _ _ _ _ _))
              clear hs
              go_wp2_with fail
              refine hK.out _ _ (HA8.out.s2 HR3.out HB0.out) (fun hHeld => ?_)
              clear hK KQ
              try simp only [Act.put, tqA, tqZ, tqS]
              refine wpAnyH_done (by kernel_rfl) ?_ _
              obtain ⟨k0, k2⟩ := HA8.out.s2 HR3.out HB0.out
              have kf := HA8.out.db.cel.free 2
              have HZ := hid (HA8.out.born (by show d2.b < 64; rw [HB0.out]; exact HBB.out))
              go_wp2_with fail
              go_ret
              refine ⟨rfl, r3, ?_⟩
              have hz := HZ.out
              rw [HSP.out]
              rw [MS.born, ← HD2.out.1, ← HD2.out.2]
              simp only [HB0.out] at hz ⊢
              exact hz
          · rw [if_neg (by rw [bear_v hs hf h3 h4 h5]; decide), bear_v hs hf h3 h4 h5]
            have h3' : (s == f) = false := by simpa using h3
            have h5' : ((d.ent f).t != 0) = true := by simpa using h5
            have h5'' : ((d.ent f).t == 0) = false := by simpa using h5
            rw [h4] at x0
            generalize d.ent s = X at *
            generalize d.ent f = Y at *
            clear h hs hf h3 h4 h5
            generalize s.toNat = k at *
            generalize f.toNat = j at *
            subst es
            subst ef
            generalize d.m.ns = n at *
            simp only [ptr] at *
            go_enter Tryz.func82, Tryz.ntmps82
            go_wp2_with fail
            go_ret
            exact ⟨rfl, p.r, HG.out⟩
        · rw [if_neg (by rw [bear_u hs hf h3 h4]; decide), bear_u hs hf h3 h4]
          have h3' : (s == f) = false := by simpa using h3
          have h4' : ((d.ent s).t != 0) = true := by simpa using h4
          have h4'' : ((d.ent s).t == 0) = false := by simpa using h4
          generalize d.ent s = X at *
          generalize d.ent f = Y at *
          clear h hs hf h3 h4
          generalize s.toNat = k at *
          generalize f.toNat = j at *
          subst es
          subst ef
          generalize d.m.ns = n at *
          simp only [ptr] at *
          go_enter Tryz.func82, Tryz.ntmps82
          go_wp2_with fail
          go_ret
          exact ⟨rfl, p.r, HG.out⟩
    · have hf' : d.there f = false := by simpa using hf
      rw [if_neg (by rw [bear_f hs hf']; decide), bear_f hs hf']
      rcases there_cases hf' with hc | ⟨h0, hc⟩
      · clear h hs hf hf'
        generalize s.toNat = k at *
        subst es
        generalize d.m.ns = n at *
        simp only [ptr] at *
        go_enter Tryz.func82, Tryz.ntmps82
        go_wp2_with fail
        go_ret
        exact ⟨rfl, p.r, HG.out⟩
      · clear h hs hf hf'
        generalize s.toNat = k at *
        subst es
        generalize d.m.ns = n at *
        simp only [ptr] at *
        go_enter Tryz.func82, Tryz.ntmps82
        go_wp2_with fail
        go_ret
        exact ⟨rfl, p.r, HG.out⟩
  · have hs' : d.there s = false := by simpa using hs
    rw [if_neg (by rw [bear_s hs']; decide), bear_s hs']
    rcases there_cases hs' with hc | ⟨h0, hc⟩
    · clear h hs hs'
      generalize d.m.ns = n at *
      simp only [ptr] at *
      go_enter Tryz.func82, Tryz.ntmps82
      go_wp2_with fail
      go_ret
      exact ⟨rfl, p.r, HG.out⟩
    · clear h hs hs'
      generalize d.m.ns = n at *
      simp only [ptr] at *
      go_enter Tryz.func82, Tryz.ntmps82
      go_wp2_with fail
      go_ret
      exact ⟨rfl, p.r, HG.out⟩
set_option maxHeartbeats 4000000
set_option maxRecDepth 100000
theorem Hl.one (W : World) (x : Int) : Hl W (W.alloc (.cells #[.int .u32 x] 43)) (.slice (some ⟨W.heap.size, 0, none⟩) 1 1) [x] :=
  ⟨⟨rfl, .inr ⟨W.heap.size, 1, #[.int .u32 x], rfl, Nat.le_refl _, heap_alloc_new _ _, Nat.le_refl _, by unfold maxLen; decide, rfl, rfl⟩⟩, below_one _ _⟩
def dws (b : Int) (E : List En) (j : Nat) : List Int := b :: (E.take j).flatMap ew
theorem dws_succ (b : Int) (E : List En) (j : Nat) (h : j < E.length) : dws b E (j + 1) = dws b E j ++ [e0 (E.getD j En.zero), e1 (E.getD j En.zero)] := by
  have e : E.take (j + 1) = E.take j ++ [E.getD j En.zero] := by
    rw [List.take_add_one, List.getD_eq_getElem?_getD]
    simp [h]
  simp [dws, e, ew]
theorem dws_len (b : Int) (E : List En) (j : Nat) (h : j ≤ E.length) : (dws b E j).length = 1 + 2 * j := by
  rw [dws, List.length_cons, flat_len, List.length_take]
  omega
theorem dws_all (b : Int) (E : List En) : dws b E E.length = wdsOf b E := by simp [dws, wdsOf]
theorem new_src2 (w : World) (x y : Int) : ∀ j u, (u32s [x, y])[j]? = some u → (w.alloc (.cells #[.int .u32 x, .int .u32 y] 43)).cell? ((⟨w.heap.size, 0, none⟩ : Addr).add j) = some u := (Cel.new w 43 (u32s [x, y])).src
theorem rwords_any (W : World) (p : Rp) (d : DS) (h : RDB W p d) :
    Calls Tryz.prog 87 #[ptr p.g] W fun x W' => ∃ v, x = .returned v ∧ Hl W W' v d.ws := by
  have c1 := h.c2
  have HW := hid h
  have HN : Hid (d.m.ns ≤ 64) := hid h.ok.n64
  have HE : Hid (d.E.length = d.m.ns) := hid h.ok.len
  have HR := hid (fun w (hw : RDB w p d) k hk => And.intro hw.c1 (hw.rng k hk))
  have HC := hid (fun w (hw : RDB w p d) => hw.c1)
  have HK := hid (fun w k => rencode_any w (d.at k))
  have wb : d.b % 4294967296 = d.b := by have := h.ok.b0; have := h.ok.b1; omega
  have HS0 := hid (Hl.one W d.b)
  clear h
  generalize d.m.ns = n at *
  simp only [ptr, En.v, twoV, two] at *
  go_enter Tryz.func87, Tryz.ntmps87
  go_wp2_with fail
  generalize W.alloc _ = X at *
  have HL0 : Hid (Hl W X (.slice (some ⟨W.heap.size, 0, none⟩) 1 1) (dws d.b d.E 0)) := HS0
  clear HS0 c1
  go_loopw [3, 4] (fun l i wr => ∃ j : Nat, j ≤ n ∧ i = .int .i64 (j : Int) ∧ Hid (Hl W wr l (dws d.b d.E j))) (fun _ i _ => n - (intOf i).toNat)
  case atStart => exact ⟨0, Nat.zero_le _, rfl, HL0⟩
  case round =>
    obtain ⟨j, hj, rfl, HQ⟩ := hrel
    clear HL0
    by_cases hlt : j < n
    · have q1 : (j : Int) < (n : Int) := by omega
      have HRW := hid (HW.out.on HQ.out.below)
      have c1 := HC.out _ HRW.out
      have HRR := hid (HR.out _ HRW.out j hlt).2
      have HJ := hid hlt
      have hn64 := HN.out
      have j64 : (j : Int) ≤ 64 := by omega
      have HS := hid (dws_succ d.b d.E j (by rw [HE.out]; exact hlt))
      have hll := dws_len d.b d.E j (by rw [HE.out]; exact hj)
      have hby : ((dws d.b d.E j).length + 2) * 4 ≤ 140737488355328 := by omega
      have HK2 := hid (fun w => HK.out w j)
      have hat : d.E.getD j En.zero = d.at j := rfl
      rw [hat] at HS
      clear hat
      generalize d.at j = D at *
      obtain ⟨ao, cc, hvf, _⟩ := HQ.out.form
      subst hvf
      clear hll hn64 hlt hj
      generalize dws d.b d.E j = LL at *
      generalize e0 D = a0 at *
      generalize e1 D = a1 at *
      generalize chk D = ck at *
      go_upto_region 6 with (first | (refine wpList_load_mid rfl 144 _ rfl p.ge (j * 5) (by go_simp) _ _ HRR.out underR rfl (by rw [sizeR]; rfl) ?_) | (go_at_call 133; refine (HK2.out _).mono ?_; rintro e w1 ⟨rfl, hb⟩; have HB1 := hid hb; clear hb) | (refine wpList_store_st rfl 162 _ _ rfl w1.heap.size [.int .u32 a0, .int .u32 a1] rfl rfl (Cel.new w1 162 [.int .u32 0, .int .u32 0]) sizeA rfl rfl ?_; intro w2 hc hb hs; have HC5 := hid hc; have HB2 := hid (new_below HB1.out hb); clear hc hb hs))
      have k0 := HC5.out.cell 0
      have k1 := HC5.out.cell 1
      simp only [tqG, tqH] at k0 k1
      generalize w1.heap.size = g5 at *
      have HQ2 := hid (HQ.out.on HB2.out)
      have HQ3 := hid (HQ2.out.on (below_one w2 (.cells #[.int .u32 a0, .int .u32 a1] 43)))
      clear c1
      go_wp2_with (at_builtin; refine wpList_append_w (W := W) rfl _ _ rfl (.slice ao LL.length cc) LL rfl HQ3.out ⟨w2.heap.size, 0, none⟩ 2 2 [a0, a1] rfl rfl (new_src2 _ a0 a1) hby ?_; intro v' w3 H3 _; obtain ⟨ao2, cc2, e9, _⟩ := H3.form; subst e9; have HN2 := hid H3; clear H3)
      go_roundw
      case measure => have := HJ.out; simp [intOf] <;> omega
      case rel => exact ⟨j + 1, HJ.out, by simp, by rw [HS.out]; have h9 := HN2.out; rw [List.length_append] at h9; exact hid h9⟩
    · have hjn : j = n := by omega
      subst hjn
      have c1 := HC.out _ (HW.out.on HQ.out.below)
      go_wp2_with fail
      go_ret
      refine ⟨_, rfl, ?_⟩
      have h9 := HQ.out
      rw [← HE.out, dws_all] at h9
      exact h9
structure TP (W w : World) (p : Dp) (r q : Rp) (d e : DS) (L : List (Nat × TypeId × List Value)) : Prop where
  own : DB w p d
  doc : RDB w q e
  g : q.g = r.g
  but : ButL (p.all ++ r.all) W w
  sub : ∀ k ∈ q.all, k ∈ r.all ∨ W.heap.size ≤ k
  ap : ∀ k ∈ p.all, k ∉ q.all
  bag : ∀ x ∈ L, Cel w x.1 x.2.1 x.2.2
  bnew : ∀ x ∈ L, W.heap.size ≤ x.1
  boff : ∀ x ∈ L, x.1 ∉ q.all
  bown : ∀ x ∈ L, x.1 ∉ p.all
theorem TP.start {W : World} {p : Dp} {r : Rp} {d e : DS} (h : DB W p d) (h' : RDB W r e) (ha : ∀ k ∈ p.all, k ∉ r.all) : TP W W p r r d e [] :=
  ⟨h, h', rfl, .refl _ _, fun _ hk => .inl hk, ha, by simp, by simp, by simp, by simp⟩
theorem TP.on {W w w' : World} {p : Dp} {r q : Rp} {d e : DS} {L : List (Nat × TypeId × List Value)} (h : TP W w p r q d e L) (hb : Below w.heap.size w w') : TP W w' p r q d e L :=
  ⟨h.own.on hb, h.doc.on hb, h.g, h.but.on hb, h.sub, h.ap, fun x hx => (h.bag x hx).on hb, h.bnew, h.boff, h.bown⟩
theorem TP.box {W w : World} {p : Dp} {r q : Rp} {d e : DS} {L : List (Nat × TypeId × List Value)} (h : TP W w p r q d e L) (t : TypeId) (cs : List Value) : TP W (w.alloc (.cells cs.toArray t)) p r q d e ((w.heap.size, t, cs) :: L) := by
  have h1 := h.on (below_one w (.cells cs.toArray t))
  refine ⟨h1.own, h1.doc, h1.g, h1.but, h1.sub, h1.ap, fun x hx => ?_, fun x hx => ?_, fun x hx => ?_, fun x hx => ?_⟩
  · rcases List.mem_cons.1 hx with rfl | hx
    · exact Cel.new w t cs
    · exact h1.bag x hx
  · rcases List.mem_cons.1 hx with rfl | hx
    · exact h.but.size
    · exact h1.bnew x hx
  · rcases List.mem_cons.1 hx with rfl | hx
    · intro hm; exact Nat.lt_irrefl _ (h.doc.lt _ hm)
    · exact h1.boff x hx
  · rcases List.mem_cons.1 hx with rfl | hx
    · intro hm; exact Nat.lt_irrefl _ (h.own.lt _ hm)
    · exact h1.bown x hx
theorem TP.get {W w : World} {p : Dp} {r q : Rp} {d e : DS} {L : List (Nat × TypeId × List Value)} (h : TP W w p r q d e L) (k : Nat) {g : Nat} {t : TypeId} {cs : List Value} (hk : L[k]? = some (g, t, cs)) : Cel w g t cs := h.bag _ (List.mem_of_getElem? hk)
theorem TP.put {W w w' : World} {p : Dp} {r q : Rp} {d e : DS} {g : Nat} {t : TypeId} {cs es : List Value} {L : List (Nat × TypeId × List Value)} (h : TP W w p r q d e ((g, t, cs) :: L)) (hn : ∀ x ∈ L, x.1 ≠ g) (hc : Cel w' g t es) (hb : ButL [g] w w') : TP W w' p r q d e ((g, t, es) :: L) := by
  have hg := h.bnew (g, t, cs) (by simp)
  have hgo := h.bown (g, t, cs) (by simp)
  have hgq := h.boff (g, t, cs) (by simp)
  simp only at hg hgo hgq
  refine ⟨h.own.frame hb (fun k hk hm => ?_), h.doc.frame hb (fun k hk hm => ?_), h.g, h.but.trans_sub hb (fun k hk => ?_), h.sub, h.ap, fun x hx => ?_, fun x hx => ?_, fun x hx => ?_, fun x hx => ?_⟩
  · rw [List.mem_singleton] at hm; subst hm; exact hgo hk
  · rw [List.mem_singleton] at hm; subst hm; exact hgq hk
  · rw [List.mem_singleton] at hk; subst hk; exact .inr hg
  · rcases List.mem_cons.1 hx with rfl | hx
    · exact hc
    · exact (h.bag x (by simp [hx])).but hb (by rw [List.mem_singleton]; exact hn x hx)
  · rcases List.mem_cons.1 hx with rfl | hx
    · exact hg
    · exact h.bnew x (by simp [hx])
  · rcases List.mem_cons.1 hx with rfl | hx
    · exact hgq
    · exact h.boff x (by simp [hx])
  · rcases List.mem_cons.1 hx with rfl | hx
    · exact hgo
    · exact h.bown x (by simp [hx])
theorem TP.stepR {W w w' : World} {p : Dp} {r q q' : Rp} {d e e' : DS} {L : List (Nat × TypeId × List Value)} (h : TP W w p r q d e L) (hR : RG w w' q q' e') : TP W w' p r q' d e' L := by
  have hs := h.but.size
  refine ⟨h.own.frame hR.but (fun k hk => h.ap k hk), hR.db, hR.g.trans h.g, h.but.trans_sub hR.but (fun k hk => (h.sub k hk).imp (fun h => List.mem_append_right _ h) id), fun k hk => ?_, fun k hk hm => ?_, fun x hx => (h.bag x hx).but hR.but (h.boff x hx), h.bnew, fun x hx hm => ?_, h.bown⟩
  · rcases hR.sub k hk with hk | hk
    · exact h.sub k hk
    · exact .inr (Nat.le_trans hs hk)
  · rcases hR.sub k hm with hm | hm
    · exact h.ap k hk hm
    · have := h.own.lt k hk; omega
  · rcases hR.sub _ hm with hm | hm
    · exact h.boff x hx hm
    · have := (h.bag x hx).lt; omega
theorem TP.stepA {W w w' : World} {p : Dp} {r q : Rp} {d d' e : DS} {L : List (Nat × TypeId × List Value)} (h : TP W w p r q d e L) (hd : DB w' p d') (hb : ButL p.w w w') : TP W w' p r q d' e L :=
  ⟨hd, h.doc.frame hb (fun k hk hm => h.ap k (Dp.w_all hm) hk), h.g, h.but.trans_sub hb (fun _ hk => .inl (List.mem_append_left _ (Dp.w_all hk))), h.sub, h.ap, fun x hx => (h.bag x hx).but hb (fun hm => h.bown x hx (Dp.w_all hm)), h.bnew, h.boff, h.bown⟩
theorem TP.drop {W w : World} {p : Dp} {r q : Rp} {d e : DS} {L : List (Nat × TypeId × List Value)} (h : TP W w p r q d e L) : TP W w p r q d e [] :=
  ⟨h.own, h.doc, h.g, h.but, h.sub, h.ap, by simp, by simp, by simp, by simp⟩
theorem TP.pair {W w : World} {p : Dp} {r q : Rp} {d e : DS} {L : List (Nat × TypeId × List Value)} (h : TP W w p r q d e L) (k : Nat) {g : Nat} {t : TypeId} {a b : Value} (hk : L[k]? = some (g, t, [a, b])) : w.cell? ⟨g, 0, none⟩ = some a ∧ w.cell? ⟨g, 1, none⟩ = some b :=
  ⟨(h.get k hk).cell 0, (h.get k hk).cell 1⟩
theorem TP.op {W w : World} {p : Dp} {r q : Rp} {d e : DS} {L : List (Nat × TypeId × List Value)} (h : TP W w p r q d e L) (k : Nat) {g : Nat} {t : TypeId} {a0 a1 a2 a3 a4 a5 a6 a7 : Value} (hk : L[k]? = some (g, t, [a0, a1, a2, a3, a4, a5, a6, a7])) : w.cell? ⟨g, 0, none⟩ = some a0 ∧ w.cell? ⟨g, 1, none⟩ = some a1 ∧ w.cell? ⟨g, 2, none⟩ = some a2 ∧ w.cell? ⟨g, 3, none⟩ = some a3 ∧ w.cell? ⟨g, 4, none⟩ = some a4 ∧ w.cell? ⟨g, 5, none⟩ = some a5 ∧ w.cell? ⟨g, 6, none⟩ = some a6 ∧ w.cell? ⟨g, 7, none⟩ = some a7 :=
  ⟨(h.get k hk).cell 0, (h.get k hk).cell 1, (h.get k hk).cell 2, (h.get k hk).cell 3, (h.get k hk).cell 4, (h.get k hk).cell 5, (h.get k hk).cell 6, (h.get k hk).cell 7⟩
set_option maxHeartbeats 8000000
set_option maxRecDepth 100000
structure NP (W w : World) (p : Dp) (r : Rp) (d e : DS) : Prop where
  own : DB w p d
  doc : RDB w r e
  bl : Below W.heap.size W w
  pn : ∀ k ∈ p.all, W.heap.size ≤ k
  rn : ∀ k ∈ r.all, W.heap.size ≤ k
  ap : ∀ k ∈ p.all, k ∉ r.all
  sim : DS.Sim d e
theorem NP.on {W w w' : World} {p : Dp} {r : Rp} {d e : DS} (h : NP W w p r d e) (hb : Below w.heap.size w w') : NP W w' p r d e := ⟨h.own.on hb, h.doc.on hb, below_on h.bl hb, h.pn, h.rn, h.ap, h.sim⟩
theorem NP.tp {W w w' : World} {p : Dp} {r q : Rp} {d e d' e' : DS} {L : List (Nat × TypeId × List Value)} (h : NP W w p r d e) (k : TP w w' p r q d' e' L) (hs : DS.Sim d' e') : NP W w' p q d' e' := by
  have h1 := h.bl.size
  refine ⟨k.own, k.doc, h.bl.trans (k.but.below (B := W.heap.size) (fun x hx => ?_) h1), h.pn, fun x hx => ?_, k.ap, hs⟩
  · rcases List.mem_append.1 hx with hx | hx
    · exact h.pn x hx
    · exact h.rn x hx
  · rcases k.sub x hx with hx | hx
    · exact h.rn x hx
    · omega
theorem NP.gl {W w : World} {p : Dp} {r : Rp} {d e : DS} (h : NP W w p r d e) (hT : H.Tab W) (hs : 1 < W.heap.size) : Gl w p :=
  ⟨hT.below (h.bl.mono (show 2 ≤ W.heap.size by omega)) (by decide), by have := h.bl.size; omega, fun k hk => by have := h.pn k hk; omega⟩
theorem NP.gr {W w : World} {p : Dp} {r : Rp} {d e : DS} (h : NP W w p r d e) (hR : H.TabR W) (hs : 1 < W.heap.size) : ∀ u, ButL r.all w u → H.TabR u ∧ 1 < u.heap.size := fun u hb => by
  have hb2 := h.bl.trans (hb.below (B := W.heap.size) h.rn h.bl.size)
  exact ⟨Q.tabR_below hR hb2 hs, by have := hb2.size; omega⟩
structure St (W w : World) (p : Dp) (r q : Rp) : Prop where
  but : ButL (p.all ++ r.all) W w
  sub : ∀ k ∈ q.all, k ∈ r.all ∨ W.heap.size ≤ k
  g : q.g = r.g
theorem tch_0 {k : Int} (h : k = 5 ∨ k = 7) : wrap64 0 = tch k := by rcases h with rfl | rfl <;> simp [wrap64, tch]
theorem tch_6 : wrap64 ((60 : Nat) : Int) = tch 6 := by simp [wrap64, tch]
theorem tch_8 : tch 8 = 1024 := by simp [tch]
theorem tp_begin {W : World} {p : Dp} {r : Rp} {d e : DS} (h : DB W p d) (h' : RDB W r e) (ha : ∀ k ∈ p.all, k ∉ r.all) (k a b t f v : Int) : TP W ((W.alloc (.cells [ptr p.g, ptr r.g].toArray 77)).alloc (.cells (opC k a b t f v).toArray 48)) p r r d e [(W.heap.size + 1, 48, opC k a b t f v), (W.heap.size, 77, [ptr p.g, ptr r.g])] := by
  have := ((TP.start h h' ha).box 77 [ptr p.g, ptr r.g]).box 48 (opC k a b t f v)
  simp only [World.size_alloc] at this
  exact this
theorem srC_rg (d : DS) (w q : Int) : 0 ≤ d.srC w q ∧ d.srC w q < 64 := by
  unfold DS.srC
  rcases saE_cases d w with h | h | h
  · rw [h]
    split
    · exact ⟨by decide, by decide⟩
    · split
      · exact ⟨by decide, by decide⟩
      · split
        · split <;> exact ⟨by decide, by decide⟩
        · exact ⟨by decide, by decide⟩
  · rw [h, if_pos (by decide)]; exact ⟨by decide, by decide⟩
  · rw [h, if_pos (by decide)]; exact ⟨by decide, by decide⟩
theorem saE_rg (d : DS) (w : Int) : 0 ≤ d.saE w ∧ d.saE w < 64 := by
  rcases saE_cases d w with h | h | h <;> rw [h] <;> exact ⟨by decide, by decide⟩
theorem fiC_rg (d : DS) (w : Int) : 0 ≤ d.fiC w ∧ d.fiC w < 64 := by
  unfold DS.fiC
  rcases saE_cases d w with h | h | h
  · rw [h]
    simp only [ne_eq, not_true_eq_false, if_false]
    split
    · split <;> exact ⟨by decide, by decide⟩
    · exact ⟨by decide, by decide⟩
  · rw [h, if_pos (by decide)]; exact ⟨by decide, by decide⟩
  · rw [h, if_pos (by decide)]; exact ⟨by decide, by decide⟩
theorem rmC_rg (d : DS) (q : Int) : 0 ≤ d.rmC q ∧ d.rmC q < 64 := by
  unfold DS.rmC
  split
  · exact rmT_lt d _
  · exact ⟨by decide, by decide⟩
theorem call_5 (W0 W : World) (p : Dp) (r : Rp) (d e : DS) (N : Nat) (hN : N ≤ 8) (h : NP W0 W p r d e) (hi : LI N d) (hT : H.Tab W0) (hR : H.TabR W0) (h2 : 1 < W0.heap.size) (k a b t f v : Int) (a0 : 0 ≤ a) (a1 : a < 4294967296) (b0 : 0 ≤ b) (b1 : b < 4294967296) (hk : k = 5) :
    Calls Tryz.prog 38 #[.agg #[ptr p.g, ptr r.g], opV k a b t f v] W fun x W' => ∃ c q d' e', x = .returned (.tuple #[.int .u32 c, .int .i64 c]) ∧ (0 ≤ c ∧ c < 64) ∧ St W W' p r q ∧ NP W0 W' p q d' e' ∧ LI N d' ∧ (c = 0 → wrap64 (d'.m.c - d.m.c) = tch k) := by
  have T0 := hid (tp_begin h.own h.doc h.ap k a b t f v)
  have HNP := hid (fun w' q d' e' L (kk : TP W w' p r q d' e' L) (hs : DS.Sim d' e') => h.tp kk hs)
  have HGq := hid (fun w' q d' e' L (kk : TP W w' p r q d' e' L) => St.mk kk.but kk.sub kk.g)
  have HR := hid (fun u (hw : RDB u r e) => rspare_any u r e hw a b a0 a1 b0 b1 (fun hs _ => (hi.sim h.sim).more hN hs))
  have HA := hid (fun u (hw : DB u p d) => spare_any u p d hw a b a0 a1 b0 b1)
  rw [h.sim.srC] at HR
  have HS := hid (h.sim.srD a b)
  have HL := hid (hi.spare a b h.own.ok)
  have HM := hid (srD_c d a b)
  have HC := hid (srC_rg d a b)
  have _u := And.intro hN (And.intro hT (And.intro hR (And.intro h2 (And.intro b0 (And.intro b1 (And.intro a0 a1))))))
  clear _u
  clear h hi hT hR h2 a0 a1 b0 b1 hN
  subst hk
  simp only [opV, opC, ptr] at *
  go_enter Tryz.func38, Tryz.ntmps38
  go_upto_region 1 with fail
  generalize World.alloc _ _ = X at *
  generalize W.heap.size = g2 at *
  generalize g2 + 1 = g3 at *
  obtain ⟨x0, x1⟩ := T0.out.pair 1 rfl
  have y0 := (T0.out.get 0 rfl).cell 0
  have y1 := (T0.out.get 0 rfl).cell 1
  have y2 := (T0.out.get 0 rfl).cell 2
  simp only [tqG, tqH] at y0 y1 y2
  go_upto_region 4 with (go_at_call 76; refine (HR.out _ T0.out.doc).mono ?_; rintro e1 w1 ⟨rfl, hg⟩; have T1 := hid (T0.out.stepR hg); clear hg T0 x0 x1 y0 y1 y2)
  obtain ⟨x0, x1⟩ := T1.out.pair 1 rfl
  have y1 := (T1.out.get 0 rfl).cell 1
  have y2 := (T1.out.get 0 rfl).cell 2
  simp only [tqG, tqH] at y1 y2
  go_wp2_with (go_at_call 44; refine (HA.out _ T1.out.own).mono ?_; rintro e2 w2 ⟨rfl, hd, hb⟩; have T2 := hid (T1.out.stepA hd hb); clear hd hb T1 x0 x1 y1 y2)
  go_returns
  exact ⟨_, _, _, _, rfl, HC.out, HGq.out _ _ _ _ _ T2.out, HNP.out _ _ _ _ _ T2.out HS.out, HL.out, fun _ => by rw [HM.out, Int.sub_self]; exact tch_0 (.inl rfl)⟩
theorem call_7 (W0 W : World) (p : Dp) (r : Rp) (d e : DS) (N : Nat) (hN : N ≤ 8) (h : NP W0 W p r d e) (hi : LI N d) (hT : H.Tab W0) (hR : H.TabR W0) (h2 : 1 < W0.heap.size) (k a b t f v : Int) (a0 : 0 ≤ a) (a1 : a < 4294967296) (b0 : 0 ≤ b) (b1 : b < 4294967296) (hk : k = 7) :
    Calls Tryz.prog 38 #[.agg #[ptr p.g, ptr r.g], opV k a b t f v] W fun x W' => ∃ c q d' e', x = .returned (.tuple #[.int .u32 c, .int .i64 c]) ∧ (0 ≤ c ∧ c < 64) ∧ St W W' p r q ∧ NP W0 W' p q d' e' ∧ LI N d' ∧ (c = 0 → wrap64 (d'.m.c - d.m.c) = tch k) := by
  have T0 := hid (tp_begin h.own h.doc h.ap k a b t f v)
  have HNP := hid (fun w' q d' e' L (kk : TP W w' p r q d' e' L) (hs : DS.Sim d' e') => h.tp kk hs)
  have HGq := hid (fun w' q d' e' L (kk : TP W w' p r q d' e' L) => St.mk kk.but kk.sub kk.g)
  have HR := hid (fun u (hw : RDB u r e) => rstop_any u r e hw a a0 a1)
  have HA := hid (fun u (hw : DB u p d) => stop_any u p d hw a a0 a1)
  rw [h.sim.saE] at HR
  have HS := hid (h.sim.stD a)
  have HL := hid (hi.stop a h.own.ok)
  have HM := hid (stD_c d a)
  have HC := hid (saE_rg d a)
  have _u := And.intro hN (And.intro hT (And.intro hR (And.intro h2 (And.intro b0 (And.intro b1 (And.intro a0 a1))))))
  clear _u
  clear h hi hT hR h2 a0 a1 b0 b1 hN
  subst hk
  simp only [opV, opC, ptr] at *
  go_enter Tryz.func38, Tryz.ntmps38
  go_upto_region 1 with fail
  generalize World.alloc _ _ = X at *
  generalize W.heap.size = g2 at *
  generalize g2 + 1 = g3 at *
  obtain ⟨x0, x1⟩ := T0.out.pair 1 rfl
  have y0 := (T0.out.get 0 rfl).cell 0
  have y1 := (T0.out.get 0 rfl).cell 1
  have y2 := (T0.out.get 0 rfl).cell 2
  simp only [tqG, tqH] at y0 y1 y2
  go_upto_region 10 with (go_at_call 78; refine (HR.out _ T0.out.doc).mono ?_; rintro e1 w1 ⟨rfl, hg⟩; have T1 := hid (T0.out.stepR hg); clear hg T0 x0 x1 y0 y1 y2)
  obtain ⟨x0, x1⟩ := T1.out.pair 1 rfl
  have y1 := (T1.out.get 0 rfl).cell 1
  have y2 := (T1.out.get 0 rfl).cell 2
  simp only [tqG, tqH] at y1 y2
  go_wp2_with (go_at_call 22; refine (HA.out _ T1.out.own).mono ?_; rintro e2 w2 ⟨rfl, hd, hb⟩; have T2 := hid (T1.out.stepA hd hb); clear hd hb T1 x0 x1 y1 y2)
  go_returns
  exact ⟨_, _, _, _, rfl, HC.out, HGq.out _ _ _ _ _ T2.out, HNP.out _ _ _ _ _ T2.out HS.out, HL.out, fun _ => by rw [HM.out, Int.sub_self]; exact tch_0 (.inr rfl)⟩
theorem call_8 (W0 W : World) (p : Dp) (r : Rp) (d e : DS) (N : Nat) (hN : N ≤ 8) (h : NP W0 W p r d e) (hi : LI N d) (hT : H.Tab W0) (hR : H.TabR W0) (h2 : 1 < W0.heap.size) (k a b t f v : Int) (a0 : 0 ≤ a) (a1 : a < 4294967296) (b0 : 0 ≤ b) (b1 : b < 4294967296) (hk : k = 8) :
    Calls Tryz.prog 38 #[.agg #[ptr p.g, ptr r.g], opV k a b t f v] W fun x W' => ∃ c q d' e', x = .returned (.tuple #[.int .u32 c, .int .i64 c]) ∧ (0 ≤ c ∧ c < 64) ∧ St W W' p r q ∧ NP W0 W' p q d' e' ∧ LI N d' ∧ (c = 0 → wrap64 (d'.m.c - d.m.c) = tch k) := by
  have T0 := hid (tp_begin h.own h.doc h.ap k a b t f v)
  have HNP := hid (fun w' q d' e' L (kk : TP W w' p r q d' e' L) (hs : DS.Sim d' e') => h.tp kk hs)
  have HGq := hid (fun w' q d' e' L (kk : TP W w' p r q d' e' L) => St.mk kk.but kk.sub kk.g)
  have hsE : (e.ent a).t = 1 → (e.ent a).o = a := fun t1 => (hi.sim h.sim).own t1
  have HR := hid (fun u (hw : RDB u r e) => rremove_any u r e hw a a0 a1 hsE)
  have HA := hid (fun u (hw : DB u p d) => remove_any u p d hw a a0)
  rw [h.sim.rmC] at HR
  have HS := hid (h.sim.rmD a)
  have HL := hid (hi.rem a h.own.ok)
  have HM : Hid (d.rmC a = 0 → wrap64 ((d.rmD a).m.c - d.m.c) = tch k) := hid (fun hc => by rw [hk, tch_8]; exact rmD_c a0 hc)
  have HC := hid (rmC_rg d a)
  have _u := And.intro hN (And.intro hT (And.intro hR (And.intro h2 (And.intro b0 (And.intro b1 (And.intro a0 a1))))))
  clear _u
  clear h hi hT hR h2 a0 a1 b0 b1 hN
  have k5 : (k == 5) = false := by rw [beq_eq_false_iff_ne]; omega
  have k6 : (k == 6) = false := by rw [beq_eq_false_iff_ne]; omega
  have k7 : (k == 7) = false := by rw [beq_eq_false_iff_ne]; omega
  clear hk
  simp only [opV, opC, ptr] at *
  go_enter Tryz.func38, Tryz.ntmps38
  go_upto_region 1 with fail
  generalize World.alloc _ _ = X at *
  generalize W.heap.size = g2 at *
  generalize g2 + 1 = g3 at *
  obtain ⟨x0, x1⟩ := T0.out.pair 1 rfl
  have y0 := (T0.out.get 0 rfl).cell 0
  have y1 := (T0.out.get 0 rfl).cell 1
  have y2 := (T0.out.get 0 rfl).cell 2
  simp only [tqG, tqH] at y0 y1 y2
  go_upto_region 12 with (go_at_call 79; refine (HR.out _ T0.out.doc).mono ?_; rintro e1 w1 ⟨rfl, r1, hg⟩; have T1 := hid (T0.out.stepR hg); clear hg T0 x0 x1 y0 y1 y2)
  obtain ⟨x0, x1⟩ := T1.out.pair 1 rfl
  have y1 := (T1.out.get 0 rfl).cell 1
  have y2 := (T1.out.get 0 rfl).cell 2
  simp only [tqG, tqH] at y1 y2
  go_wp2_with (go_at_call 29; refine (HA.out _ T1.out.own).mono ?_; rintro e2 w2 ⟨rfl, hd, hb⟩; have T2 := hid (T1.out.stepA hd hb); clear hd hb T1 x0 x1 y1 y2)
  go_returns
  exact ⟨_, _, _, _, rfl, HC.out, HGq.out _ _ _ _ _ T2.out, HNP.out _ _ _ _ _ T2.out HS.out, HL.out, HM.out⟩
theorem call_6 (W0 W : World) (p : Dp) (r : Rp) (d e : DS) (N : Nat) (hN : N ≤ 8) (h : NP W0 W p r d e) (hi : LI N d) (hT : H.Tab W0) (hR : H.TabR W0) (h2 : 1 < W0.heap.size) (k a b t f v : Int) (a0 : 0 ≤ a) (a1 : a < 4294967296) (b0 : 0 ≤ b) (b1 : b < 4294967296) (hk : k = 6) :
    Calls Tryz.prog 38 #[.agg #[ptr p.g, ptr r.g], opV k a b t f v] W fun x W' => ∃ c q d' e', x = .returned (.tuple #[.int .u32 c, .int .i64 c]) ∧ (0 ≤ c ∧ c < 64) ∧ St W W' p r q ∧ NP W0 W' p q d' e' ∧ LI N d' ∧ (c = 0 → wrap64 (d'.m.c - d.m.c) = tch k) := by
  have T0 := hid (tp_begin h.own h.doc h.ap k a b t f v)
  have HNP := hid (fun w' q d' e' L (kk : TP W w' p r q d' e' L) (hs : DS.Sim d' e') => h.tp kk hs)
  have HGq := hid (fun w' q d' e' L (kk : TP W w' p r q d' e' L) => St.mk kk.but kk.sub kk.g)
  have hU := hi.U
  have HR := hid (fun u (hw : RDB u r e) (hb : ButL r.all W u) => rfinal_any u r e hw ((hi.sim h.sim).U) (fun x hx => h.gr hR h2 x (hb.trans hx)) a a0 a1)
  have HA := hid (fun u (hw : DB u p d) (hg : Gl u p) => final_m u p d hw hU hg a a0 a1)
  rw [h.sim.fiC] at HR
  have HS := hid (h.sim.fiD a)
  have HL := hid (hi.fin a h.own.ok)
  have HC := hid (fiC_rg d a)
  have HGW := hid (fun w' q d' e' L (kk : TP W w' p r q d' e' L) => (show Gl w' p from by
    have hbb := h.bl.trans (kk.but.below (B := W0.heap.size) (fun x hx => by
      rcases List.mem_append.1 hx with hx | hx
      · exact h.pn x hx
      · exact h.rn x hx) h.bl.size)
    exact ⟨hT.below (hbb.mono (show 2 ≤ W0.heap.size by omega)) (by decide), by have := hbb.size; omega, fun k hk => by have := h.pn k hk; omega⟩))
  have HB0 : Hid (ButL r.all W ((W.alloc (.cells [ptr p.g, ptr r.g].toArray 77)).alloc (.cells (opC k a b t f v).toArray 48))) := hid (.of (below_on (below_one _ _) (below_one _ _)))
  have _u := And.intro hN (And.intro hT (And.intro hR (And.intro h2 (And.intro b0 (And.intro b1 (And.intro a0 a1))))))
  clear _u
  clear h hi hT hR h2 a0 a1 b0 b1 hN
  subst hk
  simp only [opV, opC, ptr] at *
  go_enter Tryz.func38, Tryz.ntmps38
  go_upto_region 1 with fail
  generalize World.alloc _ _ = X at *
  generalize W.heap.size = g2 at *
  generalize g2 + 1 = g3 at *
  obtain ⟨x0, x1⟩ := T0.out.pair 1 rfl
  have y0 := (T0.out.get 0 rfl).cell 0
  have y1 := (T0.out.get 0 rfl).cell 1
  have y2 := (T0.out.get 0 rfl).cell 2
  simp only [tqG, tqH] at y0 y1 y2
  go_upto_region 7 with (go_at_call 77; refine (HR.out _ T0.out.doc (HB0.out)).mono ?_; rintro e1 w1 ⟨r1, ee, rfl, hsr, hg⟩; have HSR := hid hsr; have T1 := hid (T0.out.stepR hg); clear hg hsr T0 x0 x1 y0 y1 y2)
  obtain ⟨x0, x1⟩ := T1.out.pair 1 rfl
  have y1 := (T1.out.get 0 rfl).cell 1
  have y2 := (T1.out.get 0 rfl).cell 2
  simp only [tqG, tqH] at y1 y2
  go_wp2_with (go_at_call 23; refine (HA.out _ T1.out.own (HGW.out _ _ _ _ _ T1.out)).mono ?_; rintro e2 w2 ⟨dd, rfl, hsd, hcc, hd, hb⟩; have HSD := hid hsd; have HCC := hid hcc; have T2 := hid (T1.out.stepA hd hb); clear hd hb hsd hcc T1 x0 x1 y1 y2)
  go_returns
  have hs2 := HSD.out.symm.trans (HS.out.trans HSR.out)
  exact ⟨_, _, _, _, rfl, HC.out, HGq.out _ _ _ _ _ T2.out, HNP.out _ _ _ _ _ T2.out hs2, HL.out.sim HSD.out, fun hc => by rw [HCC.out hc, tk_eq]; exact tch_6⟩
end Go.Proofs.YtdfnbcbnmiohnaaGreatDoor
