/- CpuLocal: the pure part, and what is kept. -/
import Derived.Test.YteldpapacdbbiaaDoorD4
import Derived.Test.YteldpapacdbbiaaDoorB1
import Derived.Test.YteldpapacdbbiaaDoorCd
namespace Go.Proofs.YteldpapacdbbiaaDoor
open Go.RowKit
set_option maxHeartbeats 8000000
set_option maxRecDepth 100000
theorem lay1_c {m : MS} {y : Ly} {n : Nat} (h : 0 ≤ m.c ∧ m.c ≤ (n : Int)) : ∀ k, n + k < 9223372036854775807 → 0 ≤ (m.lay1 y k).c ∧ (m.lay1 y k).c ≤ ((n + k : Nat) : Int)
  | 0, _ => by unfold MS.lay1; omega
  | k + 1, hk => by
    have ih := lay1_c (y := y) h k (by omega)
    unfold MS.lay1
    split
    · exact MS.write_c _ _ _ _ _ (n + k) ih (by omega)
    · omega
theorem lays_c {m : MS} {L : Nat → Ly} (h : m.c = 0) : ∀ k, k ≤ 140737488355328 → 0 ≤ (m.lays L k).c ∧ (m.lays L k).c ≤ ((k * 1024 : Nat) : Int)
  | 0, _ => by unfold MS.lays; omega
  | k + 1, hk => by
    have ih := lays_c (L := L) h k (by omega)
    have := lay1_c (y := L k) ih (min (L k).n 1024) (by omega)
    unfold MS.lays
    omega
theorem Mq.Ok.c {W : World} {q : Mq} {b off : Nat} {L : Nat → Ly} (h : q.Ok W b off L) : 0 ≤ (q.m L).c ∧ (q.m L).c ≤ 144115188075855872 := by
  have h1 := lays_c (m := MS.new (sz q.s) (sz q.n)) (L := L) rfl q.ln (by have := h.n; omega)
  have h2 := h.n
  unfold Mq.m
  omega
theorem stp_c {m : MS} {l : Int} {f : F} (c0 : 0 ≤ m.c) (c1 : m.c ≤ 1152921504606846976) : (stp m l f).m.c = m.c + stD m l f := by rw [stp_m c0 c1]; rfl
theorem stp_w {m : MS} {l : Int} {f : F} (c0 : 0 ≤ m.c) (c1 : m.c ≤ 1152921504606846976) (s : Bool) (p o : Int) : (stp m l f).m.word s p o = (stB m l f).word s p o := by rw [stp_m c0 c1]; rfl
theorem stT_of {m : MS} {l : Int} {f : F} (h : stS m l f = true) : stT m l f = (m.trS l (ad f (I.dec (m.fw l f.pc))) 1, m.trP l (ad f (I.dec (m.fw l f.pc))) 1, m.trO l (ad f (I.dec (m.fw l f.pc))) 1) ∧ m.trE l (ad f (I.dec (m.fw l f.pc))) 1 = 0 := by
  unfold stS at h
  have hh := of_decide_eq_true h
  unfold stT
  rw [if_pos ⟨hh.1, hh.2.1, hh.2.2.1⟩]
  exact ⟨rfl, hh.2.2.2⟩
theorem stp_parts {m : MS} {l : Int} {f : F} (h0 : m.ns ≤ m.P.length) (c0 : 0 ≤ m.c) (c1 : m.c ≤ 1152921504606846976) : Parts m (stp m l f).m (stS m l f) (stT m l f).1 (stT m l f).2.1 (stT m l f).2.2 := by
  intro s p o _ _ hne
  rw [stp_w c0 c1] at hne
  unfold stB at hne
  by_cases hs : stS m l f = true
  · rw [if_pos hs, upd_word] at hne
    rw [(stT_of hs).1]
    by_cases e : (m.trS l (ad f (I.dec (m.fw l f.pc))) 1, m.trP l (ad f (I.dec (m.fw l f.pc))) 1, m.trO l (ad f (I.dec (m.fw l f.pc))) 1) = (s, p, o)
    · injection e with e1 e2
      injection e2 with e2 e3
      exact ⟨hs, e1, e2, e3⟩
    · exact absurd (write_wordP h0 e) hne
  · rw [if_neg hs] at hne; exact absurd rfl hne
theorem local_end {m : MS} (h0 : m.ns ≤ m.P.length) (hf : ∀ k, k < m.P.length → (m.p k).length = 1024) {s : Bool} {p o v l : Int} {f : F} (h0' : (m.write s p o v).ns ≤ (m.write s p o v).P.length) (hf' : ∀ k, k < (m.write s p o v).P.length → ((m.write s p o v).p k).length = 1024) (h : (s, p, o) ∉ rds m l f)
    (c0 : 0 ≤ m.c) (c1 : m.c ≤ 1152921504606846976) (d0 : 0 ≤ (m.write s p o v).c) (d1 : (m.write s p o v).c ≤ 1152921504606846976) (hs : stS m l f = true) :
    (stp (m.write s p o v) l f).m.word (stT m l f).1 (stT m l f).2.1 (stT m l f).2.2 = (stp m l f).m.word (stT m l f).1 (stT m l f).2.1 (stT m l f).2.2 := by
  obtain ⟨_, _, _, hB⟩ := stp_local h0 (v := v) h
  obtain ⟨hT, hE⟩ := stT_of hs
  have he := tr_err hE
  rw [stp_w c0 c1, stp_w d0 d1, hB hs, hT, upd_word, write_self hf' h0' (by rw [MS.write_err]; exact he)]
  unfold stB
  rw [if_pos hs, upd_word, write_self hf h0 he]
theorem rds_len (m : MS) (l : Int) (f : F) : (rds m l f).length ≤ 100 := by
  have h1 := tbl_len m l f.pc
  have h2 := tbl_len m l (ad f (I.dec (m.fw l f.pc)))
  unfold rds
  rw [List.length_append]
  split
  · rw [List.length_append]
    split
    · rw [List.length_append]
      split <;> simp <;> omega
    · simp; omega
  · simp; omega
theorem Hp.base {W w x : World} {v : Value} {L : List Pl} (h : Hp w x v L) (hb : Below W.heap.size W w) : Hp W x v L :=
  ⟨⟨h.own.1, h.own.2.imp id fun ⟨g, cap, cur, hv, hB, r⟩ => ⟨g, cap, cur, hv, by have := hb.size; omega, r⟩⟩, below_on hb h.below⟩
theorem T3.stepC {W x : World} {B g3 : Nat} {q : Mq} {fa fb fc : Fp} {ma mb mc : MS} (h : T3 W x B g3 q fa fb fc ma mb mc) (hT : Tb W) (hU : mc.U) (l : Int) (f : F) (hF : f.U) :
    Calls Tryd.prog 11 #[ptr fc.gm, .int .i64 l, f.v] x fun e w' => e = .returned (stp mc l f).v ∧ T3 W w' B g3 q fa fb fc ma mb (stp mc l f).m ∧ ButL fc.w x w' :=
  (step_any x (hT.on h.below) fc mc h.c hU l f hF (h.lo hT.z).2.2).mono fun _ _ ⟨e, r⟩ => ⟨e, h.sc r, r.but⟩
theorem T3.writeC {W x : World} {B g3 : Nat} {q : Mq} {fa fb fc : Fp} {ma mb mc : MS} (h : T3 W x B g3 q fa fb fc ma mb mc) (s : Bool) (p o v : Int) :
    Calls Tryd.prog 20 #[ptr fc.gm, fr s p, .int .i64 o, .int .u32 v] x fun e w' => e = .returned (.int .i64 (mc.err s p o)) ∧ T3 W w' B g3 q fa fb fc ma mb (mc.write s p o v) ∧ ButL fc.w x w' :=
  (write_any x fc mc h.c s p o v).mono fun _ _ ⟨e, r, b⟩ => ⟨e, h.sc ⟨r, b, h.c.lt⟩, b⟩
/-- The place, the Reach and its list. -/
structure Ks (W x : World) (g4 g8 : Nat) (fa fb fc : Fp) (ps : Bool) (pp po : Int) (v : Value) (RD : List Pl) (SS : Bool) (TT : Pl) : Prop where
  c4 : Cel x g4 48 (plc ps pp po)
  c8 : Cel x g8 64 (rcs v SS TT.1 TT.2.1 TT.2.2)
  hp : Hp W x v RD
  n4 : g4 ∉ fa.all ∧ g4 ∉ fb.all ∧ g4 ∉ fc.all
  n8 : g8 ∉ fa.all ∧ g8 ∉ fb.all ∧ g8 ∉ fc.all
  nv : ∀ b, v.ownBlock = some b → b ∉ fa.all ∧ b ∉ fb.all ∧ b ∉ fc.all
theorem Ks.on {W x x' : World} {g4 g8 : Nat} {fa fb fc : Fp} {ps : Bool} {pp po : Int} {v : Value} {RD : List Pl} {SS : Bool} {TT : Pl} (h : Ks W x g4 g8 fa fb fc ps pp po v RD SS TT) (hb : Below x.heap.size x x') : Ks W x' g4 g8 fa fb fc ps pp po v RD SS TT :=
  ⟨h.c4.on hb, h.c8.on hb, h.hp.on hb, h.n4, h.n8, h.nv⟩
theorem Ks.ba {W x x' : World} {g4 g8 : Nat} {fa fb fc : Fp} {ps : Bool} {pp po : Int} {v : Value} {RD : List Pl} {SS : Bool} {TT : Pl} (h : Ks W x g4 g8 fa fb fc ps pp po v RD SS TT) (hb : ButL fa.w x x') (hl : ∀ k ∈ fa.all, W.heap.size ≤ k) : Ks W x' g4 g8 fa fb fc ps pp po v RD SS TT :=
  ⟨h.c4.but hb (fun k => h.n4.1 (Fp.w_all k)), h.c8.but hb (fun k => h.n8.1 (Fp.w_all k)), h.hp.but hb (fun k hk => hl k (Fp.w_all hk)) (fun b hv hk => (h.nv b hv).1 (Fp.w_all hk)), h.n4, h.n8, h.nv⟩
theorem Ks.bc {W x x' : World} {g4 g8 : Nat} {fa fb fc : Fp} {ps : Bool} {pp po : Int} {v : Value} {RD : List Pl} {SS : Bool} {TT : Pl} (h : Ks W x g4 g8 fa fb fc ps pp po v RD SS TT) (hb : ButL fc.w x x') (hl : ∀ k ∈ fc.all, W.heap.size ≤ k) : Ks W x' g4 g8 fa fb fc ps pp po v RD SS TT :=
  ⟨h.c4.but hb (fun k => h.n4.2.2 (Fp.w_all k)), h.c8.but hb (fun k => h.n8.2.2 (Fp.w_all k)), h.hp.but hb (fun k hk => hl k (Fp.w_all hk)) (fun b hv hk => (h.nv b hv).2.2 (Fp.w_all hk)), h.n4, h.n8, h.nv⟩
end Go.Proofs.YteldpapacdbbiaaDoor
