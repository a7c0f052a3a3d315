import Derived.Test.YtildhjiddidghaaGreatDoorP48
import Derived.Laws.BitsAllLaws
import Derived.Laws.BitsLemmas
namespace Go.Proofs.YtildhjiddidghaaGreatDoor
open Go.RowKit
set_option maxHeartbeats 4000000
set_option maxRecDepth 100000
theorem M8.bt {m : MS} {F : Nat → Nat → Int} (h : M8 m F) (s : Int) : Bt ⟨m, 1, eB s⟩ s ∧ Wd ⟨m, 1, eB s⟩ F := by
  refine ⟨⟨h.ns, rfl, rfl, ?_, ?_⟩, fun k j hk hj => h.w k j hk hj⟩
  · show (m.at false 1).isSome = true
    unfold MS.at
    rw [h.ns, h.l]; rfl
  · show (m.at false 2).isSome = false
    unfold MS.at
    rw [h.ns, h.l]; rfl
theorem wz_f {m : MS} {F : Nat → Nat → Int} (h : M8 m F) (E : List En) : ∀ n, n ≤ 26 → ∃ m', DS.wz ⟨m, 1, E⟩ n = ⟨m', 1, E⟩ ∧ M8 m' (fun k j => if k = 0 ∧ 11 ≤ j ∧ j < 11 + n then 0 else F k j)
  | 0, _ => ⟨m, rfl, h.congr (fun k j _ _ => by rw [if_neg (by omega)])⟩
  | n + 1, hn => by
    obtain ⟨m', e1, h1⟩ := wz_f h E n (by omega)
    have h2 := h1.write 0 (11 + n) 0 (by decide) (by omega) (by decide) (by decide)
    refine ⟨m'.write true 0 (11 + (n : Int)) 0, ?_, ?_⟩
    · rw [DS.wz, e1]
    · have e : ((11 + n : Nat) : Int) = 11 + (n : Int) := by omega
      rw [e] at h2
      refine h2.congr (fun k j _ _ => ?_)
      unfold upF
      by_cases c : k = 0 ∧ j = 11 + n
      · rw [if_pos c, if_pos ⟨c.1, by omega, by omega⟩]
      · rw [if_neg c]
        show (if k = 0 ∧ 11 ≤ j ∧ j < 11 + n then 0 else F k j) = _
        by_cases c2 : k = 0 ∧ 11 ≤ j ∧ j < 11 + n
        · rw [if_pos c2, if_pos ⟨c2.1, c2.2.1, by omega⟩]
        · rw [if_neg c2, if_neg (fun x => c2 ⟨x.1, x.2.1, by have := x.2.2; have : ¬ (j = 11 + n) := fun y => c ⟨x.1, y⟩; omega⟩)]
theorem bs1_f : ∃ m, bs1 = ⟨m, 1, eB 2⟩ ∧ M8 m F1 := by
  obtain ⟨m, e, h⟩ := bd12
  obtain ⟨m2, e2, h2⟩ := wz_f h (eB 1) 26 (by decide)
  have h3 := h2.write 0 3 4660 (by decide) (by decide) (by decide) (by decide)
  refine ⟨m2.write true ((0 : Nat) : Int) ((3 : Nat) : Int) 4660, ?_, h3.congr (fun k j hk hj => ?_)⟩
  · unfold bs1
    rw [e, e2]
    exact (t_state _ h3.ns).1
  · unfold upF F0
    by_cases k0 : k = 0
    · subst k0
      unfold F1
      simp
      repeat' split
      all_goals first | rfl | omega | simp_all
    · rw [if_neg (fun x => k0 x.1)]
      show (if k = 0 ∧ 11 ≤ j ∧ j < 11 + 26 then 0 else _) = _
      rw [if_neg (fun x => k0 x.1), if_neg k0]
theorem bs2_f : ∃ m, bs2 = ⟨m, 1, eB 3⟩ ∧ M8 m F1 := by
  obtain ⟨m, e, h⟩ := bs1_f
  refine ⟨m, ?_, h⟩
  unfold bs2
  rw [e, (t_state m h.ns).2]
theorem bd_ok : (bd 12).fb 1 12 = (0, 0) ∧ (bd 12).m.U ∧ 0 < (bd 12).m.ns := by
  obtain ⟨m, e, h⟩ := bd12
  rw [e]
  exact ⟨init_fb (h.bt 1).1 (h.bt 1).2, h.u, by show 0 < m.ns; rw [h.ns]; decide⟩
theorem bs1_ok : bs1.fb 1 12 = (0, 0) ∧ bs1.m.U ∧ 0 < bs1.m.ns := by
  obtain ⟨m, e, h⟩ := bs1_f
  rw [e]
  exact ⟨final_fb ⟨(h.bt 2).1, (h.bt 2).2⟩, h.u, by show 0 < m.ns; rw [h.ns]; decide⟩
theorem M8.s3 {m : MS} {G : Nat → Nat → Int} (h : M8 m G) (hG : ∀ k j, (k = 0 → 1 ≤ j) → k ≠ 1 → k ≠ 2 → k ≠ 3 → G k j = F1 k j) : S3 ⟨m, 1, eB 3⟩ := by
  obtain ⟨hb, hw⟩ := h.bt 3
  refine ⟨hb, ?_, ?_, fun j h1 h2 => ?_, fun j h1 h2 => ?_, fun j h2 => ?_, fun j h2 => ?_⟩
  · rw [hw 0 1 (by decide) (by decide), hG 0 1 (fun _ => by decide) (by decide) (by decide) (by decide)]; rfl
  · rw [hw 0 2 (by decide) (by decide), hG 0 2 (fun _ => by decide) (by decide) (by decide) (by decide)]; rfl
  · rw [hw 0 j (by decide) h2, hG 0 j (fun _ => by omega) (by decide) (by decide) (by decide), F1_0 j (by omega)]
  · rw [hw 5 j (by decide) h2, hG 5 j (fun e => by cases e) (by decide) (by decide) (by decide)]; unfold F1; rw [if_neg (by decide), if_neg (by decide), if_neg (by decide), if_pos rfl, if_neg (by omega)]
  · rw [hw 6 j (by decide) h2, hG 6 j (fun e => by cases e) (by decide) (by decide) (by decide)]; rfl
  · rw [hw 7 j (by decide) h2, hG 7 j (fun e => by cases e) (by decide) (by decide) (by decide)]; rfl
theorem bs2_ok : bs2.fb 1 12 = (0, 0) ∧ bs2.m.U ∧ 0 < bs2.m.ns := by
  obtain ⟨m, e, h⟩ := bs2_f
  rw [e]
  exact ⟨stopped_fb (h.s3 (fun _ _ _ _ _ _ => rfl)), h.u, by show 0 < m.ns; rw [h.ns]; decide⟩
def bs4 (o v : Int) : DS := { bs2 with m := (((bs2.m.write true 1 o v).write true 2 o v).write true 3 o v).write true 0 0 v }
theorem bs4_ok (o : Nat) (v : Int) (ho : o < 1024) (v0 : 0 ≤ v) (v1 : v < 4294967296) : (bs4 (o : Int) v).fb 1 12 = (0, 0) ∧ (bs4 (o : Int) v).m.U ∧ 0 < (bs4 (o : Int) v).m.ns := by
  obtain ⟨m, e, h⟩ := bs2_f
  have h4 := (((h.write 1 o v (by decide) ho v0 v1).write 2 o v (by decide) ho v0 v1).write 3 o v (by decide) ho v0 v1).write 0 0 v (by decide) (by decide) v0 v1
  unfold bs4
  rw [e]
  refine ⟨stopped_fb (h4.s3 (fun k j h0 n1 n2 n3 => ?_)), h4.u, by have := h4.ns; show 0 < MS.ns _; rw [show ((((m.write true 1 (o : Int) v).write true 2 (o : Int) v).write true 3 (o : Int) v).write true 0 0 v).ns = 8 from this]; decide⟩
  unfold upF
  rw [if_neg (fun x => by have := h0 x.1; omega), if_neg (fun x => n3 x.1), if_neg (fun x => n2 x.1), if_neg (fun x => n1 x.1)]
structure Sq where
  p : Int
  o : Int
  v : Int
  c : Int
  q : Int
def Sq.cs (x : Sq) : List Value := [.int .i64 x.p, .int .i64 x.o, .int .u32 x.v, .int .i64 x.c, .int .i64 x.q]
def sq0 : Sq := ⟨0, 0, 0, 0, 0⟩
def spl (o o17 o26 o768 o200 : Nat) (one vm : Int) : List Sq := [⟨7, (o : Int), one, 2, 7⟩, ⟨6, (o : Int), one, 12, 6⟩, ⟨5, 18 + (o : Int), one, 11, 5⟩, ⟨5, 1 + (o17 : Int), one, 11, 5⟩, ⟨0, 37 + (o : Int), one, 6, 0⟩, ⟨0, 11 + (o26 : Int), one, 6, 0⟩, ⟨0, 1, 1 + vm, 5, 0⟩, ⟨0, 2, 4097 + vm, 5, 0⟩, ⟨0, 0, 2 + vm, 7, 0⟩, ⟨1, 256 + (o768 : Int), one, 8, 1⟩, ⟨1, 4 + (o200 : Int), 513, 8, 1⟩, ⟨1, 3, 0, 8, 1⟩, ⟨1, 4 + (o200 : Int), 769, 8, 1⟩, ⟨2, 100 + (o : Int), 775, 10, 3⟩, ⟨2, 5, 0, 10, 3⟩, ⟨2, 100 + (o : Int), 515, 9, 2⟩, ⟨2, 100 + (o : Int), 513, 9, 2⟩, ⟨2, 100 + (o : Int), 9, 9, 2⟩, ⟨2, 100 + (o : Int), 1795, 9, 2⟩]
def bs1w (x : Sq) : DS := { bs1 with m := bs1.m.write true x.p x.o x.v }
theorem spoil_one (p o : Nat) (v : Int) (c q : Int) (hp : p < 8) (ho : o < 1024) (v0 : 0 ≤ v) (v1 : v < 4294967296) (hfb : ∀ d, Sv d (upF F1 p o v) → d.fb 1 12 = (c, q)) (x : Sq) (hx : x = ⟨(p : Int), (o : Int), v, c, q⟩) : (bs1w x).fb 1 12 = (x.c, x.q) ∧ (bs1w x).m.U ∧ 0 < (bs1w x).m.ns := by
  subst hx
  obtain ⟨m, e, h⟩ := bs1_f
  have h2 := h.write p o v hp ho v0 v1
  unfold bs1w
  rw [e]
  exact ⟨hfb _ ⟨(h2.bt 2).1, (h2.bt 2).2⟩, h2.u, by have := h2.ns; show 0 < MS.ns _; rw [show (m.write true (p : Int) (o : Int) v).ns = 8 from this]; decide⟩
theorem spl_ok (o o17 o26 o768 o200 : Nat) (one vm : Int) (ho : o < 900) (h17 : o17 < 17) (h26 : o26 < 26) (h768 : o768 < 768) (h200 : o200 < 200) (n1 : one ≠ 0) (n2 : 0 ≤ one) (n3 : one < 4294967296) (m0 : 0 ≤ vm) (m1 : vm < 1000) (k : Nat) (hk : k < 19) :
    (bs1w ((spl o o17 o26 o768 o200 one vm).getD k sq0)).fb 1 12 = (((spl o o17 o26 o768 o200 one vm).getD k sq0).c, ((spl o o17 o26 o768 o200 one vm).getD k sq0).q) ∧ (bs1w ((spl o o17 o26 o768 o200 one vm).getD k sq0)).m.U ∧ 0 < (bs1w ((spl o o17 o26 o768 o200 one vm).getD k sq0)).m.ns := by
  have : k = 0 ∨ k = 1 ∨ k = 2 ∨ k = 3 ∨ k = 4 ∨ k = 5 ∨ k = 6 ∨ k = 7 ∨ k = 8 ∨ k = 9 ∨ k = 10 ∨ k = 11 ∨ k = 12 ∨ k = 13 ∨ k = 14 ∨ k = 15 ∨ k = 16 ∨ k = 17 ∨ k = 18 := by omega
  rcases this with rfl | rfl | rfl | rfl | rfl | rfl | rfl | rfl | rfl | rfl | rfl | rfl | rfl | rfl | rfl | rfl | rfl | rfl | rfl
  · exact spoil_one 7 o one 2 7 (by decide) (by omega) n2 n3 (fun d h => sp0 o one ho n1 h) _ rfl
  · exact spoil_one 6 o one 12 6 (by decide) (by omega) n2 n3 (fun d h => sp1 o one ho n1 h) _ rfl
  · exact spoil_one 5 (18 + o) one 11 5 (by decide) (by omega) n2 n3 (fun d h => sp2 o one ho n1 h) _ (by simp [spl])
  · exact spoil_one 5 (1 + o17) one 11 5 (by decide) (by omega) n2 n3 (fun d h => sp3 o17 one h17 n1 h) _ (by simp [spl])
  · exact spoil_one 0 (37 + o) one 6 0 (by decide) (by omega) n2 n3 (fun d h => sp4 o one ho n1 h) _ (by simp [spl])
  · exact spoil_one 0 (11 + o26) one 6 0 (by decide) (by omega) n2 n3 (fun d h => sp5 o26 one h26 n1 h) _ (by simp [spl])
  · exact spoil_one 0 1 (1 + vm) 5 0 (by decide) (by omega) (by omega) (by omega) (fun d h => sp6 (1 + vm) (by omega) h) _ rfl
  · exact spoil_one 0 2 (4097 + vm) 5 0 (by decide) (by omega) (by omega) (by omega) (fun d h => sp7 (4097 + vm) (by omega) h) _ rfl
  · exact spoil_one 0 0 (2 + vm) 7 0 (by decide) (by omega) (by omega) (by omega) (fun d h => sp8 (2 + vm) (by omega) h) _ rfl
  · exact spoil_one 1 (256 + o768) one 8 1 (by decide) (by omega) n2 n3 (fun d h => sp9 o768 one h768 n1 h) _ (by simp [spl])
  · exact spoil_one 1 (4 + o200) 513 8 1 (by decide) (by omega) (by decide) (by decide) (fun d h => sp10 o200 h200 h) _ (by simp [spl])
  · exact spoil_one 1 3 0 8 1 (by decide) (by omega) (by decide) (by decide) (fun d h => sp11 h) _ rfl
  · exact spoil_one 1 (4 + o200) 769 8 1 (by decide) (by omega) (by decide) (by decide) (fun d h => sp12 o200 h200 h) _ (by simp [spl])
  · exact spoil_one 2 (100 + o) 775 10 3 (by decide) (by omega) (by decide) (by decide) (fun d h => sp13 o ho h) _ (by simp [spl])
  · exact spoil_one 2 5 0 10 3 (by decide) (by omega) (by decide) (by decide) (fun d h => sp14 h) _ rfl
  · exact spoil_one 2 (100 + o) 515 9 2 (by decide) (by omega) (by decide) (by decide) (fun d h => sp15 o ho h) _ (by simp [spl])
  · exact spoil_one 2 (100 + o) 513 9 2 (by decide) (by omega) (by decide) (by decide) (fun d h => sp16 o ho h) _ (by simp [spl])
  · exact spoil_one 2 (100 + o) 9 9 2 (by decide) (by omega) (by decide) (by decide) (fun d h => sp17 o ho h) _ (by simp [spl])
  · exact spoil_one 2 (100 + o) 1795 9 2 (by decide) (by omega) (by decide) (by decide) (fun d h => sp18 o ho h) _ (by simp [spl])
theorem i64_and1023 (n : Int) : bits .and .i64 n 1023 = n % 1024 := by
  have h127 : (BitVec.ofInt 64 1023).toNat = 2 ^ 10 - 1 := by decide
  have key : (BitVec.ofInt 64 n &&& BitVec.ofInt 64 1023).toNat = (n % ((2 ^ 64 : Nat) : Int)).toNat % 2 ^ 10 := by
    rw [BitVec.toNat_and, BitVec.toNat_ofInt, h127, Nat.and_two_pow_sub_one_eq_mod]
  show IntKind.i64.wrap ((BitVec.ofInt 64 n &&& BitVec.ofInt 64 1023).toNat : Nat) = n % 1024
  rw [key, IntKind.wrap_i64]
  omega
theorem or_one (v : Int) (h0 : 0 ≤ v) (h1 : v < 4294967296) : bits .or .u32 v 1 ≠ 0 ∧ 0 ≤ bits .or .u32 v 1 ∧ bits .or .u32 v 1 < 4294967296 := by
  rw [u32_or v 1 h0 h1 (by decide) (by decide)]
  have a : v.toNat ||| (1 : Int).toNat < 2 ^ 32 := Nat.or_lt_two_pow (by omega) (by decide)
  have b : (1 : Nat) ≤ v.toNat ||| (1 : Int).toNat := Nat.right_le_or
  omega
end Go.Proofs.YtildhjiddidghaaGreatDoor
