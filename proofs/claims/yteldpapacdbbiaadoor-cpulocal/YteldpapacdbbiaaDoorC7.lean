/- What a step leaves are words. -/
import Derived.Test.YteldpapacdbbiaaDoorC6
import Derived.Laws.BitsAllLaws
namespace Go.Proofs.YteldpapacdbbiaaDoor
open Go.RowKit
theorem and_range (a b : Int) (h0 : 0 ≤ a) (h1 : a < 4294967296) (h2 : 0 ≤ b) (h3 : b < 4294967296) : 0 ≤ bits .and .u32 a b ∧ bits .and .u32 a b < 4294967296 := by
  rw [u32_and a b h0 h1 h2 h3]
  have := Nat.and_lt_two_pow (n := 32) a.toNat (y := b.toNat) (by omega)
  omega
theorem or_range (a b : Int) (h0 : 0 ≤ a) (h1 : a < 4294967296) (h2 : 0 ≤ b) (h3 : b < 4294967296) : 0 ≤ bits .or .u32 a b ∧ bits .or .u32 a b < 4294967296 := by
  rw [u32_or a b h0 h1 h2 h3]
  have := Nat.or_lt_two_pow (n := 32) (x := a.toNat) (y := b.toNat) (by omega) (by omega)
  omega
theorem xor_range (a b : Int) (h0 : 0 ≤ a) (h1 : a < 4294967296) (h2 : 0 ≤ b) (h3 : b < 4294967296) : 0 ≤ bits .xor .u32 a b ∧ bits .xor .u32 a b < 4294967296 := by
  rw [u32_xor a b h0 h1 h2 h3]
  have := Nat.xor_lt_two_pow (n := 32) (x := a.toNat) (y := b.toNat) (by omega) (by omega)
  omega
theorem quot_range (a b : Int) (h0 : 0 ≤ a) (h1 : a < 4294967296) (hb : 0 < b) : 0 ≤ a / b ∧ a / b < 4294967296 :=
  ⟨Int.ediv_nonneg h0 (by omega), Int.lt_of_le_of_lt (Int.ediv_le_self b h0) h1⟩
theorem in_ite {c : Prop} [Decidable c] {a b : Int} (h1 : 0 ≤ a ∧ a < 4294967296) (h2 : 0 ≤ b ∧ b < 4294967296) : 0 ≤ (if c then a else b) ∧ (if c then a else b) < 4294967296 := by split <;> assumption
theorem sumO_range (op v ra rb rc : Int) (hv : 0 ≤ v ∧ v < 4294967296) (ha : 0 ≤ ra ∧ ra < 4294967296) (hb : 0 ≤ rb ∧ rb < 4294967296) (hc : 0 ≤ rc ∧ rc < 4294967296) : 0 ≤ sumO op v ra rb rc ∧ sumO op v ra rb rc < 4294967296 := by
  have hand := and_range ra 65535 ha.1 ha.2 (by decide) (by decide)
  have h1 := or_range (v * 65536 % 4294967296) (bits .and .u32 ra 65535) (by omega) (by omega) hand.1 hand.2
  have h2 := and_range rb rc hb.1 hb.2 hc.1 hc.2
  have h3 := or_range rb rc hb.1 hb.2 hc.1 hc.2
  have h4 := xor_range rb rc hb.1 hb.2 hc.1 hc.2
  have h5 : 0 ≤ dvV rb rc ∧ dvV rb rc < 4294967296 := by
    unfold dvV
    split
    · decide
    · exact quot_range rb rc hb.1 hb.2 (by omega)
  have h6 := quot_range rb (2 ^ min rc.toNat 32) hb.1 hb.2 (Int.pow_pos (by decide))
  unfold sumO
  exact in_ite hv (in_ite h1 (in_ite hb (in_ite ⟨by omega, by omega⟩ (in_ite ⟨by omega, by omega⟩ (in_ite ⟨by omega, by omega⟩ (in_ite h5 (in_ite h2 (in_ite h3 (in_ite h4 (in_ite ⟨by omega, by omega⟩ (in_ite h6 (in_ite ⟨by omega, by omega⟩ ⟨by omega, by omega⟩))))))))))))
theorem im_range (i : Ins) : 0 ≤ im i ∧ im i < 4294967296 := by unfold im; omega
theorem sm_range {f : F} (h : f.U) (i : Ins) : 0 ≤ sm f i ∧ sm f i < 4294967296 := sumO_range _ _ _ _ _ (im_range i) (h.r _) (h.r _) (h.r _)
theorem F.U.nx {f : F} (h : f.U) : f.nx.U := ⟨h.r, by show 0 ≤ (f.pc + 4) % 4294967296; omega, by show (f.pc + 4) % 4294967296 < 4294967296; omega⟩
theorem F.U.put {f : F} (h : f.U) (k : Nat) (v : Int) (h0 : 0 ≤ v) (h1 : v < 4294967296) : (f.put k v).U := ⟨fun j => by
  show 0 ≤ (if j = k then v else f.r j) ∧ (if j = k then v else f.r j) < 4294967296
  split
  · exact ⟨h0, h1⟩
  · exact h.r j, h.p0, h.p1⟩
theorem F.U.cmp {f : F} (h : f.U) (a b : Int) : (f.cmp a b).U := ⟨h.r, h.p0, h.p1⟩
theorem F.U.pcs {f : F} (h : f.U) (p : Int) (h0 : 0 ≤ p) (h1 : p < 4294967296) : ({ f with pc := p } : F).U := ⟨h.r, h0, h1⟩
theorem F.U.jm {f : F} (h : f.U) (i : Ins) : (jm f i).U := by
  unfold Go.Proofs.YteldpapacdbbiaaDoor.jm
  split
  · split
    · exact h.pcs _ (by omega) (by omega)
    · exact h
  split
  · exact (h.put 14 _ h.p0 h.p1).pcs _ (by omega) (by omega)
  split
  · exact h.pcs _ (h.r _).1 (h.r _).2
  · exact h
theorem rcW_range {m : MS} (h : m.U) (l va a v : Int) (h0 : 0 ≤ v) (h1 : v < 4294967296) : 0 ≤ m.rcW l va a v ∧ m.rcW l va a v < 4294967296 := by
  unfold MS.rcW
  split
  · split
    · exact ⟨h0, h1⟩
    · exact h.word _ _ _
  · decide
theorem MS.U.rcM {m : MS} (h : m.U) (l va a v : Int) (h0 : 0 ≤ v) (h1 : v < 4294967296) : (m.rcM l va a v).U := by
  unfold MS.rcM
  split
  · split
    · exact (h.wkS l va).write _ _ _ _ h0 h1
    · exact (h.wkS l va).read _ _ _
  · exact h.wkS l va
structure Out.U (o : Out) : Prop where
  f : o.f.U
  m : o.m.U
theorem doI_U {m : MS} (hm : m.U) (l : Int) {f : F} (hf : f.U) (i : Ins) : (doI m l f i).U := by
  unfold doI
  split
  · exact ⟨hf.nx.put _ _ (sm_range hf i).1 (sm_range hf i).2, hm⟩
  split
  · split
    · exact ⟨hf.nx.put _ _ (rcW_range hm _ _ _ _ (hf.r _).1 (hf.r _).2).1 (rcW_range hm _ _ _ _ (hf.r _).1 (hf.r _).2).2, hm.rcM _ _ _ _ (hf.r _).1 (hf.r _).2⟩
    · exact ⟨hf, hm.rcM _ _ _ _ (hf.r _).1 (hf.r _).2⟩
  split
  · exact ⟨hf.nx.cmp _ _, hm⟩
  split
  · exact ⟨hf.nx.jm i, hm⟩
  · exact ⟨hf.nx, hm⟩
theorem stp_U {m : MS} (hm : m.U) (l : Int) {f : F} (hf : f.U) : (stp m l f).U := by
  unfold stp
  split
  · split
    · exact doI_U (hm.fm l f.pc) l hf _
    · exact ⟨hf, hm.fm l f.pc⟩
  · exact ⟨hf, hm.wkS l f.pc⟩
/-- A run. -/
structure ROut where
  f : F
  k : Int
  a : Int
  u : Nat
  m : MS
def rn (l : Int) : Nat → Nat → MS → F → ROut
  | 0, d, m, f => ⟨f, 5, 0, d, m⟩
  | n + 1, d, m, f => if (stp m l f).k = 0 then rn l n (d + 1) (stp m l f).m (stp m l f).f else ⟨(stp m l f).f, (stp m l f).k, (stp m l f).a, d + 1, (stp m l f).m⟩
end Go.Proofs.YteldpapacdbbiaaDoor
