import Derived.Test.YtgbpbfnpeeciaaaP14
import Derived.Test.YtgbpbfnpeeciaaaP01
import Derived.Laws.BitsAllLaws
namespace Go.Proofs.Ytgbpbfnpeeciaaa
open Go.RowKit Go.Shelf
theorem rowsIn_wide {l n : Nat} {P : Program} {row : String} {args : Array Value} {w : World} {R : Value → World → Prop} (h : Rows P row args w R) : RowsIn (Fence.wide.inRound l) n P row args w R :=
  fun c cs _ => let ⟨v, w', r, s⟩ := h c cs; ⟨v, w', r, stepsIn_wide.2 s⟩
theorem upon_in {l n : Nat} {P : Program} {o : Oper} {a : Act} {K K' : Act → World → Prop} {Q : Exit → Act → World → Prop} (hK : ∀ a w, K a w → K' a w) (r : Result Next) (h : o.upon P a K Q r) : o.uponIn (Fence.wide.inRound l) n P a K' Q r := by
  unfold Oper.upon at h
  unfold Oper.uponIn
  split at h
  · exact hK _ _ h
  · exact hK _ _ h
  · exact hK _ _ h
  · refine ⟨fun h => (by cases h), ?_⟩
    have := callsIn_wide (n := n - 1).2 h
    refine CallsIn.mono (F := Fence.wide.inRound l) this ?_
    intro e w' he
    cases e with
    | returned v => exact hK _ _ he
    | panicked c => exact he
    | outgrown => exact he
  · exact ⟨fun h => (by cases h), rowsIn_wide (h.mono fun v w' hv => hK _ _ hv)⟩
  · exact h
  · exact h.elim
theorem wpAny_in {l n : Nat} {P : Program} {md : Region.Mode} {ops : Array Oper} {Q : Exit → Act → World → Prop} (hd : ∀ (i : Nat) (o : Oper), ops[i]? = some o → ∀ c, o.op ≠ .defer c) (hq : ¬ LetsOut Q) :
    ∀ (fuel : Nat) (listed : Array Bool) (a : Act) (w : World), wpAny P md ops Q fuel listed a w → wpAnyIn (Fence.wide.inRound l) n P md ops Q fuel listed a w
  | 0, _, _, _, h => h
  | fuel + 1, listed, a, w, h => ⟨h.1, fun i hi => by
      have h2 := h.2 i hi
      unfold wpOp at h2
      unfold wpOpIn
      cases ho : ops[i]? with
      | none => rw [ho] at h2; exact wpAny_in hd hq fuel _ _ _ h2
      | some o =>
        rw [ho] at h2
        simp only at h2 ⊢
        split
        · rename_i hw
          rw [if_pos hw] at h2
          rcases h2 with h2 | ⟨_, h2⟩
          · refine ⟨fun _ _ => trivial, ?_⟩
            rw [Oper.semAt_eq _ _ _ (hd i o ho)]
            exact upon_in (fun a w h => wpAny_in hd hq fuel _ a w h) _ h2
          · exact absurd h2 hq
        · rename_i hw
          rw [if_neg hw] at h2
          exact ⟨fun _ _ => trivial, wpAny_in hd hq fuel _ _ _ h2⟩⟩
def isDefer : Op → Bool
  | .defer _ => true
  | _ => false
theorem region_round {l n id : Nat} {P : Program} {ops : List Oper} {Q : Exit → Act → World → Prop} {S : World → Prop} {a : Act} {w : World} (hm : P.follows .mixedOrders = true) (hd : (ops.all fun o => !isDefer o.op) = true) (hq : ∀ a w, ¬ Q .outgrown a w) (hS : S w.drew)
    (h : S w.drew → wpAnyH P .any ops.toArray Q S ops.toArray.size (Array.replicate ops.toArray.size false) a w.drew) : (Code.region id ops.toArray true).wpIn (Fence.wide.inRound l) n P Q a w :=
  wpIn_region_any hm (wpAny_in (fun i o ho c hc => by
    have := List.all_eq_true.1 hd o (by have h' : ops[i]? = some o := by simpa using ho
                                        exact List.mem_of_getElem? h')
    rw [hc] at this
    cases this) (fun ⟨a, w, h⟩ => hq a w h) _ _ _ _ (wpAny_of_held _ _ _ _ (h hS)))
end Go.Proofs.Ytgbpbfnpeeciaaa
namespace Go.Proofs.Ytgbpbfnpeeciaaa
open Go.RowKit
def En.used (x : En) : En := if x.t = 1 then ⟨x.t, x.o, x.r, x.s, false⟩ else if x.t = 2 then ⟨x.t, x.o, 0, 0, x.e⟩ else if x.t = 3 ∨ x.t = 4 ∨ x.t = 5 ∨ x.t = 6 then ⟨x.t, x.o, 0, 0, false⟩ else En.zero
def blw (n : Int) : Bool := decide (0 ≤ n ∧ n < 64)
def fit (s t : Int) : Bool := if t = 1 then decide (0 < s ∧ s < 4) else s == 0
def En.ok (x : En) : Bool := x.same x.used && (blw x.o && (blw x.r && fit x.s x.t))
structure En.Ok (x : En) : Prop where
  t0 : 0 ≤ x.t
  t1 : x.t ≤ 6
  o0 : 0 ≤ x.o
  o1 : x.o < 64
  r0 : 0 ≤ x.r
  r1 : x.r < 64
  s0 : 0 ≤ x.s
  s1 : x.s < 4
  z : x.t = 0 → x.o = 0
  sp : x.t = 1 → 1 ≤ x.s
  ns : x.t ≠ 1 → x.r = 0 ∧ x.s = 0
  en : x.e = true → x.t = 2
theorem En.ok_iff (x : En) : x.ok = true ↔ x.Ok := by
  obtain ⟨t, o, r, s, e⟩ := x
  simp only [En.ok, Bool.and_eq_true, En.same_iff, blw, fit, decide_eq_true_eq, En.used]
  constructor
  · rintro ⟨h, ho, hr, hs⟩
    split at h
    · rename_i ht
      subst ht
      simp only [En.mk.injEq, true_and] at h
      simp only [if_true, decide_eq_true_eq] at hs
      exact ⟨by simp, by simp, ho.1, ho.2, hr.1, hr.2, by simp only; omega, by simp only; omega, by simp, by simp only; omega, by simp, by simp [h]⟩
    · rename_i h1
      rw [if_neg h1] at hs
      simp only [beq_iff_eq] at hs
      split at h
      · rename_i h2
        subst h2
        simp only [En.mk.injEq, true_and, and_true] at h
        exact ⟨by simp, by simp, ho.1, ho.2, hr.1, hr.2, by simp only; omega, by simp only; omega, by simp, by simp, by simp only; omega, by simp⟩
      · split at h
        · rename_i h2 h3
          simp only [En.mk.injEq, true_and] at h
          exact ⟨by simp only; omega, by simp only; omega, ho.1, ho.2, hr.1, hr.2, by simp only; omega, by simp only; omega, by simp only; omega, by simp only; omega, by simp only; omega, by simp [h]⟩
        · simp only [En.zero, En.mk.injEq] at h
          obtain ⟨rfl, rfl, rfl, rfl, rfl⟩ := h
          exact ⟨by simp, by simp, by simp, by simp, by simp, by simp, by simp, by simp, by simp, by simp, by simp, by simp⟩
  · rintro ⟨t0, t1, o0, o1, r0, r1, s0, s1, z, sp, ns, en⟩
    simp only at *
    refine ⟨?_, ⟨o0, o1⟩, ⟨r0, r1⟩, ?_⟩
    · by_cases h1 : t = 1
      · rw [if_pos h1]
        cases e
        · rfl
        · have := en rfl; omega
      · obtain ⟨hr, hs⟩ := ns h1
        subst hr hs
        rw [if_neg h1]
        by_cases h2 : t = 2
        · rw [if_pos h2]
        · rw [if_neg h2]
          cases e
          · by_cases h3 : t = 3 ∨ t = 4 ∨ t = 5 ∨ t = 6
            · rw [if_pos h3]
            · rw [if_neg h3]
              have h4 : t = 0 := by omega
              have h5 := z h4
              subst h4 h5
              rfl
          · exact absurd (en rfl) h2
    · by_cases h1 : t = 1
      · rw [if_pos h1]; have := sp h1; simp; omega
      · rw [if_neg h1]; simp [(ns h1).2]
def chk (x : En) : Int := if x.ok = true then 0 else 110
def En.w (x : En) : Int := x.t + 16 * x.s + 65536 * x.o + (if x.e then 256 else 0)
def fld (a b : Int) : En := ⟨a % 8, a / 65536 % 64, b % 64, a / 16 % 4, a / 256 % 2 == 1⟩
theorem En.w_range {x : En} (h : x.Ok) : 0 ≤ x.w ∧ x.w < 4294967296 := by
  obtain ⟨t0, t1, o0, o1, r0, r1, s0, s1, z, sp, ns, en⟩ := h
  unfold En.w
  split <;> omega
theorem fld_w {x : En} (h : x.Ok) : fld x.w x.r = x := by
  obtain ⟨t0, t1, o0, o1, r0, r1, s0, s1, z, sp, ns, en⟩ := h
  obtain ⟨t, o, r, s, e⟩ := x
  simp only [fld, En.w] at *
  cases e
  · simp only [Bool.false_eq_true, if_false, En.mk.injEq]
    refine ⟨by omega, by omega, by omega, by omega, ?_⟩
    rw [beq_eq_false_iff_ne]; omega
  · have ht := en rfl
    subst ht
    obtain ⟨rfl, rfl⟩ := ns (by decide)
    simp only [if_true, En.mk.injEq]
    refine ⟨by omega, by omega, by omega, by omega, ?_⟩
    rw [beq_iff_eq]; omega
def e0 (x : En) : Int := if x.ok = true then x.w else 0
def e1 (x : En) : Int := if x.ok = true then x.r else 0
def dok (a b : Int) : Bool := (fld a b).ok && same2 (e0 (fld a b)) (e1 (fld a b)) a b
def dec (a b : Int) : En := if dok a b = true then fld a b else En.zero
def decE (a b : Int) : Int := if dok a b = true then 0 else 110
theorem dok_w {x : En} (h : x.ok = true) : dok (e0 x) (e1 x) = true ∧ fld (e0 x) (e1 x) = x := by
  have hf : fld (e0 x) (e1 x) = x := by unfold e0 e1; rw [if_pos h, if_pos h]; exact fld_w (x.ok_iff.1 h)
  exact ⟨by simp [dok, hf, h, same2], hf⟩
theorem or_add (k : Nat) (a b c : Int) (hb : b = c * 2 ^ k) (ha0 : 0 ≤ a) (ha : a < 2 ^ k) (hc : 0 ≤ c) (hk : b < 4294967296) (hk2 : a < 4294967296) : bits .or .u32 a b = a + b := by
  have hp : (0 : Int) < 2 ^ k := Int.pow_pos (by decide)
  have hb0 : 0 ≤ b := by rw [hb]; exact Int.mul_nonneg hc (Int.le_of_lt hp)
  rw [u32_or a b ha0 hk2 hb0 hk]
  have e : b.toNat = c.toNat <<< k := by
    rw [Nat.shiftLeft_eq]
    have : ((c.toNat * 2 ^ k : Nat) : Int) = b := by rw [hb]; push_cast; rw [Int.toNat_of_nonneg hc]
    omega
  have e2 : a.toNat < 2 ^ k := by
    have : ((2 ^ k : Nat) : Int) = 2 ^ k := by push_cast; rfl
    omega
  rw [e, Nat.or_comm, ← Nat.shiftLeft_add_eq_or_of_lt e2, ← e]
  omega
theorem or_256 (o : Int) (h0 : 0 ≤ o) (h1 : o < 64) : bits .or .u32 (2 + 65536 * o) 256 = 2 + 65536 * o + 256 := by
  rw [u32_or _ 256 (by omega) (by omega) (by decide) (by decide)]
  have : ∀ k : Fin 64, ((2 + 65536 * k.val) ||| 256) = 2 + 65536 * k.val + 256 := by decide
  have e := this ⟨o.toNat, by omega⟩
  simp only at e
  have e2 : (2 + 65536 * o).toNat = 2 + 65536 * o.toNat := by omega
  rw [e2, show (256 : Int).toNat = 256 from rfl, e]
  omega
theorem and_mask (k : Nat) (m a : Int) (hm : m = 2 ^ k - 1) (h0 : 0 ≤ a) (h1 : a < 4294967296) (hm1 : m < 4294967296) : bits .and .u32 a m = a % 2 ^ k := by
  have hp : ((2 ^ k : Nat) : Int) = 2 ^ k := by push_cast; rfl
  have hp0 : 0 < 2 ^ k := Nat.two_pow_pos k
  rw [u32_and a m h0 h1 (by omega) hm1]
  have : m.toNat = 2 ^ k - 1 := by omega
  rw [this, Nat.and_two_pow_sub_one_eq_mod, ← hp]
  have ea : a = (a.toNat : Int) := by omega
  rw [ea]
  simp
end Go.Proofs.Ytgbpbfnpeeciaaa
