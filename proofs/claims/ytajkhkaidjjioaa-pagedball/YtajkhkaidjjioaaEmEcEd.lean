/- Entries and their words, as plain numbers. entry's isBelow 20, fits 21, used 19, fields 22; the law's given 10, told 15, numbers 18. entry's Check 11 (its region 1 is drawn). -/
import Derived.Test.YtajkhkaidjjioaaEb
import Derived.Laws.BitsAllLaws
namespace Go.Proofs.Ytajkhkaidjjioaa
open Go.RowKit
def En.used (x : En) : En := if x.t = 1 then ⟨x.t, x.o, x.r, x.s, false⟩ else if x.t = 2 then ⟨x.t, x.o, 0, 0, x.e⟩ else if x.t = 3 ∨ x.t = 4 ∨ x.t = 5 ∨ x.t = 6 then ⟨x.t, x.o, 0, 0, false⟩ else En.zero
def blw (n : Int) : Bool := decide (0 ≤ n ∧ n < 64)
def fit (s t : Int) : Bool := if t = 1 then decide (0 < s ∧ s < 4) else s == 0
def En.ok (x : En) : Bool := x.same x.used && (blw x.o && (blw x.r && fit x.s x.t))
/-- What passes, said plainly. -/
structure En.Ok (x : En) : Prop where
  t0 : 0 ≤ x.t
  t1 : x.t ≤ 6
  o0 : 0 ≤ x.o
  o1 : x.o < 64
  r0 : 0 ≤ x.r
  r1 : x.r < 64
  s0 : 0 ≤ x.s
  s1 : x.s < 4
  z : x.t = 0 → x.o = 0
  sp : x.t = 1 → 1 ≤ x.s
  ns : x.t ≠ 1 → x.r = 0 ∧ x.s = 0
  en : x.e = true → x.t = 2
theorem En.ok_iff (x : En) : x.ok = true ↔ x.Ok := by
  obtain ⟨t, o, r, s, e⟩ := x
  simp only [En.ok, Bool.and_eq_true, En.same_iff, blw, fit, decide_eq_true_eq, En.used]
  constructor
  · rintro ⟨h, ho, hr, hs⟩
    split at h
    · rename_i ht
      subst ht
      simp only [En.mk.injEq, true_and] at h
      simp only [if_true, decide_eq_true_eq] at hs
      exact ⟨by simp, by simp, ho.1, ho.2, hr.1, hr.2, by simp only; omega, by simp only; omega, by simp, by simp only; omega, by simp, by simp [h]⟩
    · rename_i h1
      rw [if_neg h1] at hs
      simp only [beq_iff_eq] at hs
      split at h
      · rename_i h2
        subst h2
        simp only [En.mk.injEq, true_and, and_true] at h
        exact ⟨by simp, by simp, ho.1, ho.2, hr.1, hr.2, by simp only; omega, by simp only; omega, by simp, by simp, by simp only; omega, by simp⟩
      · split at h
        · rename_i h2 h3
          simp only [En.mk.injEq, true_and] at h
          exact ⟨by simp only; omega, by simp only; omega, ho.1, ho.2, hr.1, hr.2, by simp only; omega, by simp only; omega, by simp only; omega, by simp only; omega, by simp only; omega, by simp [h]⟩
        · simp only [En.zero, En.mk.injEq] at h
          obtain ⟨rfl, rfl, rfl, rfl, rfl⟩ := h
          exact ⟨by simp, by simp, by simp, by simp, by simp, by simp, by simp, by simp, by simp, by simp, by simp, by simp⟩
  · rintro ⟨t0, t1, o0, o1, r0, r1, s0, s1, z, sp, ns, en⟩
    simp only at *
    refine ⟨?_, ⟨o0, o1⟩, ⟨r0, r1⟩, ?_⟩
    · by_cases h1 : t = 1
      · rw [if_pos h1]
        cases e
        · rfl
        · have := en rfl; omega
      · obtain ⟨hr, hs⟩ := ns h1
        subst hr hs
        rw [if_neg h1]
        by_cases h2 : t = 2
        · rw [if_pos h2]
        · rw [if_neg h2]
          cases e
          · by_cases h3 : t = 3 ∨ t = 4 ∨ t = 5 ∨ t = 6
            · rw [if_pos h3]
            · rw [if_neg h3]
              have h4 : t = 0 := by omega
              have h5 := z h4
              subst h4 h5
              rfl
          · exact absurd (en rfl) h2
    · by_cases h1 : t = 1
      · rw [if_pos h1]; have := sp h1; simp; omega
      · rw [if_neg h1]; simp [(ns h1).2]
def chk (x : En) : Int := if x.ok = true then 0 else 110
/-- The first word. -/
def En.w (x : En) : Int := x.t + 16 * x.s + 65536 * x.o + (if x.e then 256 else 0)
def fld (a b : Int) : En := ⟨a % 8, a / 65536 % 64, b % 64, a / 16 % 4, a / 256 % 2 == 1⟩
theorem En.w_range {x : En} (h : x.Ok) : 0 ≤ x.w ∧ x.w < 4294967296 := by
  obtain ⟨t0, t1, o0, o1, r0, r1, s0, s1, z, sp, ns, en⟩ := h
  unfold En.w
  split <;> omega
theorem fld_w {x : En} (h : x.Ok) : fld x.w x.r = x := by
  obtain ⟨t0, t1, o0, o1, r0, r1, s0, s1, z, sp, ns, en⟩ := h
  obtain ⟨t, o, r, s, e⟩ := x
  simp only [fld, En.w] at *
  cases e
  · simp only [Bool.false_eq_true, if_false, En.mk.injEq]
    refine ⟨by omega, by omega, by omega, by omega, ?_⟩
    rw [beq_eq_false_iff_ne]; omega
  · have ht := en rfl
    subst ht
    obtain ⟨rfl, rfl⟩ := ns (by decide)
    simp only [if_true, En.mk.injEq]
    refine ⟨by omega, by omega, by omega, by omega, ?_⟩
    rw [beq_iff_eq]; omega
/-- What Encode answers. -/
def e0 (x : En) : Int := if x.ok = true then x.w else 0
def e1 (x : En) : Int := if x.ok = true then x.r else 0
/-- What Decode answers. -/
def dok (a b : Int) : Bool := (fld a b).ok && same2 (e0 (fld a b)) (e1 (fld a b)) a b
def dec (a b : Int) : En := if dok a b = true then fld a b else En.zero
def decE (a b : Int) : Int := if dok a b = true then 0 else 110
theorem dok_ok {a b : Int} (h : dok a b = true) : (fld a b).ok = true ∧ e0 (fld a b) = a ∧ e1 (fld a b) = b := by
  simp only [dok, Bool.and_eq_true, same2_iff] at h
  exact h
theorem dok_w {x : En} (h : x.ok = true) : dok (e0 x) (e1 x) = true ∧ fld (e0 x) (e1 x) = x := by
  have hf : fld (e0 x) (e1 x) = x := by unfold e0 e1; rw [if_pos h, if_pos h]; exact fld_w (x.ok_iff.1 h)
  exact ⟨by simp [dok, hf, h, same2], hf⟩
theorem or_add (k : Nat) (a b c : Int) (hb : b = c * 2 ^ k) (ha0 : 0 ≤ a) (ha : a < 2 ^ k) (hc : 0 ≤ c) (hk : b < 4294967296) (hk2 : a < 4294967296) : bits .or .u32 a b = a + b := by
  have hp : (0 : Int) < 2 ^ k := Int.pow_pos (by decide)
  have hb0 : 0 ≤ b := by rw [hb]; exact Int.mul_nonneg hc (Int.le_of_lt hp)
  rw [u32_or a b ha0 hk2 hb0 hk]
  have e : b.toNat = c.toNat <<< k := by
    rw [Nat.shiftLeft_eq]
    have : ((c.toNat * 2 ^ k : Nat) : Int) = b := by rw [hb]; push_cast; rw [Int.toNat_of_nonneg hc]
    omega
  have e2 : a.toNat < 2 ^ k := by
    have : ((2 ^ k : Nat) : Int) = 2 ^ k := by push_cast; rfl
    omega
  rw [e, Nat.or_comm, ← Nat.shiftLeft_add_eq_or_of_lt e2, ← e]
  omega
theorem or_256 (o : Int) (h0 : 0 ≤ o) (h1 : o < 64) : bits .or .u32 (2 + 65536 * o) 256 = 2 + 65536 * o + 256 := by
  rw [u32_or _ 256 (by omega) (by omega) (by decide) (by decide)]
  have : ∀ k : Fin 64, ((2 + 65536 * k.val) ||| 256) = 2 + 65536 * k.val + 256 := by decide
  have e := this ⟨o.toNat, by omega⟩
  simp only at e
  have e2 : (2 + 65536 * o).toNat = 2 + 65536 * o.toNat := by omega
  rw [e2, show (256 : Int).toNat = 256 from rfl, e]
  omega
theorem and_mask (k : Nat) (m a : Int) (hm : m = 2 ^ k - 1) (h0 : 0 ≤ a) (h1 : a < 4294967296) (hm1 : m < 4294967296) : bits .and .u32 a m = a % 2 ^ k := by
  have hp : ((2 ^ k : Nat) : Int) = 2 ^ k := by push_cast; rfl
  have hp0 : 0 < 2 ^ k := Nat.two_pow_pos k
  rw [u32_and a m h0 h1 (by omega) hm1]
  have : m.toNat = 2 ^ k - 1 := by omega
  rw [this, Nat.and_two_pow_sub_one_eq_mod, ← hp]
  have ea : a = (a.toNat : Int) := by omega
  rw [ea]
  simp
end Go.Proofs.Ytajkhkaidjjioaa
namespace Go.Proofs.Ytajkhkaidjjioaa
open Go.RowKit
set_option maxHeartbeats 4000000
set_option maxRecDepth 100000
theorem below_any (W : World) (n : Int) : Calls Try.prog 106 #[.int .i64 n] W fun e W' => e = .returned (.bool (blw n)) ∧ W = W' := by
  unfold blw
  by_cases h0 : 0 ≤ n
  · by_cases h1 : n < 64
    · have hd : decide (0 ≤ n ∧ n < 64) = true := decide_eq_true ⟨h0, h1⟩
      rw [hd]
      go_enter Try.func106, Try.ntmps106
      go_wp2
      go_ret
      exact ⟨rfl, rfl⟩
    · have hd : decide (0 ≤ n ∧ n < 64) = false := decide_eq_false (by omega)
      rw [hd]
      go_enter Try.func106, Try.ntmps106
      go_wp2
      go_ret
      exact ⟨rfl, rfl⟩
  · have hd : decide (0 ≤ n ∧ n < 64) = false := decide_eq_false (by omega)
    rw [hd]
    go_enter Try.func106, Try.ntmps106
    go_wp2
    go_ret
    exact ⟨rfl, rfl⟩
theorem fits_any (W : World) (s t : Int) : Calls Try.prog 107 #[.int .i64 s, .int .i64 t] W fun e W' => e = .returned (.bool (fit s t)) ∧ W = W' := by
  unfold fit
  by_cases ht : t = 1
  · subst ht
    rw [if_pos rfl]
    by_cases h0 : 0 < s
    · by_cases h1 : s < 4
      · have hd : decide (0 < s ∧ s < 4) = true := decide_eq_true ⟨h0, h1⟩
        rw [hd]
        go_enter Try.func107, Try.ntmps107
        go_wp2
        go_ret
        exact ⟨rfl, rfl⟩
      · have hd : decide (0 < s ∧ s < 4) = false := decide_eq_false (by omega)
        rw [hd]
        go_enter Try.func107, Try.ntmps107
        go_wp2
        go_ret
        exact ⟨rfl, rfl⟩
    · have hd : decide (0 < s ∧ s < 4) = false := decide_eq_false (by omega)
      rw [hd]
      go_enter Try.func107, Try.ntmps107
      go_wp2
      go_ret
      exact ⟨rfl, rfl⟩
  · rw [if_neg ht]
    have h' : (t == 1) = false := by simpa using ht
    clear ht
    go_enter Try.func107, Try.ntmps107
    go_wp2
    go_ret
    exact ⟨rfl, rfl⟩
/-- A box and a variable. -/
structure Bx (W x : World) (g h : Nat) (t u : TypeId) (cs ds : List Value) : Prop where
  a : Cel x g t cs
  b : Cel x h u ds
  below : Below W.heap.size W x
  lh : W.heap.size ≤ h
theorem Bx.new (W : World) (t u : TypeId) (cs ds : List Value) : Bx W ((W.alloc (.cells cs.toArray t)).alloc (.cells ds.toArray u)) W.heap.size (W.heap.size + 1) t u cs ds := by
  have h := Cel.new (W.alloc (.cells cs.toArray t)) u ds
  rw [World.size_alloc] at h
  exact ⟨(Cel.new W t cs).on (below_one _ _), h, below_on (below_one _ _) (below_one _ _), by omega⟩
theorem Bx.on {W x x' : World} {g h : Nat} {t u : TypeId} {cs ds : List Value} (k : Bx W x g h t u cs ds) (hb : Below x.heap.size x x') : Bx W x' g h t u cs ds := ⟨k.a.on hb, k.b.on hb, below_on k.below hb, k.lh⟩
theorem Bx.put {W x x' : World} {g h : Nat} {t u : TypeId} {cs ds es : List Value} (k : Bx W x g h t u cs ds) (hc : Cel x' h u es) (hb : ButL [h] x x') : Cel x' h u es ∧ Below W.heap.size W x' :=
  ⟨hc, k.below.trans (hb.below (B := W.heap.size) (by simpa using k.lh) k.below.size)⟩
theorem used_any (W : World) (x : En) : Calls Try.prog 105 #[x.v] W fun e W' => e = .returned x.used.v ∧ Below W.heap.size W W' := by
  have HX := hid (Bx.new W 62 62 x.cs En.zero.cs)
  obtain ⟨t, o, r, s, e⟩ := x
  generalize hu : En.used ⟨t, o, r, s, e⟩ = u
  simp only [En.v, En.cs, En.zero] at HX ⊢
  unfold En.used at hu
  simp only [En.zero] at hu
  by_cases h1 : t = 1
  · subst h1
    rw [if_pos rfl] at hu
    subst hu
    go_enter Try.func105, Try.ntmps105
    go_upto_region 1 with fail
    generalize hX : (W.alloc _).alloc _ = X at *
    clear hX
    generalize W.heap.size + 1 = g2 at *
    generalize W.heap.size = g1 at *
    have c0 := HX.out.a.cell 0
    have c1 := HX.out.a.cell 1
    have c2 := HX.out.a.cell 2
    have c3 := HX.out.a.cell 3
    have c4 := HX.out.a.cell 4
    simp only [List.getElem?_cons_zero, List.getElem?_cons_succ] at c0 c1 c2 c3 c4
    go_wp2_with (refine wpList_store_st rfl 62 _ _ rfl g2 [.int .i64 1, .int .i64 o, .int .i64 r, .int .i64 s, .bool false] rfl rfl HX.out.b sizeE rfl rfl ?_; intro w2 hc2 hb2 hs2; have HF := hid (HX.out.put hc2 hb2); clear hc2 hb2 hs2)
    exact ret_st rfl rfl g2 _ rfl HF.out.1 underE rfl (by rw [sizeE]; rfl) ⟨rfl, HF.out.2⟩
  rw [if_neg h1] at hu
  by_cases h2 : t = 2
  · subst h2
    rw [if_pos rfl] at hu
    subst hu
    clear h1
    go_enter Try.func105, Try.ntmps105
    go_upto_region 1 with fail
    generalize hX : (W.alloc _).alloc _ = X at *
    clear hX
    generalize W.heap.size + 1 = g2 at *
    generalize W.heap.size = g1 at *
    have c0 := HX.out.a.cell 0
    have c1 := HX.out.a.cell 1
    have c2 := HX.out.a.cell 2
    have c3 := HX.out.a.cell 3
    have c4 := HX.out.a.cell 4
    simp only [List.getElem?_cons_zero, List.getElem?_cons_succ] at c0 c1 c2 c3 c4
    go_wp2_with (refine wpList_store_st rfl 62 _ _ rfl g2 [.int .i64 2, .int .i64 o, .int .i64 0, .int .i64 0, .bool e] rfl rfl HX.out.b sizeE rfl rfl ?_; intro w2 hc2 hb2 hs2; have HF := hid (HX.out.put hc2 hb2); clear hc2 hb2 hs2)
    exact ret_st rfl rfl g2 _ rfl HF.out.1 underE rfl (by rw [sizeE]; rfl) ⟨rfl, HF.out.2⟩
  rw [if_neg h2] at hu
  by_cases h3 : t = 3
  · subst h3
    rw [if_pos (by decide)] at hu
    subst hu
    clear h1 h2
    go_enter Try.func105, Try.ntmps105
    go_upto_region 1 with fail
    generalize hX : (W.alloc _).alloc _ = X at *
    clear hX
    generalize W.heap.size + 1 = g2 at *
    generalize W.heap.size = g1 at *
    have c0 := HX.out.a.cell 0
    have c1 := HX.out.a.cell 1
    have c2 := HX.out.a.cell 2
    have c3 := HX.out.a.cell 3
    have c4 := HX.out.a.cell 4
    simp only [List.getElem?_cons_zero, List.getElem?_cons_succ] at c0 c1 c2 c3 c4
    go_wp2_with (refine wpList_store_st rfl 62 _ _ rfl g2 [.int .i64 3, .int .i64 o, .int .i64 0, .int .i64 0, .bool false] rfl rfl HX.out.b sizeE rfl rfl ?_; intro w2 hc2 hb2 hs2; have HF := hid (HX.out.put hc2 hb2); clear hc2 hb2 hs2)
    exact ret_st rfl rfl g2 _ rfl HF.out.1 underE rfl (by rw [sizeE]; rfl) ⟨rfl, HF.out.2⟩
  by_cases h4 : t = 4
  · subst h4
    rw [if_pos (by decide)] at hu
    subst hu
    clear h1 h2 h3
    go_enter Try.func105, Try.ntmps105
    go_upto_region 1 with fail
    generalize hX : (W.alloc _).alloc _ = X at *
    clear hX
    generalize W.heap.size + 1 = g2 at *
    generalize W.heap.size = g1 at *
    have c0 := HX.out.a.cell 0
    have c1 := HX.out.a.cell 1
    have c2 := HX.out.a.cell 2
    have c3 := HX.out.a.cell 3
    have c4 := HX.out.a.cell 4
    simp only [List.getElem?_cons_zero, List.getElem?_cons_succ] at c0 c1 c2 c3 c4
    go_wp2_with (refine wpList_store_st rfl 62 _ _ rfl g2 [.int .i64 4, .int .i64 o, .int .i64 0, .int .i64 0, .bool false] rfl rfl HX.out.b sizeE rfl rfl ?_; intro w2 hc2 hb2 hs2; have HF := hid (HX.out.put hc2 hb2); clear hc2 hb2 hs2)
    exact ret_st rfl rfl g2 _ rfl HF.out.1 underE rfl (by rw [sizeE]; rfl) ⟨rfl, HF.out.2⟩
  by_cases h5 : t = 5
  · subst h5
    rw [if_pos (by decide)] at hu
    subst hu
    clear h1 h2 h3 h4
    go_enter Try.func105, Try.ntmps105
    go_upto_region 1 with fail
    generalize hX : (W.alloc _).alloc _ = X at *
    clear hX
    generalize W.heap.size + 1 = g2 at *
    generalize W.heap.size = g1 at *
    have c0 := HX.out.a.cell 0
    have c1 := HX.out.a.cell 1
    have c2 := HX.out.a.cell 2
    have c3 := HX.out.a.cell 3
    have c4 := HX.out.a.cell 4
    simp only [List.getElem?_cons_zero, List.getElem?_cons_succ] at c0 c1 c2 c3 c4
    go_wp2_with (refine wpList_store_st rfl 62 _ _ rfl g2 [.int .i64 5, .int .i64 o, .int .i64 0, .int .i64 0, .bool false] rfl rfl HX.out.b sizeE rfl rfl ?_; intro w2 hc2 hb2 hs2; have HF := hid (HX.out.put hc2 hb2); clear hc2 hb2 hs2)
    exact ret_st rfl rfl g2 _ rfl HF.out.1 underE rfl (by rw [sizeE]; rfl) ⟨rfl, HF.out.2⟩
  by_cases h6 : t = 6
  · subst h6
    rw [if_pos (by decide)] at hu
    subst hu
    clear h1 h2 h3 h4 h5
    go_enter Try.func105, Try.ntmps105
    go_upto_region 1 with fail
    generalize hX : (W.alloc _).alloc _ = X at *
    clear hX
    generalize W.heap.size + 1 = g2 at *
    generalize W.heap.size = g1 at *
    have c0 := HX.out.a.cell 0
    have c1 := HX.out.a.cell 1
    have c2 := HX.out.a.cell 2
    have c3 := HX.out.a.cell 3
    have c4 := HX.out.a.cell 4
    simp only [List.getElem?_cons_zero, List.getElem?_cons_succ] at c0 c1 c2 c3 c4
    go_wp2_with (refine wpList_store_st rfl 62 _ _ rfl g2 [.int .i64 6, .int .i64 o, .int .i64 0, .int .i64 0, .bool false] rfl rfl HX.out.b sizeE rfl rfl ?_; intro w2 hc2 hb2 hs2; have HF := hid (HX.out.put hc2 hb2); clear hc2 hb2 hs2)
    exact ret_st rfl rfl g2 _ rfl HF.out.1 underE rfl (by rw [sizeE]; rfl) ⟨rfl, HF.out.2⟩
  · rw [if_neg (by omega)] at hu
    subst hu
    have q1 : (t == 1) = false := by simpa using h1
    have q2 : (t == 2) = false := by simpa using h2
    have q3 : (t == 3) = false := by simpa using h3
    have q4 : (t == 4) = false := by simpa using h4
    have q5 : (t == 5) = false := by simpa using h5
    have q6 : (t == 6) = false := by simpa using h6
    clear h1 h2 h3 h4 h5 h6
    go_enter Try.func105, Try.ntmps105
    go_upto_region 1 with fail
    generalize hX : (W.alloc _).alloc _ = X at *
    clear hX
    generalize W.heap.size + 1 = g2 at *
    generalize W.heap.size = g1 at *
    have c0 := HX.out.a.cell 0
    have c1 := HX.out.a.cell 1
    have c2 := HX.out.a.cell 2
    have c3 := HX.out.a.cell 3
    have c4 := HX.out.a.cell 4
    simp only [List.getElem?_cons_zero, List.getElem?_cons_succ] at c0 c1 c2 c3 c4
    go_wp2_with (refine wpList_store_st rfl 62 _ _ rfl g2 [.int .i64 0, .int .i64 0, .int .i64 0, .int .i64 0, .bool false] rfl rfl HX.out.b sizeE rfl rfl ?_; intro w2 hc2 hb2 hs2; have HF := hid (HX.out.put hc2 hb2); clear hc2 hb2 hs2)
    exact ret_st rfl rfl g2 _ rfl HF.out.1 underE rfl (by rw [sizeE]; rfl) ⟨rfl, HF.out.2⟩
end Go.Proofs.Ytajkhkaidjjioaa
namespace Go.Proofs.Ytajkhkaidjjioaa
open Go.RowKit
set_option maxHeartbeats 8000000
set_option maxRecDepth 100000
theorem exec_neV {a : Act} {w : World} {o : Oper} (T : TypeId) (x y : Operand) (ho : o.op = .binOp .neq T x y T) (u v : Array Value) (hx : a.eval x = .agg u) (hy : a.eval y = .agg v) (hg : Try.prog.eqGuardType Try.prog.depth T = false) (c b : Bool) (hb : (Op.equalIn 10000 T (.agg u) (.agg v)).run Try.prog w = .ok c w) (hc : (!c) = b) :
    (execOp a.eval o).run Try.prog w = .ok (.value (.bool b)) w := by rw [exec_ne T x y ho u v hx hy hg c hb, hc]
theorem exec_eqV {a : Act} {w : World} {o : Oper} (T : TypeId) (x y : Operand) (ho : o.op = .binOp .eql T x y T) (u v : Array Value) (hx : a.eval x = .agg u) (hy : a.eval y = .agg v) (hg : Try.prog.eqGuardType Try.prog.depth T = false) (c b : Bool) (hb : (Op.equalIn 10000 T (.agg u) (.agg v)).run Try.prog w = .ok c w) (hc : c = b) :
    (execOp a.eval o).run Try.prog w = .ok (.value (.bool b)) w := by rw [exec_eq T x y ho u v hx hy hg c hb, hc]
theorem check_any (W : World) (x : En) : Calls Try.prog 103 #[x.v] W fun e W' => e = .returned (.int .i64 (chk x)) ∧ Below W.heap.size W W' := by
  have HC := hid (Cel.new W 62 x.cs)
  have HB := hid (below_one W (.cells x.cs.toArray 62))
  unfold En.v
  go_enter Try.func103, Try.ntmps103
  go_upto_region 1 with fail
  generalize hX : World.alloc _ _ = X at *
  clear hX
  have HC0 := hid (HC.out.on (Below.refl _ _).drew)
  have HB0 := hid (below_on HB.out (Below.refl _ _).drew)
  generalize W.heap.size = g1 at HC HC0 ⊢
  clear HC HB
  rcases e1 : x.same x.used with _ | _
  · have hk : chk x = 110 := by simp [chk, En.ok, e1]
    refine wp_region_held_drew (S := fun w => Cel w g1 62 x.cs) (by kernel_rfl) HC0.out (fun hHeld => ?_)
    refine wpAnyH_take (i := 0) (oi := { dst := some 3, op := Op.load 62 (Operand.tmp 1), type := 62, pos := "entry.go:42", after := #[], guard := none }) (v := x.v) rfl (by kernel_rfl) (by kernel_rfl) (by kernel_rfl) (fun _ _ _ h => h) (yieldsIf_load_mid (by rfl) _ _ rfl _ _ rfl _ _ (fun w hSw => hSw.range) underE rfl (by rw [sizeE]; rfl)) (by assumption) ?_
    simp only [Act.put, List.setIfInBounds_toArray, List.set_cons_zero, List.set_cons_succ]
    refine wpAnyH_take (i := 1) (oi := { dst := some 4, op := Op.load 62 (Operand.tmp 1), type := 62, pos := "entry.go:42", after := #[], guard := none }) (v := x.v) rfl (by kernel_rfl) (by kernel_rfl) (by kernel_rfl) (fun _ _ _ h => h) (yieldsIf_load_mid (by rfl) _ _ rfl _ _ rfl _ _ (fun w hSw => hSw.range) underE rfl (by rw [sizeE]; rfl)) (by assumption) ?_
    simp only [Act.put, List.setIfInBounds_toArray, List.set_cons_zero, List.set_cons_succ]
    refine wpAnyH_ready (rs := [2]) (by kernel_rfl) (by simp) (AllReadyH.cons (o := { dst := some 5, op := Op.call { callee := Callee.value (Operand.func 105), args := #[Operand.tmp 4], argTypes := #[62] }, type := 62, pos := "entry.go:42", after := #[{ on := 1, ground := Ground.data }], guard := none }) rfl (fun KQ hK => ?_) AllReadyH.nil)
    go_simp
    refine (used_any _ x).mono ?_
    rintro e w1 ⟨rfl, hb1⟩
    have HC1 := hid (HC0.out.on hb1)
    have HB1 := hid (below_on HB0.out hb1)
    clear hb1
    go_wp2_with fail
    refine hK.out _ _ HC1.out (fun hHeld => ?_)
    clear hK KQ
    try simp only [Act.put, List.setIfInBounds_toArray, List.set_cons_zero, List.set_cons_succ]
    refine wpAnyH_take (i := 3) (oi := { dst := some 6, op := Op.binOp BinOp.neq 62 (Operand.tmp 3) (Operand.tmp 5) 62, type := 4, pos := "entry.go:42", after := #[{ on := 0, ground := Ground.data }, { on := 2, ground := Ground.data }], guard := none }) (v := .bool true) rfl (by kernel_rfl) (by kernel_rfl) (by kernel_rfl) (fun _ _ _ h => h) (Or.inl ⟨by rfl, fun w hSw => exec_neV 62 _ _ rfl _ _ rfl rfl guardE _ _ (eqE w 9996 x x.used) (by rw [e1]; rfl)⟩) (by assumption) ?_
    simp only [Act.put, List.setIfInBounds_toArray, List.set_cons_zero, List.set_cons_succ]
    refine wpAnyH_take (i := 4) (oi := { dst := some 7, op := Op.move (Operand.tmp 6), type := 4, pos := "entry.go:42", after := #[{ on := 3, ground := Ground.data }, { on := 2, ground := Ground.chain }], guard := none }) (v := .bool true) rfl (by kernel_rfl) (by kernel_rfl) (by kernel_rfl) (fun _ _ _ h => h) (Or.inl ⟨by rfl, by intro w hSw; go_simp⟩) (by assumption) ?_
    simp only [Act.put, List.setIfInBounds_toArray, List.set_cons_zero, List.set_cons_succ]
    refine wpAnyH_take (i := 5) (oi := { dst := some 8, op := Op.fieldAddr 62 (Operand.tmp 1) 1, type := 0, pos := "entry.go:42", after := #[{ on := 4, ground := Ground.guard }], guard := some (4, false) }) (v := undef) rfl (by kernel_rfl) (by kernel_rfl) (by kernel_rfl) (fun _ _ _ h => h) (Or.inr ⟨by rfl, rfl⟩) (by assumption) ?_
    simp only [Act.put, List.setIfInBounds_toArray, List.set_cons_zero, List.set_cons_succ]
    refine wpAnyH_take (i := 6) (oi := { dst := some 9, op := Op.load 3 (Operand.tmp 8), type := 3, pos := "entry.go:42", after := #[{ on := 5, ground := Ground.data }, { on := 4, ground := Ground.guard }], guard := some (4, false) }) (v := undef) rfl (by kernel_rfl) (by kernel_rfl) (by kernel_rfl) (fun _ _ _ h => h) (Or.inr ⟨by rfl, rfl⟩) (by assumption) ?_
    simp only [Act.put, List.setIfInBounds_toArray, List.set_cons_zero, List.set_cons_succ]
    refine wpAnyH_take (i := 7) (oi := { dst := some 10, op := Op.call { callee := Callee.value (Operand.func 106), args := #[Operand.tmp 9], argTypes := #[3] }, type := 4, pos := "entry.go:42", after := #[{ on := 6, ground := Ground.data }, { on := 4, ground := Ground.chain }, { on := 4, ground := Ground.guard }], guard := some (4, false) }) (v := undef) rfl (by kernel_rfl) (by kernel_rfl) (by kernel_rfl) (fun _ _ _ h => h) (Or.inr ⟨by rfl, rfl⟩) (by assumption) ?_
    simp only [Act.put, List.setIfInBounds_toArray, List.set_cons_zero, List.set_cons_succ]
    refine wpAnyH_take (i := 8) (oi := { dst := some 11, op := Op.unOp UnOp.not 4 (Operand.tmp 10), type := 4, pos := "entry.go:42", after := #[{ on := 7, ground := Ground.data }, { on := 4, ground := Ground.guard }], guard := some (4, false) }) (v := undef) rfl (by kernel_rfl) (by kernel_rfl) (by kernel_rfl) (fun _ _ _ h => h) (Or.inr ⟨by rfl, rfl⟩) (by assumption) ?_
    simp only [Act.put, List.setIfInBounds_toArray, List.set_cons_zero, List.set_cons_succ]
    refine wpAnyH_take (i := 9) (oi := { dst := some 12, op := Op.pick (Operand.tmp 7) (Operand.const (Value.bool true)) (Operand.tmp 11), type := 4, pos := "entry.go:42", after := #[{ on := 4, ground := Ground.data }, { on := 8, ground := Ground.data }], guard := none }) (v := .bool true) rfl (by kernel_rfl) (by kernel_rfl) (by kernel_rfl) (fun _ _ _ h => h) (Or.inl ⟨by rfl, by intro w hSw; go_simp⟩) (by assumption) ?_
    simp only [Act.put, List.setIfInBounds_toArray, List.set_cons_zero, List.set_cons_succ]
    refine wpAnyH_take (i := 10) (oi := { dst := some 13, op := Op.move (Operand.tmp 12), type := 4, pos := "entry.go:42", after := #[{ on := 9, ground := Ground.data }, { on := 7, ground := Ground.chain }], guard := none }) (v := .bool true) rfl (by kernel_rfl) (by kernel_rfl) (by kernel_rfl) (fun _ _ _ h => h) (Or.inl ⟨by rfl, by intro w hSw; go_simp⟩) (by assumption) ?_
    simp only [Act.put, List.setIfInBounds_toArray, List.set_cons_zero, List.set_cons_succ]
    refine wpAnyH_take (i := 11) (oi := { dst := some 14, op := Op.fieldAddr 62 (Operand.tmp 1) 2, type := 0, pos := "entry.go:42", after := #[{ on := 10, ground := Ground.guard }], guard := some (10, false) }) (v := undef) rfl (by kernel_rfl) (by kernel_rfl) (by kernel_rfl) (fun _ _ _ h => h) (Or.inr ⟨by rfl, rfl⟩) (by assumption) ?_
    simp only [Act.put, List.setIfInBounds_toArray, List.set_cons_zero, List.set_cons_succ]
    refine wpAnyH_take (i := 12) (oi := { dst := some 15, op := Op.load 3 (Operand.tmp 14), type := 3, pos := "entry.go:42", after := #[{ on := 11, ground := Ground.data }, { on := 10, ground := Ground.guard }], guard := some (10, false) }) (v := undef) rfl (by kernel_rfl) (by kernel_rfl) (by kernel_rfl) (fun _ _ _ h => h) (Or.inr ⟨by rfl, rfl⟩) (by assumption) ?_
    simp only [Act.put, List.setIfInBounds_toArray, List.set_cons_zero, List.set_cons_succ]
    refine wpAnyH_take (i := 13) (oi := { dst := some 16, op := Op.call { callee := Callee.value (Operand.func 106), args := #[Operand.tmp 15], argTypes := #[3] }, type := 4, pos := "entry.go:42", after := #[{ on := 12, ground := Ground.data }, { on := 10, ground := Ground.chain }, { on := 10, ground := Ground.guard }], guard := some (10, false) }) (v := undef) rfl (by kernel_rfl) (by kernel_rfl) (by kernel_rfl) (fun _ _ _ h => h) (Or.inr ⟨by rfl, rfl⟩) (by assumption) ?_
    simp only [Act.put, List.setIfInBounds_toArray, List.set_cons_zero, List.set_cons_succ]
    refine wpAnyH_take (i := 14) (oi := { dst := some 17, op := Op.unOp UnOp.not 4 (Operand.tmp 16), type := 4, pos := "entry.go:42", after := #[{ on := 13, ground := Ground.data }, { on := 10, ground := Ground.guard }], guard := some (10, false) }) (v := undef) rfl (by kernel_rfl) (by kernel_rfl) (by kernel_rfl) (fun _ _ _ h => h) (Or.inr ⟨by rfl, rfl⟩) (by assumption) ?_
    simp only [Act.put, List.setIfInBounds_toArray, List.set_cons_zero, List.set_cons_succ]
    refine wpAnyH_take (i := 15) (oi := { dst := some 18, op := Op.pick (Operand.tmp 13) (Operand.const (Value.bool true)) (Operand.tmp 17), type := 4, pos := "entry.go:42", after := #[{ on := 10, ground := Ground.data }, { on := 14, ground := Ground.data }], guard := none }) (v := .bool true) rfl (by kernel_rfl) (by kernel_rfl) (by kernel_rfl) (fun _ _ _ h => h) (Or.inl ⟨by rfl, by intro w hSw; go_simp⟩) (by assumption) ?_
    simp only [Act.put, List.setIfInBounds_toArray, List.set_cons_zero, List.set_cons_succ]
    refine wpAnyH_take (i := 16) (oi := { dst := some 19, op := Op.move (Operand.tmp 18), type := 4, pos := "entry.go:42", after := #[{ on := 15, ground := Ground.data }, { on := 13, ground := Ground.chain }], guard := none }) (v := .bool true) rfl (by kernel_rfl) (by kernel_rfl) (by kernel_rfl) (fun _ _ _ h => h) (Or.inl ⟨by rfl, by intro w hSw; go_simp⟩) (by assumption) ?_
    simp only [Act.put, List.setIfInBounds_toArray, List.set_cons_zero, List.set_cons_succ]
    refine wpAnyH_take (i := 17) (oi := { dst := some 20, op := Op.fieldAddr 62 (Operand.tmp 1) 3, type := 0, pos := "entry.go:42", after := #[{ on := 16, ground := Ground.guard }], guard := some (16, false) }) (v := undef) rfl (by kernel_rfl) (by kernel_rfl) (by kernel_rfl) (fun _ _ _ h => h) (Or.inr ⟨by rfl, rfl⟩) (by assumption) ?_
    simp only [Act.put, List.setIfInBounds_toArray, List.set_cons_zero, List.set_cons_succ]
    refine wpAnyH_take (i := 18) (oi := { dst := some 21, op := Op.load 60 (Operand.tmp 20), type := 60, pos := "entry.go:42", after := #[{ on := 17, ground := Ground.data }, { on := 16, ground := Ground.guard }], guard := some (16, false) }) (v := undef) rfl (by kernel_rfl) (by kernel_rfl) (by kernel_rfl) (fun _ _ _ h => h) (Or.inr ⟨by rfl, rfl⟩) (by assumption) ?_
    simp only [Act.put, List.setIfInBounds_toArray, List.set_cons_zero, List.set_cons_succ]
    refine wpAnyH_take (i := 19) (oi := { dst := some 22, op := Op.fieldAddr 62 (Operand.tmp 1) 0, type := 0, pos := "entry.go:42", after := #[{ on := 16, ground := Ground.guard }], guard := some (16, false) }) (v := undef) rfl (by kernel_rfl) (by kernel_rfl) (by kernel_rfl) (fun _ _ _ h => h) (Or.inr ⟨by rfl, rfl⟩) (by assumption) ?_
    simp only [Act.put, List.setIfInBounds_toArray, List.set_cons_zero, List.set_cons_succ]
    refine wpAnyH_take (i := 20) (oi := { dst := some 23, op := Op.load 44 (Operand.tmp 22), type := 44, pos := "entry.go:42", after := #[{ on := 19, ground := Ground.data }, { on := 16, ground := Ground.guard }], guard := some (16, false) }) (v := undef) rfl (by kernel_rfl) (by kernel_rfl) (by kernel_rfl) (fun _ _ _ h => h) (Or.inr ⟨by rfl, rfl⟩) (by assumption) ?_
    simp only [Act.put, List.setIfInBounds_toArray, List.set_cons_zero, List.set_cons_succ]
    refine wpAnyH_take (i := 21) (oi := { dst := some 24, op := Op.call { callee := Callee.value (Operand.func 107), args := #[Operand.tmp 21, Operand.tmp 23], argTypes := #[60, 44] }, type := 4, pos := "entry.go:42", after := #[{ on := 18, ground := Ground.data }, { on := 20, ground := Ground.data }, { on := 16, ground := Ground.chain }, { on := 16, ground := Ground.guard }], guard := some (16, false) }) (v := undef) rfl (by kernel_rfl) (by kernel_rfl) (by kernel_rfl) (fun _ _ _ h => h) (Or.inr ⟨by rfl, rfl⟩) (by assumption) ?_
    simp only [Act.put, List.setIfInBounds_toArray, List.set_cons_zero, List.set_cons_succ]
    refine wpAnyH_take (i := 22) (oi := { dst := some 25, op := Op.unOp UnOp.not 4 (Operand.tmp 24), type := 4, pos := "entry.go:42", after := #[{ on := 21, ground := Ground.data }, { on := 16, ground := Ground.guard }], guard := some (16, false) }) (v := undef) rfl (by kernel_rfl) (by kernel_rfl) (by kernel_rfl) (fun _ _ _ h => h) (Or.inr ⟨by rfl, rfl⟩) (by assumption) ?_
    simp only [Act.put, List.setIfInBounds_toArray, List.set_cons_zero, List.set_cons_succ]
    refine wpAnyH_take (i := 23) (oi := { dst := some 26, op := Op.pick (Operand.tmp 19) (Operand.const (Value.bool true)) (Operand.tmp 25), type := 4, pos := "entry.go:42", after := #[{ on := 16, ground := Ground.data }, { on := 22, ground := Ground.data }], guard := none }) (v := .bool true) rfl (by kernel_rfl) (by kernel_rfl) (by kernel_rfl) (fun _ _ _ h => h) (Or.inl ⟨by rfl, by intro w hSw; go_simp⟩) (by assumption) ?_
    simp only [Act.put, List.setIfInBounds_toArray, List.set_cons_zero, List.set_cons_succ]
    refine wpAnyH_done (by kernel_rfl) ?_ _

    go_wp2_with fail
    go_ret
    exact ⟨by rw [hk]; rfl, HB1.out⟩
  rcases e2 : blw x.o with _ | _
  · have hk : chk x = 110 := by simp [chk, En.ok, e1, e2]
    refine wp_region_held_drew (S := fun w => Cel w g1 62 x.cs) (by kernel_rfl) HC0.out (fun hHeld => ?_)
    refine wpAnyH_take (i := 0) (oi := { dst := some 3, op := Op.load 62 (Operand.tmp 1), type := 62, pos := "entry.go:42", after := #[], guard := none }) (v := x.v) rfl (by kernel_rfl) (by kernel_rfl) (by kernel_rfl) (fun _ _ _ h => h) (yieldsIf_load_mid (by rfl) _ _ rfl _ _ rfl _ _ (fun w hSw => hSw.range) underE rfl (by rw [sizeE]; rfl)) (by assumption) ?_
    simp only [Act.put, List.setIfInBounds_toArray, List.set_cons_zero, List.set_cons_succ]
    refine wpAnyH_take (i := 1) (oi := { dst := some 4, op := Op.load 62 (Operand.tmp 1), type := 62, pos := "entry.go:42", after := #[], guard := none }) (v := x.v) rfl (by kernel_rfl) (by kernel_rfl) (by kernel_rfl) (fun _ _ _ h => h) (yieldsIf_load_mid (by rfl) _ _ rfl _ _ rfl _ _ (fun w hSw => hSw.range) underE rfl (by rw [sizeE]; rfl)) (by assumption) ?_
    simp only [Act.put, List.setIfInBounds_toArray, List.set_cons_zero, List.set_cons_succ]
    refine wpAnyH_ready (rs := [2]) (by kernel_rfl) (by simp) (AllReadyH.cons (o := { dst := some 5, op := Op.call { callee := Callee.value (Operand.func 105), args := #[Operand.tmp 4], argTypes := #[62] }, type := 62, pos := "entry.go:42", after := #[{ on := 1, ground := Ground.data }], guard := none }) rfl (fun KQ hK => ?_) AllReadyH.nil)
    go_simp
    refine (used_any _ x).mono ?_
    rintro e w1 ⟨rfl, hb1⟩
    have HC1 := hid (HC0.out.on hb1)
    have HB1 := hid (below_on HB0.out hb1)
    clear hb1
    go_wp2_with fail
    refine hK.out _ _ HC1.out (fun hHeld => ?_)
    clear hK KQ
    try simp only [Act.put, List.setIfInBounds_toArray, List.set_cons_zero, List.set_cons_succ]
    refine wpAnyH_take (i := 3) (oi := { dst := some 6, op := Op.binOp BinOp.neq 62 (Operand.tmp 3) (Operand.tmp 5) 62, type := 4, pos := "entry.go:42", after := #[{ on := 0, ground := Ground.data }, { on := 2, ground := Ground.data }], guard := none }) (v := .bool false) rfl (by kernel_rfl) (by kernel_rfl) (by kernel_rfl) (fun _ _ _ h => h) (Or.inl ⟨by rfl, fun w hSw => exec_neV 62 _ _ rfl _ _ rfl rfl guardE _ _ (eqE w 9996 x x.used) (by rw [e1]; rfl)⟩) (by assumption) ?_
    simp only [Act.put, List.setIfInBounds_toArray, List.set_cons_zero, List.set_cons_succ]
    refine wpAnyH_take (i := 4) (oi := { dst := some 7, op := Op.move (Operand.tmp 6), type := 4, pos := "entry.go:42", after := #[{ on := 3, ground := Ground.data }, { on := 2, ground := Ground.chain }], guard := none }) (v := .bool false) rfl (by kernel_rfl) (by kernel_rfl) (by kernel_rfl) (fun _ _ _ h => h) (Or.inl ⟨by rfl, by intro w hSw; go_simp⟩) (by assumption) ?_
    simp only [Act.put, List.setIfInBounds_toArray, List.set_cons_zero, List.set_cons_succ]
    refine wpAnyH_take (i := 5) (oi := { dst := some 8, op := Op.fieldAddr 62 (Operand.tmp 1) 1, type := 0, pos := "entry.go:42", after := #[{ on := 4, ground := Ground.guard }], guard := some (4, false) }) (v := .pointer (some ⟨g1, 1, none⟩)) rfl (by kernel_rfl) (by kernel_rfl) (by kernel_rfl) (fun _ _ _ h => h) (Or.inl ⟨by rfl, by intro w hSw; go_simp⟩) (by assumption) ?_
    simp only [Act.put, List.setIfInBounds_toArray, List.set_cons_zero, List.set_cons_succ]
    refine wpAnyH_take (i := 6) (oi := { dst := some 9, op := Op.load 3 (Operand.tmp 8), type := 3, pos := "entry.go:42", after := #[{ on := 5, ground := Ground.data }, { on := 4, ground := Ground.guard }], guard := some (4, false) }) (v := .int .i64 x.o) rfl (by kernel_rfl) (by kernel_rfl) (by kernel_rfl) (fun _ _ _ h => h) (Or.inl ⟨by rfl, by intro w hSw; have hq : w.cell? ⟨g1, 1, none⟩ = some (.int .i64 x.o) := Cel.cell hSw 1; go_simp⟩) (by assumption) ?_
    simp only [Act.put, List.setIfInBounds_toArray, List.set_cons_zero, List.set_cons_succ]
    refine wpAnyH_ready (rs := [7]) (by kernel_rfl) (by simp) (AllReadyH.cons (o := { dst := some 10, op := Op.call { callee := Callee.value (Operand.func 106), args := #[Operand.tmp 9], argTypes := #[3] }, type := 4, pos := "entry.go:42", after := #[{ on := 6, ground := Ground.data }, { on := 4, ground := Ground.chain }, { on := 4, ground := Ground.guard }], guard := some (4, false) }) rfl (fun KQ hK => ?_) AllReadyH.nil)
    go_simp
    refine (below_any _ x.o).mono ?_
    rintro e w2 ⟨rfl, rfl⟩
    rw [e2]
    go_wp2_with fail
    refine hK.out _ _ HC1.out (fun hHeld => ?_)
    clear hK KQ
    try simp only [Act.put, List.setIfInBounds_toArray, List.set_cons_zero, List.set_cons_succ]
    refine wpAnyH_take (i := 8) (oi := { dst := some 11, op := Op.unOp UnOp.not 4 (Operand.tmp 10), type := 4, pos := "entry.go:42", after := #[{ on := 7, ground := Ground.data }, { on := 4, ground := Ground.guard }], guard := some (4, false) }) (v := .bool true) rfl (by kernel_rfl) (by kernel_rfl) (by kernel_rfl) (fun _ _ _ h => h) (Or.inl ⟨by rfl, by intro w hSw; go_simp⟩) (by assumption) ?_
    simp only [Act.put, List.setIfInBounds_toArray, List.set_cons_zero, List.set_cons_succ]
    refine wpAnyH_take (i := 9) (oi := { dst := some 12, op := Op.pick (Operand.tmp 7) (Operand.const (Value.bool true)) (Operand.tmp 11), type := 4, pos := "entry.go:42", after := #[{ on := 4, ground := Ground.data }, { on := 8, ground := Ground.data }], guard := none }) (v := .bool true) rfl (by kernel_rfl) (by kernel_rfl) (by kernel_rfl) (fun _ _ _ h => h) (Or.inl ⟨by rfl, by intro w hSw; go_simp⟩) (by assumption) ?_
    simp only [Act.put, List.setIfInBounds_toArray, List.set_cons_zero, List.set_cons_succ]
    refine wpAnyH_take (i := 10) (oi := { dst := some 13, op := Op.move (Operand.tmp 12), type := 4, pos := "entry.go:42", after := #[{ on := 9, ground := Ground.data }, { on := 7, ground := Ground.chain }], guard := none }) (v := .bool true) rfl (by kernel_rfl) (by kernel_rfl) (by kernel_rfl) (fun _ _ _ h => h) (Or.inl ⟨by rfl, by intro w hSw; go_simp⟩) (by assumption) ?_
    simp only [Act.put, List.setIfInBounds_toArray, List.set_cons_zero, List.set_cons_succ]
    refine wpAnyH_take (i := 11) (oi := { dst := some 14, op := Op.fieldAddr 62 (Operand.tmp 1) 2, type := 0, pos := "entry.go:42", after := #[{ on := 10, ground := Ground.guard }], guard := some (10, false) }) (v := undef) rfl (by kernel_rfl) (by kernel_rfl) (by kernel_rfl) (fun _ _ _ h => h) (Or.inr ⟨by rfl, rfl⟩) (by assumption) ?_
    simp only [Act.put, List.setIfInBounds_toArray, List.set_cons_zero, List.set_cons_succ]
    refine wpAnyH_take (i := 12) (oi := { dst := some 15, op := Op.load 3 (Operand.tmp 14), type := 3, pos := "entry.go:42", after := #[{ on := 11, ground := Ground.data }, { on := 10, ground := Ground.guard }], guard := some (10, false) }) (v := undef) rfl (by kernel_rfl) (by kernel_rfl) (by kernel_rfl) (fun _ _ _ h => h) (Or.inr ⟨by rfl, rfl⟩) (by assumption) ?_
    simp only [Act.put, List.setIfInBounds_toArray, List.set_cons_zero, List.set_cons_succ]
    refine wpAnyH_take (i := 13) (oi := { dst := some 16, op := Op.call { callee := Callee.value (Operand.func 106), args := #[Operand.tmp 15], argTypes := #[3] }, type := 4, pos := "entry.go:42", after := #[{ on := 12, ground := Ground.data }, { on := 10, ground := Ground.chain }, { on := 10, ground := Ground.guard }], guard := some (10, false) }) (v := undef) rfl (by kernel_rfl) (by kernel_rfl) (by kernel_rfl) (fun _ _ _ h => h) (Or.inr ⟨by rfl, rfl⟩) (by assumption) ?_
    simp only [Act.put, List.setIfInBounds_toArray, List.set_cons_zero, List.set_cons_succ]
    refine wpAnyH_take (i := 14) (oi := { dst := some 17, op := Op.unOp UnOp.not 4 (Operand.tmp 16), type := 4, pos := "entry.go:42", after := #[{ on := 13, ground := Ground.data }, { on := 10, ground := Ground.guard }], guard := some (10, false) }) (v := undef) rfl (by kernel_rfl) (by kernel_rfl) (by kernel_rfl) (fun _ _ _ h => h) (Or.inr ⟨by rfl, rfl⟩) (by assumption) ?_
    simp only [Act.put, List.setIfInBounds_toArray, List.set_cons_zero, List.set_cons_succ]
    refine wpAnyH_take (i := 15) (oi := { dst := some 18, op := Op.pick (Operand.tmp 13) (Operand.const (Value.bool true)) (Operand.tmp 17), type := 4, pos := "entry.go:42", after := #[{ on := 10, ground := Ground.data }, { on := 14, ground := Ground.data }], guard := none }) (v := .bool true) rfl (by kernel_rfl) (by kernel_rfl) (by kernel_rfl) (fun _ _ _ h => h) (Or.inl ⟨by rfl, by intro w hSw; go_simp⟩) (by assumption) ?_
    simp only [Act.put, List.setIfInBounds_toArray, List.set_cons_zero, List.set_cons_succ]
    refine wpAnyH_take (i := 16) (oi := { dst := some 19, op := Op.move (Operand.tmp 18), type := 4, pos := "entry.go:42", after := #[{ on := 15, ground := Ground.data }, { on := 13, ground := Ground.chain }], guard := none }) (v := .bool true) rfl (by kernel_rfl) (by kernel_rfl) (by kernel_rfl) (fun _ _ _ h => h) (Or.inl ⟨by rfl, by intro w hSw; go_simp⟩) (by assumption) ?_
    simp only [Act.put, List.setIfInBounds_toArray, List.set_cons_zero, List.set_cons_succ]
    refine wpAnyH_take (i := 17) (oi := { dst := some 20, op := Op.fieldAddr 62 (Operand.tmp 1) 3, type := 0, pos := "entry.go:42", after := #[{ on := 16, ground := Ground.guard }], guard := some (16, false) }) (v := undef) rfl (by kernel_rfl) (by kernel_rfl) (by kernel_rfl) (fun _ _ _ h => h) (Or.inr ⟨by rfl, rfl⟩) (by assumption) ?_
    simp only [Act.put, List.setIfInBounds_toArray, List.set_cons_zero, List.set_cons_succ]
    refine wpAnyH_take (i := 18) (oi := { dst := some 21, op := Op.load 60 (Operand.tmp 20), type := 60, pos := "entry.go:42", after := #[{ on := 17, ground := Ground.data }, { on := 16, ground := Ground.guard }], guard := some (16, false) }) (v := undef) rfl (by kernel_rfl) (by kernel_rfl) (by kernel_rfl) (fun _ _ _ h => h) (Or.inr ⟨by rfl, rfl⟩) (by assumption) ?_
    simp only [Act.put, List.setIfInBounds_toArray, List.set_cons_zero, List.set_cons_succ]
    refine wpAnyH_take (i := 19) (oi := { dst := some 22, op := Op.fieldAddr 62 (Operand.tmp 1) 0, type := 0, pos := "entry.go:42", after := #[{ on := 16, ground := Ground.guard }], guard := some (16, false) }) (v := undef) rfl (by kernel_rfl) (by kernel_rfl) (by kernel_rfl) (fun _ _ _ h => h) (Or.inr ⟨by rfl, rfl⟩) (by assumption) ?_
    simp only [Act.put, List.setIfInBounds_toArray, List.set_cons_zero, List.set_cons_succ]
    refine wpAnyH_take (i := 20) (oi := { dst := some 23, op := Op.load 44 (Operand.tmp 22), type := 44, pos := "entry.go:42", after := #[{ on := 19, ground := Ground.data }, { on := 16, ground := Ground.guard }], guard := some (16, false) }) (v := undef) rfl (by kernel_rfl) (by kernel_rfl) (by kernel_rfl) (fun _ _ _ h => h) (Or.inr ⟨by rfl, rfl⟩) (by assumption) ?_
    simp only [Act.put, List.setIfInBounds_toArray, List.set_cons_zero, List.set_cons_succ]
    refine wpAnyH_take (i := 21) (oi := { dst := some 24, op := Op.call { callee := Callee.value (Operand.func 107), args := #[Operand.tmp 21, Operand.tmp 23], argTypes := #[60, 44] }, type := 4, pos := "entry.go:42", after := #[{ on := 18, ground := Ground.data }, { on := 20, ground := Ground.data }, { on := 16, ground := Ground.chain }, { on := 16, ground := Ground.guard }], guard := some (16, false) }) (v := undef) rfl (by kernel_rfl) (by kernel_rfl) (by kernel_rfl) (fun _ _ _ h => h) (Or.inr ⟨by rfl, rfl⟩) (by assumption) ?_
    simp only [Act.put, List.setIfInBounds_toArray, List.set_cons_zero, List.set_cons_succ]
    refine wpAnyH_take (i := 22) (oi := { dst := some 25, op := Op.unOp UnOp.not 4 (Operand.tmp 24), type := 4, pos := "entry.go:42", after := #[{ on := 21, ground := Ground.data }, { on := 16, ground := Ground.guard }], guard := some (16, false) }) (v := undef) rfl (by kernel_rfl) (by kernel_rfl) (by kernel_rfl) (fun _ _ _ h => h) (Or.inr ⟨by rfl, rfl⟩) (by assumption) ?_
    simp only [Act.put, List.setIfInBounds_toArray, List.set_cons_zero, List.set_cons_succ]
    refine wpAnyH_take (i := 23) (oi := { dst := some 26, op := Op.pick (Operand.tmp 19) (Operand.const (Value.bool true)) (Operand.tmp 25), type := 4, pos := "entry.go:42", after := #[{ on := 16, ground := Ground.data }, { on := 22, ground := Ground.data }], guard := none }) (v := .bool true) rfl (by kernel_rfl) (by kernel_rfl) (by kernel_rfl) (fun _ _ _ h => h) (Or.inl ⟨by rfl, by intro w hSw; go_simp⟩) (by assumption) ?_
    simp only [Act.put, List.setIfInBounds_toArray, List.set_cons_zero, List.set_cons_succ]
    refine wpAnyH_done (by kernel_rfl) ?_ _

    go_wp2_with fail
    go_ret
    exact ⟨by rw [hk]; rfl, HB1.out⟩
  rcases e3 : blw x.r with _ | _
  · have hk : chk x = 110 := by simp [chk, En.ok, e1, e2, e3]
    refine wp_region_held_drew (S := fun w => Cel w g1 62 x.cs) (by kernel_rfl) HC0.out (fun hHeld => ?_)
    refine wpAnyH_take (i := 0) (oi := { dst := some 3, op := Op.load 62 (Operand.tmp 1), type := 62, pos := "entry.go:42", after := #[], guard := none }) (v := x.v) rfl (by kernel_rfl) (by kernel_rfl) (by kernel_rfl) (fun _ _ _ h => h) (yieldsIf_load_mid (by rfl) _ _ rfl _ _ rfl _ _ (fun w hSw => hSw.range) underE rfl (by rw [sizeE]; rfl)) (by assumption) ?_
    simp only [Act.put, List.setIfInBounds_toArray, List.set_cons_zero, List.set_cons_succ]
    refine wpAnyH_take (i := 1) (oi := { dst := some 4, op := Op.load 62 (Operand.tmp 1), type := 62, pos := "entry.go:42", after := #[], guard := none }) (v := x.v) rfl (by kernel_rfl) (by kernel_rfl) (by kernel_rfl) (fun _ _ _ h => h) (yieldsIf_load_mid (by rfl) _ _ rfl _ _ rfl _ _ (fun w hSw => hSw.range) underE rfl (by rw [sizeE]; rfl)) (by assumption) ?_
    simp only [Act.put, List.setIfInBounds_toArray, List.set_cons_zero, List.set_cons_succ]
    refine wpAnyH_ready (rs := [2]) (by kernel_rfl) (by simp) (AllReadyH.cons (o := { dst := some 5, op := Op.call { callee := Callee.value (Operand.func 105), args := #[Operand.tmp 4], argTypes := #[62] }, type := 62, pos := "entry.go:42", after := #[{ on := 1, ground := Ground.data }], guard := none }) rfl (fun KQ hK => ?_) AllReadyH.nil)
    go_simp
    refine (used_any _ x).mono ?_
    rintro e w1 ⟨rfl, hb1⟩
    have HC1 := hid (HC0.out.on hb1)
    have HB1 := hid (below_on HB0.out hb1)
    clear hb1
    go_wp2_with fail
    refine hK.out _ _ HC1.out (fun hHeld => ?_)
    clear hK KQ
    try simp only [Act.put, List.setIfInBounds_toArray, List.set_cons_zero, List.set_cons_succ]
    refine wpAnyH_take (i := 3) (oi := { dst := some 6, op := Op.binOp BinOp.neq 62 (Operand.tmp 3) (Operand.tmp 5) 62, type := 4, pos := "entry.go:42", after := #[{ on := 0, ground := Ground.data }, { on := 2, ground := Ground.data }], guard := none }) (v := .bool false) rfl (by kernel_rfl) (by kernel_rfl) (by kernel_rfl) (fun _ _ _ h => h) (Or.inl ⟨by rfl, fun w hSw => exec_neV 62 _ _ rfl _ _ rfl rfl guardE _ _ (eqE w 9996 x x.used) (by rw [e1]; rfl)⟩) (by assumption) ?_
    simp only [Act.put, List.setIfInBounds_toArray, List.set_cons_zero, List.set_cons_succ]
    refine wpAnyH_take (i := 4) (oi := { dst := some 7, op := Op.move (Operand.tmp 6), type := 4, pos := "entry.go:42", after := #[{ on := 3, ground := Ground.data }, { on := 2, ground := Ground.chain }], guard := none }) (v := .bool false) rfl (by kernel_rfl) (by kernel_rfl) (by kernel_rfl) (fun _ _ _ h => h) (Or.inl ⟨by rfl, by intro w hSw; go_simp⟩) (by assumption) ?_
    simp only [Act.put, List.setIfInBounds_toArray, List.set_cons_zero, List.set_cons_succ]
    refine wpAnyH_take (i := 5) (oi := { dst := some 8, op := Op.fieldAddr 62 (Operand.tmp 1) 1, type := 0, pos := "entry.go:42", after := #[{ on := 4, ground := Ground.guard }], guard := some (4, false) }) (v := .pointer (some ⟨g1, 1, none⟩)) rfl (by kernel_rfl) (by kernel_rfl) (by kernel_rfl) (fun _ _ _ h => h) (Or.inl ⟨by rfl, by intro w hSw; go_simp⟩) (by assumption) ?_
    simp only [Act.put, List.setIfInBounds_toArray, List.set_cons_zero, List.set_cons_succ]
    refine wpAnyH_take (i := 6) (oi := { dst := some 9, op := Op.load 3 (Operand.tmp 8), type := 3, pos := "entry.go:42", after := #[{ on := 5, ground := Ground.data }, { on := 4, ground := Ground.guard }], guard := some (4, false) }) (v := .int .i64 x.o) rfl (by kernel_rfl) (by kernel_rfl) (by kernel_rfl) (fun _ _ _ h => h) (Or.inl ⟨by rfl, by intro w hSw; have hq : w.cell? ⟨g1, 1, none⟩ = some (.int .i64 x.o) := Cel.cell hSw 1; go_simp⟩) (by assumption) ?_
    simp only [Act.put, List.setIfInBounds_toArray, List.set_cons_zero, List.set_cons_succ]
    refine wpAnyH_ready (rs := [7]) (by kernel_rfl) (by simp) (AllReadyH.cons (o := { dst := some 10, op := Op.call { callee := Callee.value (Operand.func 106), args := #[Operand.tmp 9], argTypes := #[3] }, type := 4, pos := "entry.go:42", after := #[{ on := 6, ground := Ground.data }, { on := 4, ground := Ground.chain }, { on := 4, ground := Ground.guard }], guard := some (4, false) }) rfl (fun KQ hK => ?_) AllReadyH.nil)
    go_simp
    refine (below_any _ x.o).mono ?_
    rintro e w2 ⟨rfl, rfl⟩
    rw [e2]
    go_wp2_with fail
    refine hK.out _ _ HC1.out (fun hHeld => ?_)
    clear hK KQ
    try simp only [Act.put, List.setIfInBounds_toArray, List.set_cons_zero, List.set_cons_succ]
    refine wpAnyH_take (i := 8) (oi := { dst := some 11, op := Op.unOp UnOp.not 4 (Operand.tmp 10), type := 4, pos := "entry.go:42", after := #[{ on := 7, ground := Ground.data }, { on := 4, ground := Ground.guard }], guard := some (4, false) }) (v := .bool false) rfl (by kernel_rfl) (by kernel_rfl) (by kernel_rfl) (fun _ _ _ h => h) (Or.inl ⟨by rfl, by intro w hSw; go_simp⟩) (by assumption) ?_
    simp only [Act.put, List.setIfInBounds_toArray, List.set_cons_zero, List.set_cons_succ]
    refine wpAnyH_take (i := 9) (oi := { dst := some 12, op := Op.pick (Operand.tmp 7) (Operand.const (Value.bool true)) (Operand.tmp 11), type := 4, pos := "entry.go:42", after := #[{ on := 4, ground := Ground.data }, { on := 8, ground := Ground.data }], guard := none }) (v := .bool false) rfl (by kernel_rfl) (by kernel_rfl) (by kernel_rfl) (fun _ _ _ h => h) (Or.inl ⟨by rfl, by intro w hSw; go_simp⟩) (by assumption) ?_
    simp only [Act.put, List.setIfInBounds_toArray, List.set_cons_zero, List.set_cons_succ]
    refine wpAnyH_take (i := 10) (oi := { dst := some 13, op := Op.move (Operand.tmp 12), type := 4, pos := "entry.go:42", after := #[{ on := 9, ground := Ground.data }, { on := 7, ground := Ground.chain }], guard := none }) (v := .bool false) rfl (by kernel_rfl) (by kernel_rfl) (by kernel_rfl) (fun _ _ _ h => h) (Or.inl ⟨by rfl, by intro w hSw; go_simp⟩) (by assumption) ?_
    simp only [Act.put, List.setIfInBounds_toArray, List.set_cons_zero, List.set_cons_succ]
    refine wpAnyH_take (i := 11) (oi := { dst := some 14, op := Op.fieldAddr 62 (Operand.tmp 1) 2, type := 0, pos := "entry.go:42", after := #[{ on := 10, ground := Ground.guard }], guard := some (10, false) }) (v := .pointer (some ⟨g1, 2, none⟩)) rfl (by kernel_rfl) (by kernel_rfl) (by kernel_rfl) (fun _ _ _ h => h) (Or.inl ⟨by rfl, by intro w hSw; go_simp⟩) (by assumption) ?_
    simp only [Act.put, List.setIfInBounds_toArray, List.set_cons_zero, List.set_cons_succ]
    refine wpAnyH_take (i := 12) (oi := { dst := some 15, op := Op.load 3 (Operand.tmp 14), type := 3, pos := "entry.go:42", after := #[{ on := 11, ground := Ground.data }, { on := 10, ground := Ground.guard }], guard := some (10, false) }) (v := .int .i64 x.r) rfl (by kernel_rfl) (by kernel_rfl) (by kernel_rfl) (fun _ _ _ h => h) (Or.inl ⟨by rfl, by intro w hSw; have hq : w.cell? ⟨g1, 2, none⟩ = some (.int .i64 x.r) := Cel.cell hSw 2; go_simp⟩) (by assumption) ?_
    simp only [Act.put, List.setIfInBounds_toArray, List.set_cons_zero, List.set_cons_succ]
    refine wpAnyH_ready (rs := [13]) (by kernel_rfl) (by simp) (AllReadyH.cons (o := { dst := some 16, op := Op.call { callee := Callee.value (Operand.func 106), args := #[Operand.tmp 15], argTypes := #[3] }, type := 4, pos := "entry.go:42", after := #[{ on := 12, ground := Ground.data }, { on := 10, ground := Ground.chain }, { on := 10, ground := Ground.guard }], guard := some (10, false) }) rfl (fun KQ hK => ?_) AllReadyH.nil)
    go_simp
    refine (below_any _ x.r).mono ?_
    rintro e w3 ⟨rfl, rfl⟩
    rw [e3]
    go_wp2_with fail
    refine hK.out _ _ HC1.out (fun hHeld => ?_)
    clear hK KQ
    try simp only [Act.put, List.setIfInBounds_toArray, List.set_cons_zero, List.set_cons_succ]
    refine wpAnyH_take (i := 14) (oi := { dst := some 17, op := Op.unOp UnOp.not 4 (Operand.tmp 16), type := 4, pos := "entry.go:42", after := #[{ on := 13, ground := Ground.data }, { on := 10, ground := Ground.guard }], guard := some (10, false) }) (v := .bool true) rfl (by kernel_rfl) (by kernel_rfl) (by kernel_rfl) (fun _ _ _ h => h) (Or.inl ⟨by rfl, by intro w hSw; go_simp⟩) (by assumption) ?_
    simp only [Act.put, List.setIfInBounds_toArray, List.set_cons_zero, List.set_cons_succ]
    refine wpAnyH_take (i := 15) (oi := { dst := some 18, op := Op.pick (Operand.tmp 13) (Operand.const (Value.bool true)) (Operand.tmp 17), type := 4, pos := "entry.go:42", after := #[{ on := 10, ground := Ground.data }, { on := 14, ground := Ground.data }], guard := none }) (v := .bool true) rfl (by kernel_rfl) (by kernel_rfl) (by kernel_rfl) (fun _ _ _ h => h) (Or.inl ⟨by rfl, by intro w hSw; go_simp⟩) (by assumption) ?_
    simp only [Act.put, List.setIfInBounds_toArray, List.set_cons_zero, List.set_cons_succ]
    refine wpAnyH_take (i := 16) (oi := { dst := some 19, op := Op.move (Operand.tmp 18), type := 4, pos := "entry.go:42", after := #[{ on := 15, ground := Ground.data }, { on := 13, ground := Ground.chain }], guard := none }) (v := .bool true) rfl (by kernel_rfl) (by kernel_rfl) (by kernel_rfl) (fun _ _ _ h => h) (Or.inl ⟨by rfl, by intro w hSw; go_simp⟩) (by assumption) ?_
    simp only [Act.put, List.setIfInBounds_toArray, List.set_cons_zero, List.set_cons_succ]
    refine wpAnyH_take (i := 17) (oi := { dst := some 20, op := Op.fieldAddr 62 (Operand.tmp 1) 3, type := 0, pos := "entry.go:42", after := #[{ on := 16, ground := Ground.guard }], guard := some (16, false) }) (v := undef) rfl (by kernel_rfl) (by kernel_rfl) (by kernel_rfl) (fun _ _ _ h => h) (Or.inr ⟨by rfl, rfl⟩) (by assumption) ?_
    simp only [Act.put, List.setIfInBounds_toArray, List.set_cons_zero, List.set_cons_succ]
    refine wpAnyH_take (i := 18) (oi := { dst := some 21, op := Op.load 60 (Operand.tmp 20), type := 60, pos := "entry.go:42", after := #[{ on := 17, ground := Ground.data }, { on := 16, ground := Ground.guard }], guard := some (16, false) }) (v := undef) rfl (by kernel_rfl) (by kernel_rfl) (by kernel_rfl) (fun _ _ _ h => h) (Or.inr ⟨by rfl, rfl⟩) (by assumption) ?_
    simp only [Act.put, List.setIfInBounds_toArray, List.set_cons_zero, List.set_cons_succ]
    refine wpAnyH_take (i := 19) (oi := { dst := some 22, op := Op.fieldAddr 62 (Operand.tmp 1) 0, type := 0, pos := "entry.go:42", after := #[{ on := 16, ground := Ground.guard }], guard := some (16, false) }) (v := undef) rfl (by kernel_rfl) (by kernel_rfl) (by kernel_rfl) (fun _ _ _ h => h) (Or.inr ⟨by rfl, rfl⟩) (by assumption) ?_
    simp only [Act.put, List.setIfInBounds_toArray, List.set_cons_zero, List.set_cons_succ]
    refine wpAnyH_take (i := 20) (oi := { dst := some 23, op := Op.load 44 (Operand.tmp 22), type := 44, pos := "entry.go:42", after := #[{ on := 19, ground := Ground.data }, { on := 16, ground := Ground.guard }], guard := some (16, false) }) (v := undef) rfl (by kernel_rfl) (by kernel_rfl) (by kernel_rfl) (fun _ _ _ h => h) (Or.inr ⟨by rfl, rfl⟩) (by assumption) ?_
    simp only [Act.put, List.setIfInBounds_toArray, List.set_cons_zero, List.set_cons_succ]
    refine wpAnyH_take (i := 21) (oi := { dst := some 24, op := Op.call { callee := Callee.value (Operand.func 107), args := #[Operand.tmp 21, Operand.tmp 23], argTypes := #[60, 44] }, type := 4, pos := "entry.go:42", after := #[{ on := 18, ground := Ground.data }, { on := 20, ground := Ground.data }, { on := 16, ground := Ground.chain }, { on := 16, ground := Ground.guard }], guard := some (16, false) }) (v := undef) rfl (by kernel_rfl) (by kernel_rfl) (by kernel_rfl) (fun _ _ _ h => h) (Or.inr ⟨by rfl, rfl⟩) (by assumption) ?_
    simp only [Act.put, List.setIfInBounds_toArray, List.set_cons_zero, List.set_cons_succ]
    refine wpAnyH_take (i := 22) (oi := { dst := some 25, op := Op.unOp UnOp.not 4 (Operand.tmp 24), type := 4, pos := "entry.go:42", after := #[{ on := 21, ground := Ground.data }, { on := 16, ground := Ground.guard }], guard := some (16, false) }) (v := undef) rfl (by kernel_rfl) (by kernel_rfl) (by kernel_rfl) (fun _ _ _ h => h) (Or.inr ⟨by rfl, rfl⟩) (by assumption) ?_
    simp only [Act.put, List.setIfInBounds_toArray, List.set_cons_zero, List.set_cons_succ]
    refine wpAnyH_take (i := 23) (oi := { dst := some 26, op := Op.pick (Operand.tmp 19) (Operand.const (Value.bool true)) (Operand.tmp 25), type := 4, pos := "entry.go:42", after := #[{ on := 16, ground := Ground.data }, { on := 22, ground := Ground.data }], guard := none }) (v := .bool true) rfl (by kernel_rfl) (by kernel_rfl) (by kernel_rfl) (fun _ _ _ h => h) (Or.inl ⟨by rfl, by intro w hSw; go_simp⟩) (by assumption) ?_
    simp only [Act.put, List.setIfInBounds_toArray, List.set_cons_zero, List.set_cons_succ]
    refine wpAnyH_done (by kernel_rfl) ?_ _

    go_wp2_with fail
    go_ret
    exact ⟨by rw [hk]; rfl, HB1.out⟩
  rcases e4 : fit x.s x.t with _ | _
  · have hk : chk x = 110 := by simp [chk, En.ok, e1, e2, e3, e4]
    refine wp_region_held_drew (S := fun w => Cel w g1 62 x.cs) (by kernel_rfl) HC0.out (fun hHeld => ?_)
    refine wpAnyH_take (i := 0) (oi := { dst := some 3, op := Op.load 62 (Operand.tmp 1), type := 62, pos := "entry.go:42", after := #[], guard := none }) (v := x.v) rfl (by kernel_rfl) (by kernel_rfl) (by kernel_rfl) (fun _ _ _ h => h) (yieldsIf_load_mid (by rfl) _ _ rfl _ _ rfl _ _ (fun w hSw => hSw.range) underE rfl (by rw [sizeE]; rfl)) (by assumption) ?_
    simp only [Act.put, List.setIfInBounds_toArray, List.set_cons_zero, List.set_cons_succ]
    refine wpAnyH_take (i := 1) (oi := { dst := some 4, op := Op.load 62 (Operand.tmp 1), type := 62, pos := "entry.go:42", after := #[], guard := none }) (v := x.v) rfl (by kernel_rfl) (by kernel_rfl) (by kernel_rfl) (fun _ _ _ h => h) (yieldsIf_load_mid (by rfl) _ _ rfl _ _ rfl _ _ (fun w hSw => hSw.range) underE rfl (by rw [sizeE]; rfl)) (by assumption) ?_
    simp only [Act.put, List.setIfInBounds_toArray, List.set_cons_zero, List.set_cons_succ]
    refine wpAnyH_ready (rs := [2]) (by kernel_rfl) (by simp) (AllReadyH.cons (o := { dst := some 5, op := Op.call { callee := Callee.value (Operand.func 105), args := #[Operand.tmp 4], argTypes := #[62] }, type := 62, pos := "entry.go:42", after := #[{ on := 1, ground := Ground.data }], guard := none }) rfl (fun KQ hK => ?_) AllReadyH.nil)
    go_simp
    refine (used_any _ x).mono ?_
    rintro e w1 ⟨rfl, hb1⟩
    have HC1 := hid (HC0.out.on hb1)
    have HB1 := hid (below_on HB0.out hb1)
    clear hb1
    go_wp2_with fail
    refine hK.out _ _ HC1.out (fun hHeld => ?_)
    clear hK KQ
    try simp only [Act.put, List.setIfInBounds_toArray, List.set_cons_zero, List.set_cons_succ]
    refine wpAnyH_take (i := 3) (oi := { dst := some 6, op := Op.binOp BinOp.neq 62 (Operand.tmp 3) (Operand.tmp 5) 62, type := 4, pos := "entry.go:42", after := #[{ on := 0, ground := Ground.data }, { on := 2, ground := Ground.data }], guard := none }) (v := .bool false) rfl (by kernel_rfl) (by kernel_rfl) (by kernel_rfl) (fun _ _ _ h => h) (Or.inl ⟨by rfl, fun w hSw => exec_neV 62 _ _ rfl _ _ rfl rfl guardE _ _ (eqE w 9996 x x.used) (by rw [e1]; rfl)⟩) (by assumption) ?_
    simp only [Act.put, List.setIfInBounds_toArray, List.set_cons_zero, List.set_cons_succ]
    refine wpAnyH_take (i := 4) (oi := { dst := some 7, op := Op.move (Operand.tmp 6), type := 4, pos := "entry.go:42", after := #[{ on := 3, ground := Ground.data }, { on := 2, ground := Ground.chain }], guard := none }) (v := .bool false) rfl (by kernel_rfl) (by kernel_rfl) (by kernel_rfl) (fun _ _ _ h => h) (Or.inl ⟨by rfl, by intro w hSw; go_simp⟩) (by assumption) ?_
    simp only [Act.put, List.setIfInBounds_toArray, List.set_cons_zero, List.set_cons_succ]
    refine wpAnyH_take (i := 5) (oi := { dst := some 8, op := Op.fieldAddr 62 (Operand.tmp 1) 1, type := 0, pos := "entry.go:42", after := #[{ on := 4, ground := Ground.guard }], guard := some (4, false) }) (v := .pointer (some ⟨g1, 1, none⟩)) rfl (by kernel_rfl) (by kernel_rfl) (by kernel_rfl) (fun _ _ _ h => h) (Or.inl ⟨by rfl, by intro w hSw; go_simp⟩) (by assumption) ?_
    simp only [Act.put, List.setIfInBounds_toArray, List.set_cons_zero, List.set_cons_succ]
    refine wpAnyH_take (i := 6) (oi := { dst := some 9, op := Op.load 3 (Operand.tmp 8), type := 3, pos := "entry.go:42", after := #[{ on := 5, ground := Ground.data }, { on := 4, ground := Ground.guard }], guard := some (4, false) }) (v := .int .i64 x.o) rfl (by kernel_rfl) (by kernel_rfl) (by kernel_rfl) (fun _ _ _ h => h) (Or.inl ⟨by rfl, by intro w hSw; have hq : w.cell? ⟨g1, 1, none⟩ = some (.int .i64 x.o) := Cel.cell hSw 1; go_simp⟩) (by assumption) ?_
    simp only [Act.put, List.setIfInBounds_toArray, List.set_cons_zero, List.set_cons_succ]
    refine wpAnyH_ready (rs := [7]) (by kernel_rfl) (by simp) (AllReadyH.cons (o := { dst := some 10, op := Op.call { callee := Callee.value (Operand.func 106), args := #[Operand.tmp 9], argTypes := #[3] }, type := 4, pos := "entry.go:42", after := #[{ on := 6, ground := Ground.data }, { on := 4, ground := Ground.chain }, { on := 4, ground := Ground.guard }], guard := some (4, false) }) rfl (fun KQ hK => ?_) AllReadyH.nil)
    go_simp
    refine (below_any _ x.o).mono ?_
    rintro e w2 ⟨rfl, rfl⟩
    rw [e2]
    go_wp2_with fail
    refine hK.out _ _ HC1.out (fun hHeld => ?_)
    clear hK KQ
    try simp only [Act.put, List.setIfInBounds_toArray, List.set_cons_zero, List.set_cons_succ]
    refine wpAnyH_take (i := 8) (oi := { dst := some 11, op := Op.unOp UnOp.not 4 (Operand.tmp 10), type := 4, pos := "entry.go:42", after := #[{ on := 7, ground := Ground.data }, { on := 4, ground := Ground.guard }], guard := some (4, false) }) (v := .bool false) rfl (by kernel_rfl) (by kernel_rfl) (by kernel_rfl) (fun _ _ _ h => h) (Or.inl ⟨by rfl, by intro w hSw; go_simp⟩) (by assumption) ?_
    simp only [Act.put, List.setIfInBounds_toArray, List.set_cons_zero, List.set_cons_succ]
    refine wpAnyH_take (i := 9) (oi := { dst := some 12, op := Op.pick (Operand.tmp 7) (Operand.const (Value.bool true)) (Operand.tmp 11), type := 4, pos := "entry.go:42", after := #[{ on := 4, ground := Ground.data }, { on := 8, ground := Ground.data }], guard := none }) (v := .bool false) rfl (by kernel_rfl) (by kernel_rfl) (by kernel_rfl) (fun _ _ _ h => h) (Or.inl ⟨by rfl, by intro w hSw; go_simp⟩) (by assumption) ?_
    simp only [Act.put, List.setIfInBounds_toArray, List.set_cons_zero, List.set_cons_succ]
    refine wpAnyH_take (i := 10) (oi := { dst := some 13, op := Op.move (Operand.tmp 12), type := 4, pos := "entry.go:42", after := #[{ on := 9, ground := Ground.data }, { on := 7, ground := Ground.chain }], guard := none }) (v := .bool false) rfl (by kernel_rfl) (by kernel_rfl) (by kernel_rfl) (fun _ _ _ h => h) (Or.inl ⟨by rfl, by intro w hSw; go_simp⟩) (by assumption) ?_
    simp only [Act.put, List.setIfInBounds_toArray, List.set_cons_zero, List.set_cons_succ]
    refine wpAnyH_take (i := 11) (oi := { dst := some 14, op := Op.fieldAddr 62 (Operand.tmp 1) 2, type := 0, pos := "entry.go:42", after := #[{ on := 10, ground := Ground.guard }], guard := some (10, false) }) (v := .pointer (some ⟨g1, 2, none⟩)) rfl (by kernel_rfl) (by kernel_rfl) (by kernel_rfl) (fun _ _ _ h => h) (Or.inl ⟨by rfl, by intro w hSw; go_simp⟩) (by assumption) ?_
    simp only [Act.put, List.setIfInBounds_toArray, List.set_cons_zero, List.set_cons_succ]
    refine wpAnyH_take (i := 12) (oi := { dst := some 15, op := Op.load 3 (Operand.tmp 14), type := 3, pos := "entry.go:42", after := #[{ on := 11, ground := Ground.data }, { on := 10, ground := Ground.guard }], guard := some (10, false) }) (v := .int .i64 x.r) rfl (by kernel_rfl) (by kernel_rfl) (by kernel_rfl) (fun _ _ _ h => h) (Or.inl ⟨by rfl, by intro w hSw; have hq : w.cell? ⟨g1, 2, none⟩ = some (.int .i64 x.r) := Cel.cell hSw 2; go_simp⟩) (by assumption) ?_
    simp only [Act.put, List.setIfInBounds_toArray, List.set_cons_zero, List.set_cons_succ]
    refine wpAnyH_ready (rs := [13]) (by kernel_rfl) (by simp) (AllReadyH.cons (o := { dst := some 16, op := Op.call { callee := Callee.value (Operand.func 106), args := #[Operand.tmp 15], argTypes := #[3] }, type := 4, pos := "entry.go:42", after := #[{ on := 12, ground := Ground.data }, { on := 10, ground := Ground.chain }, { on := 10, ground := Ground.guard }], guard := some (10, false) }) rfl (fun KQ hK => ?_) AllReadyH.nil)
    go_simp
    refine (below_any _ x.r).mono ?_
    rintro e w3 ⟨rfl, rfl⟩
    rw [e3]
    go_wp2_with fail
    refine hK.out _ _ HC1.out (fun hHeld => ?_)
    clear hK KQ
    try simp only [Act.put, List.setIfInBounds_toArray, List.set_cons_zero, List.set_cons_succ]
    refine wpAnyH_take (i := 14) (oi := { dst := some 17, op := Op.unOp UnOp.not 4 (Operand.tmp 16), type := 4, pos := "entry.go:42", after := #[{ on := 13, ground := Ground.data }, { on := 10, ground := Ground.guard }], guard := some (10, false) }) (v := .bool false) rfl (by kernel_rfl) (by kernel_rfl) (by kernel_rfl) (fun _ _ _ h => h) (Or.inl ⟨by rfl, by intro w hSw; go_simp⟩) (by assumption) ?_
    simp only [Act.put, List.setIfInBounds_toArray, List.set_cons_zero, List.set_cons_succ]
    refine wpAnyH_take (i := 15) (oi := { dst := some 18, op := Op.pick (Operand.tmp 13) (Operand.const (Value.bool true)) (Operand.tmp 17), type := 4, pos := "entry.go:42", after := #[{ on := 10, ground := Ground.data }, { on := 14, ground := Ground.data }], guard := none }) (v := .bool false) rfl (by kernel_rfl) (by kernel_rfl) (by kernel_rfl) (fun _ _ _ h => h) (Or.inl ⟨by rfl, by intro w hSw; go_simp⟩) (by assumption) ?_
    simp only [Act.put, List.setIfInBounds_toArray, List.set_cons_zero, List.set_cons_succ]
    refine wpAnyH_take (i := 16) (oi := { dst := some 19, op := Op.move (Operand.tmp 18), type := 4, pos := "entry.go:42", after := #[{ on := 15, ground := Ground.data }, { on := 13, ground := Ground.chain }], guard := none }) (v := .bool false) rfl (by kernel_rfl) (by kernel_rfl) (by kernel_rfl) (fun _ _ _ h => h) (Or.inl ⟨by rfl, by intro w hSw; go_simp⟩) (by assumption) ?_
    simp only [Act.put, List.setIfInBounds_toArray, List.set_cons_zero, List.set_cons_succ]
    refine wpAnyH_take (i := 17) (oi := { dst := some 20, op := Op.fieldAddr 62 (Operand.tmp 1) 3, type := 0, pos := "entry.go:42", after := #[{ on := 16, ground := Ground.guard }], guard := some (16, false) }) (v := .pointer (some ⟨g1, 3, none⟩)) rfl (by kernel_rfl) (by kernel_rfl) (by kernel_rfl) (fun _ _ _ h => h) (Or.inl ⟨by rfl, by intro w hSw; go_simp⟩) (by assumption) ?_
    simp only [Act.put, List.setIfInBounds_toArray, List.set_cons_zero, List.set_cons_succ]
    refine wpAnyH_take (i := 18) (oi := { dst := some 21, op := Op.load 60 (Operand.tmp 20), type := 60, pos := "entry.go:42", after := #[{ on := 17, ground := Ground.data }, { on := 16, ground := Ground.guard }], guard := some (16, false) }) (v := .int .i64 x.s) rfl (by kernel_rfl) (by kernel_rfl) (by kernel_rfl) (fun _ _ _ h => h) (Or.inl ⟨by rfl, by intro w hSw; have hq : w.cell? ⟨g1, 3, none⟩ = some (.int .i64 x.s) := Cel.cell hSw 3; go_simp⟩) (by assumption) ?_
    simp only [Act.put, List.setIfInBounds_toArray, List.set_cons_zero, List.set_cons_succ]
    refine wpAnyH_take (i := 19) (oi := { dst := some 22, op := Op.fieldAddr 62 (Operand.tmp 1) 0, type := 0, pos := "entry.go:42", after := #[{ on := 16, ground := Ground.guard }], guard := some (16, false) }) (v := .pointer (some ⟨g1, 0, none⟩)) rfl (by kernel_rfl) (by kernel_rfl) (by kernel_rfl) (fun _ _ _ h => h) (Or.inl ⟨by rfl, by intro w hSw; go_simp⟩) (by assumption) ?_
    simp only [Act.put, List.setIfInBounds_toArray, List.set_cons_zero, List.set_cons_succ]
    refine wpAnyH_take (i := 20) (oi := { dst := some 23, op := Op.load 44 (Operand.tmp 22), type := 44, pos := "entry.go:42", after := #[{ on := 19, ground := Ground.data }, { on := 16, ground := Ground.guard }], guard := some (16, false) }) (v := .int .i64 x.t) rfl (by kernel_rfl) (by kernel_rfl) (by kernel_rfl) (fun _ _ _ h => h) (Or.inl ⟨by rfl, by intro w hSw; have hq : w.cell? ⟨g1, 0, none⟩ = some (.int .i64 x.t) := Cel.cell hSw 0; go_simp⟩) (by assumption) ?_
    simp only [Act.put, List.setIfInBounds_toArray, List.set_cons_zero, List.set_cons_succ]
    refine wpAnyH_ready (rs := [21]) (by kernel_rfl) (by simp) (AllReadyH.cons (o := { dst := some 24, op := Op.call { callee := Callee.value (Operand.func 107), args := #[Operand.tmp 21, Operand.tmp 23], argTypes := #[60, 44] }, type := 4, pos := "entry.go:42", after := #[{ on := 18, ground := Ground.data }, { on := 20, ground := Ground.data }, { on := 16, ground := Ground.chain }, { on := 16, ground := Ground.guard }], guard := some (16, false) }) rfl (fun KQ hK => ?_) AllReadyH.nil)
    go_simp
    refine (fits_any _ x.s x.t).mono ?_
    rintro e w4 ⟨rfl, rfl⟩
    rw [e4]
    go_wp2_with fail
    refine hK.out _ _ HC1.out (fun hHeld => ?_)
    clear hK KQ
    try simp only [Act.put, List.setIfInBounds_toArray, List.set_cons_zero, List.set_cons_succ]
    refine wpAnyH_take (i := 22) (oi := { dst := some 25, op := Op.unOp UnOp.not 4 (Operand.tmp 24), type := 4, pos := "entry.go:42", after := #[{ on := 21, ground := Ground.data }, { on := 16, ground := Ground.guard }], guard := some (16, false) }) (v := .bool true) rfl (by kernel_rfl) (by kernel_rfl) (by kernel_rfl) (fun _ _ _ h => h) (Or.inl ⟨by rfl, by intro w hSw; go_simp⟩) (by assumption) ?_
    simp only [Act.put, List.setIfInBounds_toArray, List.set_cons_zero, List.set_cons_succ]
    refine wpAnyH_take (i := 23) (oi := { dst := some 26, op := Op.pick (Operand.tmp 19) (Operand.const (Value.bool true)) (Operand.tmp 25), type := 4, pos := "entry.go:42", after := #[{ on := 16, ground := Ground.data }, { on := 22, ground := Ground.data }], guard := none }) (v := .bool true) rfl (by kernel_rfl) (by kernel_rfl) (by kernel_rfl) (fun _ _ _ h => h) (Or.inl ⟨by rfl, by intro w hSw; go_simp⟩) (by assumption) ?_
    simp only [Act.put, List.setIfInBounds_toArray, List.set_cons_zero, List.set_cons_succ]
    refine wpAnyH_done (by kernel_rfl) ?_ _

    go_wp2_with fail
    go_ret
    exact ⟨by rw [hk]; rfl, HB1.out⟩
  · have hk : chk x = 0 := by simp [chk, En.ok, e1, e2, e3, e4]
    refine wp_region_held_drew (S := fun w => Cel w g1 62 x.cs) (by kernel_rfl) HC0.out (fun hHeld => ?_)
    refine wpAnyH_take (i := 0) (oi := { dst := some 3, op := Op.load 62 (Operand.tmp 1), type := 62, pos := "entry.go:42", after := #[], guard := none }) (v := x.v) rfl (by kernel_rfl) (by kernel_rfl) (by kernel_rfl) (fun _ _ _ h => h) (yieldsIf_load_mid (by rfl) _ _ rfl _ _ rfl _ _ (fun w hSw => hSw.range) underE rfl (by rw [sizeE]; rfl)) (by assumption) ?_
    simp only [Act.put, List.setIfInBounds_toArray, List.set_cons_zero, List.set_cons_succ]
    refine wpAnyH_take (i := 1) (oi := { dst := some 4, op := Op.load 62 (Operand.tmp 1), type := 62, pos := "entry.go:42", after := #[], guard := none }) (v := x.v) rfl (by kernel_rfl) (by kernel_rfl) (by kernel_rfl) (fun _ _ _ h => h) (yieldsIf_load_mid (by rfl) _ _ rfl _ _ rfl _ _ (fun w hSw => hSw.range) underE rfl (by rw [sizeE]; rfl)) (by assumption) ?_
    simp only [Act.put, List.setIfInBounds_toArray, List.set_cons_zero, List.set_cons_succ]
    refine wpAnyH_ready (rs := [2]) (by kernel_rfl) (by simp) (AllReadyH.cons (o := { dst := some 5, op := Op.call { callee := Callee.value (Operand.func 105), args := #[Operand.tmp 4], argTypes := #[62] }, type := 62, pos := "entry.go:42", after := #[{ on := 1, ground := Ground.data }], guard := none }) rfl (fun KQ hK => ?_) AllReadyH.nil)
    go_simp
    refine (used_any _ x).mono ?_
    rintro e w1 ⟨rfl, hb1⟩
    have HC1 := hid (HC0.out.on hb1)
    have HB1 := hid (below_on HB0.out hb1)
    clear hb1
    go_wp2_with fail
    refine hK.out _ _ HC1.out (fun hHeld => ?_)
    clear hK KQ
    try simp only [Act.put, List.setIfInBounds_toArray, List.set_cons_zero, List.set_cons_succ]
    refine wpAnyH_take (i := 3) (oi := { dst := some 6, op := Op.binOp BinOp.neq 62 (Operand.tmp 3) (Operand.tmp 5) 62, type := 4, pos := "entry.go:42", after := #[{ on := 0, ground := Ground.data }, { on := 2, ground := Ground.data }], guard := none }) (v := .bool false) rfl (by kernel_rfl) (by kernel_rfl) (by kernel_rfl) (fun _ _ _ h => h) (Or.inl ⟨by rfl, fun w hSw => exec_neV 62 _ _ rfl _ _ rfl rfl guardE _ _ (eqE w 9996 x x.used) (by rw [e1]; rfl)⟩) (by assumption) ?_
    simp only [Act.put, List.setIfInBounds_toArray, List.set_cons_zero, List.set_cons_succ]
    refine wpAnyH_take (i := 4) (oi := { dst := some 7, op := Op.move (Operand.tmp 6), type := 4, pos := "entry.go:42", after := #[{ on := 3, ground := Ground.data }, { on := 2, ground := Ground.chain }], guard := none }) (v := .bool false) rfl (by kernel_rfl) (by kernel_rfl) (by kernel_rfl) (fun _ _ _ h => h) (Or.inl ⟨by rfl, by intro w hSw; go_simp⟩) (by assumption) ?_
    simp only [Act.put, List.setIfInBounds_toArray, List.set_cons_zero, List.set_cons_succ]
    refine wpAnyH_take (i := 5) (oi := { dst := some 8, op := Op.fieldAddr 62 (Operand.tmp 1) 1, type := 0, pos := "entry.go:42", after := #[{ on := 4, ground := Ground.guard }], guard := some (4, false) }) (v := .pointer (some ⟨g1, 1, none⟩)) rfl (by kernel_rfl) (by kernel_rfl) (by kernel_rfl) (fun _ _ _ h => h) (Or.inl ⟨by rfl, by intro w hSw; go_simp⟩) (by assumption) ?_
    simp only [Act.put, List.setIfInBounds_toArray, List.set_cons_zero, List.set_cons_succ]
    refine wpAnyH_take (i := 6) (oi := { dst := some 9, op := Op.load 3 (Operand.tmp 8), type := 3, pos := "entry.go:42", after := #[{ on := 5, ground := Ground.data }, { on := 4, ground := Ground.guard }], guard := some (4, false) }) (v := .int .i64 x.o) rfl (by kernel_rfl) (by kernel_rfl) (by kernel_rfl) (fun _ _ _ h => h) (Or.inl ⟨by rfl, by intro w hSw; have hq : w.cell? ⟨g1, 1, none⟩ = some (.int .i64 x.o) := Cel.cell hSw 1; go_simp⟩) (by assumption) ?_
    simp only [Act.put, List.setIfInBounds_toArray, List.set_cons_zero, List.set_cons_succ]
    refine wpAnyH_ready (rs := [7]) (by kernel_rfl) (by simp) (AllReadyH.cons (o := { dst := some 10, op := Op.call { callee := Callee.value (Operand.func 106), args := #[Operand.tmp 9], argTypes := #[3] }, type := 4, pos := "entry.go:42", after := #[{ on := 6, ground := Ground.data }, { on := 4, ground := Ground.chain }, { on := 4, ground := Ground.guard }], guard := some (4, false) }) rfl (fun KQ hK => ?_) AllReadyH.nil)
    go_simp
    refine (below_any _ x.o).mono ?_
    rintro e w2 ⟨rfl, rfl⟩
    rw [e2]
    go_wp2_with fail
    refine hK.out _ _ HC1.out (fun hHeld => ?_)
    clear hK KQ
    try simp only [Act.put, List.setIfInBounds_toArray, List.set_cons_zero, List.set_cons_succ]
    refine wpAnyH_take (i := 8) (oi := { dst := some 11, op := Op.unOp UnOp.not 4 (Operand.tmp 10), type := 4, pos := "entry.go:42", after := #[{ on := 7, ground := Ground.data }, { on := 4, ground := Ground.guard }], guard := some (4, false) }) (v := .bool false) rfl (by kernel_rfl) (by kernel_rfl) (by kernel_rfl) (fun _ _ _ h => h) (Or.inl ⟨by rfl, by intro w hSw; go_simp⟩) (by assumption) ?_
    simp only [Act.put, List.setIfInBounds_toArray, List.set_cons_zero, List.set_cons_succ]
    refine wpAnyH_take (i := 9) (oi := { dst := some 12, op := Op.pick (Operand.tmp 7) (Operand.const (Value.bool true)) (Operand.tmp 11), type := 4, pos := "entry.go:42", after := #[{ on := 4, ground := Ground.data }, { on := 8, ground := Ground.data }], guard := none }) (v := .bool false) rfl (by kernel_rfl) (by kernel_rfl) (by kernel_rfl) (fun _ _ _ h => h) (Or.inl ⟨by rfl, by intro w hSw; go_simp⟩) (by assumption) ?_
    simp only [Act.put, List.setIfInBounds_toArray, List.set_cons_zero, List.set_cons_succ]
    refine wpAnyH_take (i := 10) (oi := { dst := some 13, op := Op.move (Operand.tmp 12), type := 4, pos := "entry.go:42", after := #[{ on := 9, ground := Ground.data }, { on := 7, ground := Ground.chain }], guard := none }) (v := .bool false) rfl (by kernel_rfl) (by kernel_rfl) (by kernel_rfl) (fun _ _ _ h => h) (Or.inl ⟨by rfl, by intro w hSw; go_simp⟩) (by assumption) ?_
    simp only [Act.put, List.setIfInBounds_toArray, List.set_cons_zero, List.set_cons_succ]
    refine wpAnyH_take (i := 11) (oi := { dst := some 14, op := Op.fieldAddr 62 (Operand.tmp 1) 2, type := 0, pos := "entry.go:42", after := #[{ on := 10, ground := Ground.guard }], guard := some (10, false) }) (v := .pointer (some ⟨g1, 2, none⟩)) rfl (by kernel_rfl) (by kernel_rfl) (by kernel_rfl) (fun _ _ _ h => h) (Or.inl ⟨by rfl, by intro w hSw; go_simp⟩) (by assumption) ?_
    simp only [Act.put, List.setIfInBounds_toArray, List.set_cons_zero, List.set_cons_succ]
    refine wpAnyH_take (i := 12) (oi := { dst := some 15, op := Op.load 3 (Operand.tmp 14), type := 3, pos := "entry.go:42", after := #[{ on := 11, ground := Ground.data }, { on := 10, ground := Ground.guard }], guard := some (10, false) }) (v := .int .i64 x.r) rfl (by kernel_rfl) (by kernel_rfl) (by kernel_rfl) (fun _ _ _ h => h) (Or.inl ⟨by rfl, by intro w hSw; have hq : w.cell? ⟨g1, 2, none⟩ = some (.int .i64 x.r) := Cel.cell hSw 2; go_simp⟩) (by assumption) ?_
    simp only [Act.put, List.setIfInBounds_toArray, List.set_cons_zero, List.set_cons_succ]
    refine wpAnyH_ready (rs := [13]) (by kernel_rfl) (by simp) (AllReadyH.cons (o := { dst := some 16, op := Op.call { callee := Callee.value (Operand.func 106), args := #[Operand.tmp 15], argTypes := #[3] }, type := 4, pos := "entry.go:42", after := #[{ on := 12, ground := Ground.data }, { on := 10, ground := Ground.chain }, { on := 10, ground := Ground.guard }], guard := some (10, false) }) rfl (fun KQ hK => ?_) AllReadyH.nil)
    go_simp
    refine (below_any _ x.r).mono ?_
    rintro e w3 ⟨rfl, rfl⟩
    rw [e3]
    go_wp2_with fail
    refine hK.out _ _ HC1.out (fun hHeld => ?_)
    clear hK KQ
    try simp only [Act.put, List.setIfInBounds_toArray, List.set_cons_zero, List.set_cons_succ]
    refine wpAnyH_take (i := 14) (oi := { dst := some 17, op := Op.unOp UnOp.not 4 (Operand.tmp 16), type := 4, pos := "entry.go:42", after := #[{ on := 13, ground := Ground.data }, { on := 10, ground := Ground.guard }], guard := some (10, false) }) (v := .bool false) rfl (by kernel_rfl) (by kernel_rfl) (by kernel_rfl) (fun _ _ _ h => h) (Or.inl ⟨by rfl, by intro w hSw; go_simp⟩) (by assumption) ?_
    simp only [Act.put, List.setIfInBounds_toArray, List.set_cons_zero, List.set_cons_succ]
    refine wpAnyH_take (i := 15) (oi := { dst := some 18, op := Op.pick (Operand.tmp 13) (Operand.const (Value.bool true)) (Operand.tmp 17), type := 4, pos := "entry.go:42", after := #[{ on := 10, ground := Ground.data }, { on := 14, ground := Ground.data }], guard := none }) (v := .bool false) rfl (by kernel_rfl) (by kernel_rfl) (by kernel_rfl) (fun _ _ _ h => h) (Or.inl ⟨by rfl, by intro w hSw; go_simp⟩) (by assumption) ?_
    simp only [Act.put, List.setIfInBounds_toArray, List.set_cons_zero, List.set_cons_succ]
    refine wpAnyH_take (i := 16) (oi := { dst := some 19, op := Op.move (Operand.tmp 18), type := 4, pos := "entry.go:42", after := #[{ on := 15, ground := Ground.data }, { on := 13, ground := Ground.chain }], guard := none }) (v := .bool false) rfl (by kernel_rfl) (by kernel_rfl) (by kernel_rfl) (fun _ _ _ h => h) (Or.inl ⟨by rfl, by intro w hSw; go_simp⟩) (by assumption) ?_
    simp only [Act.put, List.setIfInBounds_toArray, List.set_cons_zero, List.set_cons_succ]
    refine wpAnyH_take (i := 17) (oi := { dst := some 20, op := Op.fieldAddr 62 (Operand.tmp 1) 3, type := 0, pos := "entry.go:42", after := #[{ on := 16, ground := Ground.guard }], guard := some (16, false) }) (v := .pointer (some ⟨g1, 3, none⟩)) rfl (by kernel_rfl) (by kernel_rfl) (by kernel_rfl) (fun _ _ _ h => h) (Or.inl ⟨by rfl, by intro w hSw; go_simp⟩) (by assumption) ?_
    simp only [Act.put, List.setIfInBounds_toArray, List.set_cons_zero, List.set_cons_succ]
    refine wpAnyH_take (i := 18) (oi := { dst := some 21, op := Op.load 60 (Operand.tmp 20), type := 60, pos := "entry.go:42", after := #[{ on := 17, ground := Ground.data }, { on := 16, ground := Ground.guard }], guard := some (16, false) }) (v := .int .i64 x.s) rfl (by kernel_rfl) (by kernel_rfl) (by kernel_rfl) (fun _ _ _ h => h) (Or.inl ⟨by rfl, by intro w hSw; have hq : w.cell? ⟨g1, 3, none⟩ = some (.int .i64 x.s) := Cel.cell hSw 3; go_simp⟩) (by assumption) ?_
    simp only [Act.put, List.setIfInBounds_toArray, List.set_cons_zero, List.set_cons_succ]
    refine wpAnyH_take (i := 19) (oi := { dst := some 22, op := Op.fieldAddr 62 (Operand.tmp 1) 0, type := 0, pos := "entry.go:42", after := #[{ on := 16, ground := Ground.guard }], guard := some (16, false) }) (v := .pointer (some ⟨g1, 0, none⟩)) rfl (by kernel_rfl) (by kernel_rfl) (by kernel_rfl) (fun _ _ _ h => h) (Or.inl ⟨by rfl, by intro w hSw; go_simp⟩) (by assumption) ?_
    simp only [Act.put, List.setIfInBounds_toArray, List.set_cons_zero, List.set_cons_succ]
    refine wpAnyH_take (i := 20) (oi := { dst := some 23, op := Op.load 44 (Operand.tmp 22), type := 44, pos := "entry.go:42", after := #[{ on := 19, ground := Ground.data }, { on := 16, ground := Ground.guard }], guard := some (16, false) }) (v := .int .i64 x.t) rfl (by kernel_rfl) (by kernel_rfl) (by kernel_rfl) (fun _ _ _ h => h) (Or.inl ⟨by rfl, by intro w hSw; have hq : w.cell? ⟨g1, 0, none⟩ = some (.int .i64 x.t) := Cel.cell hSw 0; go_simp⟩) (by assumption) ?_
    simp only [Act.put, List.setIfInBounds_toArray, List.set_cons_zero, List.set_cons_succ]
    refine wpAnyH_ready (rs := [21]) (by kernel_rfl) (by simp) (AllReadyH.cons (o := { dst := some 24, op := Op.call { callee := Callee.value (Operand.func 107), args := #[Operand.tmp 21, Operand.tmp 23], argTypes := #[60, 44] }, type := 4, pos := "entry.go:42", after := #[{ on := 18, ground := Ground.data }, { on := 20, ground := Ground.data }, { on := 16, ground := Ground.chain }, { on := 16, ground := Ground.guard }], guard := some (16, false) }) rfl (fun KQ hK => ?_) AllReadyH.nil)
    go_simp
    refine (fits_any _ x.s x.t).mono ?_
    rintro e w4 ⟨rfl, rfl⟩
    rw [e4]
    go_wp2_with fail
    refine hK.out _ _ HC1.out (fun hHeld => ?_)
    clear hK KQ
    try simp only [Act.put, List.setIfInBounds_toArray, List.set_cons_zero, List.set_cons_succ]
    refine wpAnyH_take (i := 22) (oi := { dst := some 25, op := Op.unOp UnOp.not 4 (Operand.tmp 24), type := 4, pos := "entry.go:42", after := #[{ on := 21, ground := Ground.data }, { on := 16, ground := Ground.guard }], guard := some (16, false) }) (v := .bool false) rfl (by kernel_rfl) (by kernel_rfl) (by kernel_rfl) (fun _ _ _ h => h) (Or.inl ⟨by rfl, by intro w hSw; go_simp⟩) (by assumption) ?_
    simp only [Act.put, List.setIfInBounds_toArray, List.set_cons_zero, List.set_cons_succ]
    refine wpAnyH_take (i := 23) (oi := { dst := some 26, op := Op.pick (Operand.tmp 19) (Operand.const (Value.bool true)) (Operand.tmp 25), type := 4, pos := "entry.go:42", after := #[{ on := 16, ground := Ground.data }, { on := 22, ground := Ground.data }], guard := none }) (v := .bool false) rfl (by kernel_rfl) (by kernel_rfl) (by kernel_rfl) (fun _ _ _ h => h) (Or.inl ⟨by rfl, by intro w hSw; go_simp⟩) (by assumption) ?_
    simp only [Act.put, List.setIfInBounds_toArray, List.set_cons_zero, List.set_cons_succ]
    refine wpAnyH_done (by kernel_rfl) ?_ _

    go_wp2_with fail
    go_ret
    exact ⟨by rw [hk]; rfl, HB1.out⟩
end Go.Proofs.Ytajkhkaidjjioaa
