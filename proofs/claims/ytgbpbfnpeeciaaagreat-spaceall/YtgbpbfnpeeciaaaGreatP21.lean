import Derived.Test.YtgbpbfnpeeciaaaGreatP20
import Derived.Deep.DeepCutAuto
import Derived.Test.YtgbpbfnpeeciaaaGreatP11
namespace Go.Proofs.YtgbpbfnpeeciaaaGreat
open Go.RowKit
set_option maxHeartbeats 4000000
structure Mp where
  s : Bool
  p : Int
  wr : Bool
  ex : Bool
deriving DecidableEq
def Mp.v (m : Mp) : Value := .agg #[.bool m.s, .int .i64 m.p, .bool m.wr, .bool m.ex]
def Mp.z : Mp := ⟨false, 0, false, false⟩
def b2 (b : Bool) (n : Int) : Int := if b then n else 0
def Mp.code (m : Mp) : Int := 256 * m.p + 1 + b2 m.s 2 + b2 m.wr 4 + b2 m.ex 8
def Mp.err (m : Mp) : Int := if Pg m.p then (if m.ex && !m.s then 1 else 0) else 4
def Mp.enc (m : Mp) : Int := if m.err = 0 then m.code else 0
def fldM (v : Int) : Mp := ⟨decide (v / 2 % 2 = 1), v / 256, decide (v / 4 % 2 = 1), decide (v / 8 % 2 = 1)⟩
theorem bit_ne (x n : Int) (h : 0 < n) : (x % 2 * n != 0) = decide (x % 2 = 1) := by
  have h2 : x % 2 = 0 ∨ x % 2 = 1 := by omega
  rcases h2 with e | e <;> rw [e] <;> simp <;> omega
theorem w_fields_any (W : World) (v : Int) (h0 : 0 ≤ v) (h1 : v < 4294967296) :
    Calls Tryz.prog 125 #[.int .u32 v] W fun x W' => x = .returned (fldM v).v ∧ Below W.heap.size W W' := by
  have HN := hid (fun W => number_any W v h0 h1)
  have b1 := and_bit v 1 h0 h1 (by decide)
  have b2 := and_bit v 2 h0 h1 (by decide)
  have b3 := and_bit v 3 h0 h1 (by decide)
  simp only [Int.reducePow] at b1 b2 b3
  have HB := hid (below_one W (.cells #[.bool false, .int .i64 0, .bool false, .bool false] 88))
  have c1 := bit_ne (v / 2) 2 (by decide)
  have c2 := bit_ne (v / 4) 4 (by decide)
  have c3 := bit_ne (v / 8) 8 (by decide)
  have HE : Hid ((fldM v).v = .agg #[.bool (decide (v / 2 % 2 = 1)), .int .i64 (v / 256), .bool (decide (v / 4 % 2 = 1)), .bool (decide (v / 8 % 2 = 1))]) := hid rfl
  generalize (fldM v).v = A at *
  go_enter Tryz.func125, Tryz.ntmps125
  go_wp2_with fail
  refine (HN.out _).mono ?_
  rintro x w1 ⟨rfl, rfl⟩
  go_wp2_with fail
  go_returns
  exact ⟨by rw [HE.out], below_one _ _⟩
theorem below_drewN {X w : World} {B : Nat} (h : Below B X w) (k : Nat) : Below B X (w.drewN k) := ⟨h.os, h.tape, h.output, h.size, h.block⟩
theorem bit_q (W : World) (b : Bool) (x : Int) (k : Nat) : Calls Tryz.prog 115 #[.bool b, .int .u32 x] (W.drewN k) fun e w'' => e = .returned (.int .u32 (b2 b x)) ∧ ∃ m, w'' = W.drewN m :=
  (bit_any _ b x).mono fun _ _ ⟨he, hm⟩ => ⟨he, k, hm⟩
theorem code_eq (p : Int) (s w e : Bool) (h0 : 0 ≤ p) (h1 : p < 64) : bits .or .u32 (bits .or .u32 (p * 256) 1) (bits .or .u32 (bits .or .u32 (b2 s 2) (b2 w 4)) (b2 e 8)) = (Mp.mk s p w e).code := by
  have e1 := or_eq p 1 8 h0 (by decide) (by decide) (by omega) (by decide)
  simp only [Int.reducePow] at e1
  have hlow : ∀ s w e : Bool, bits .or .u32 (bits .or .u32 (b2 s 2) (b2 w 4)) (b2 e 8) = b2 s 2 + b2 w 4 + b2 e 8 := by decide
  have hor : ∀ s w e : Bool, bits .or .u32 1 (b2 s 2 + b2 w 4 + b2 e 8) = 1 + (b2 s 2 + b2 w 4 + b2 e 8) := by decide
  rw [e1, hlow]
  have hb : ∀ (b : Bool) (n : Int), 0 ≤ n → 0 ≤ b2 b n ∧ b2 b n ≤ n := fun b n hn => by unfold b2; split <;> omega
  have a1 := hb s 2 (by decide)
  have a2 := hb w 4 (by decide)
  have a3 := hb e 8 (by decide)
  have hpar : (b2 s 2 + b2 w 4 + b2 e 8) % 2 = 0 := by unfold b2; cases s <;> cases w <;> cases e <;> decide
  unfold Mp.code
  simp only
  generalize hx : b2 s 2 + b2 w 4 + b2 e 8 = x at *
  have hx2 : 256 * p + 1 + b2 s 2 + b2 w 4 + b2 e 8 = 256 * p + 1 + x := by omega
  rw [hx2]
  rw [u32_or _ _ (by omega) (by omega) (by omega) (by omega)]
  obtain ⟨q, rfl⟩ := Int.eq_ofNat_of_zero_le h0
  obtain ⟨y, rfl⟩ := Int.eq_ofNat_of_zero_le (show 0 ≤ x by omega)
  have t1 : ((q : Int) * 256 + 1).toNat = 2 ^ 8 * q + 1 := by omega
  rw [t1, Int.toNat_natCast, Nat.two_pow_add_eq_or_of_lt (by decide) q, Nat.or_assoc]
  have hy : y < 16 := by omega
  have hyp : y % 2 = 0 := by omega
  have t2 : 1 ||| y = 1 + y := by
    have : ∀ y, y < 16 → y % 2 = 0 → 1 ||| y = 1 + y := by decide
    exact this y hy hyp
  rw [t2, ← Nat.two_pow_add_eq_or_of_lt (by omega) q]
  omega
theorem second_any (W : World) (m : Mp) :
    Calls Tryz.prog 88 #[m.v] W fun x W' => x = .returned (.tuple #[.int .u32 m.enc, .int .i64 m.err]) ∧ Below W.heap.size W W' := by
  have HC := hid (Cel.new W 88 [.bool m.s, .int .i64 m.p, .bool m.wr, .bool m.ex])
  have HB := hid (below_one W (.cells #[.bool m.s, .int .i64 m.p, .bool m.wr, .bool m.ex] 88))
  obtain ⟨s, p, wr, ex⟩ := m
  unfold Mp.enc Mp.err Mp.v
  simp only at *
  by_cases hp : Pg p
  · have HL := hid (fun W => w_below_any W p 64 true (decide_eq_true hp))
    have hpp := hp
    obtain ⟨p0, p1⟩ := hpp
    have HE := hid (code_eq p s wr ex p0 p1)
    cases hse : ex && !s with
    | true =>
      obtain ⟨rfl, rfl⟩ : ex = true ∧ s = false := by cases ex <;> cases s <;> simp_all
      simp only [if_pos hp, if_pos, if_neg (show ¬ (1 : Int) = 0 by decide)]
      clear hp hse HE
      go_enter Tryz.func88, Tryz.ntmps88
      go_upto_region 1 with fail
      generalize hX : W.alloc _ = X at *
      clear hX
      have c0 := HC.out.cell 0
      have c1 := HC.out.cell 1
      have c3 := HC.out.cell 3
      simp only [List.getElem?_cons_zero, List.getElem?_cons_succ] at c0 c1 c3
      go_wp2_with fail
      refine (HL.out _).mono ?_
      rintro x w1 ⟨rfl, rfl⟩
      go_wp2_with fail
      go_returns
      exact ⟨rfl, HB.out⟩
    | false =>
      simp only [if_pos hp, if_pos, if_neg (show ¬ false = true by decide)]
      generalize (Mp.mk s p wr ex).code = C at *
      go_enter Tryz.func88, Tryz.ntmps88
      go_upto_region 1 with fail
      generalize hX : W.alloc _ = X at *
      clear hX
      have c0 := HC.out.cell 0
      have c1 := HC.out.cell 1
      have c2 := HC.out.cell 2
      have c3 := HC.out.cell 3
      simp only [List.getElem?_cons_zero, List.getElem?_cons_succ] at c0 c1 c2 c3
      go_wp2_with fail
      refine (HL.out _).mono ?_
      rintro x w1 ⟨rfl, rfl⟩
      clear hp
      cases ex <;> cases s <;> simp at hse
      all_goals clear hse
      all_goals go_wp2_with fail
      all_goals go_quiet (first | (go_at_call 115; exact bit_q _ _ _ _))
      all_goals go_wp2_with fail
      all_goals go_returns
      all_goals exact ⟨by rw [← HE.out]; rfl, below_drewN HB.out _⟩
  · have HL := hid (fun W => w_below_any W p 64 false (decide_eq_false hp))
    simp only [if_neg hp, if_neg (show ¬ (4 : Int) = 0 by decide)]
    clear hp
    go_enter Tryz.func88, Tryz.ntmps88
    go_upto_region 1 with fail
    generalize hX : W.alloc _ = X at *
    clear hX
    have c1 := HC.out.cell 1
    simp only [List.getElem?_cons_zero, List.getElem?_cons_succ] at c1
    go_wp2_with fail
    refine (HL.out _).mono ?_
    rintro x w1 ⟨rfl, rfl⟩
    go_wp2_with fail
    go_returns
    exact ⟨rfl, HB.out⟩
end Go.Proofs.YtgbpbfnpeeciaaaGreat
namespace Go.Proofs.YtgbpbfnpeeciaaaGreat
open Go.RowKit
structure Gm where
  va : Int
  wr : Bool
  ex : Bool
def Gm.v (m : Gm) : Value := .agg #[.int .u32 m.va, .bool m.wr, .bool m.ex]
def Gm.cs (m : Gm) : List Value := [.int .u32 m.va, .bool m.wr, .bool m.ex]
def Gm.z : Gm := ⟨0, false, false⟩
def Gm.Ok (m : Gm) : Prop := m.va % 4096 = 0 ∧ m.va < 1073741824
instance (m : Gm) : Decidable m.Ok := by unfold Gm.Ok; exact inferInstance
def Gm.w (m : Gm) : Int := if m.Ok then m.va + 1 + b2 m.wr 2 + b2 m.ex 4 else 0
def Gm.e (m : Gm) : Int := if m.Ok then 0 else 91
theorem or_low (q x y : Int) (h0 : 0 ≤ q) (h1 : q < 1048576) (x0 : 0 ≤ x) (x1 : x < 4096) (y0 : 0 ≤ y) (y1 : y < 4096) : bits .or .u32 (q * 4096 + x) y = q * 4096 + ((x.toNat ||| y.toNat : Nat) : Int) := by
  rw [u32_or _ _ (by omega) (by omega) y0 (by omega)]
  obtain ⟨q, rfl⟩ := Int.eq_ofNat_of_zero_le h0
  obtain ⟨x, rfl⟩ := Int.eq_ofNat_of_zero_le x0
  obtain ⟨y, rfl⟩ := Int.eq_ofNat_of_zero_le y0
  have t1 : ((q : Int) * 4096 + (x : Int)).toNat = 2 ^ 12 * q + x := by omega
  have hx : x < 2 ^ 12 := by omega
  have hy : y < 2 ^ 12 := by omega
  rw [t1, Int.toNat_natCast, Int.toNat_natCast, Nat.two_pow_add_eq_or_of_lt hx q, Nat.or_assoc, ← Nat.two_pow_add_eq_or_of_lt (Nat.or_lt_two_pow hx hy) q]
  generalize x ||| y = z
  omega
theorem or_low1 (v : Int) (h0 : 0 ≤ v) (h1 : v < 1073741824) (h2 : v % 4096 = 0) : bits .or .u32 v 1 = v + 1 := by
  have := or_low (v / 4096) 0 1 (by omega) (by omega) (by decide) (by decide) (by decide) (by decide)
  rw [show v / 4096 * 4096 + 0 = v by omega] at this
  rw [this]
  simp only [show (Int.toNat 0 ||| Int.toNat 1 : Nat) = 1 by decide]
  omega
theorem or_low2 (v : Int) (h0 : 0 ≤ v) (h1 : v < 1073741824) (h2 : v % 4096 = 0) : bits .or .u32 (v + 1) 2 = v + 1 + 2 := by
  have := or_low (v / 4096) 1 2 (by omega) (by omega) (by decide) (by decide) (by decide) (by decide)
  rw [show v / 4096 * 4096 + 1 = v + 1 by omega] at this
  rw [this]
  simp only [show (Int.toNat 1 ||| Int.toNat 2 : Nat) = 3 by decide]
  omega
theorem or_low4 (v : Int) (h0 : 0 ≤ v) (h1 : v < 1073741824) (h2 : v % 4096 = 0) : bits .or .u32 (v + 1) 4 = v + 1 + 4 := by
  have := or_low (v / 4096) 1 4 (by omega) (by omega) (by decide) (by decide) (by decide) (by decide)
  rw [show v / 4096 * 4096 + 1 = v + 1 by omega] at this
  rw [this]
  simp only [show (Int.toNat 1 ||| Int.toNat 4 : Nat) = 5 by decide]
  omega
theorem or_low6 (v : Int) (h0 : 0 ≤ v) (h1 : v < 1073741824) (h2 : v % 4096 = 0) : bits .or .u32 (v + 1 + 2) 4 = v + 1 + 2 + 4 := by
  have := or_low (v / 4096) 3 4 (by omega) (by omega) (by decide) (by decide) (by decide) (by decide)
  rw [show v / 4096 * 4096 + 3 = v + 1 + 2 by omega] at this
  rw [this]
  simp only [show (Int.toNat 3 ||| Int.toNat 4 : Nat) = 7 by decide]
  omega
theorem word_any (W : World) (m : Gm) (h0 : 0 ≤ m.va) (h1 : m.va < 4294967296) :
    Calls Tryz.prog 13 #[m.v] W fun x W' => x = .returned (.tuple #[.int .u32 m.w, .int .i64 m.e]) ∧ Below W.heap.size W W' := by
  have HC := hid (Cel.new W 52 m.cs)
  have HB := hid (below_one W (.cells m.cs.toArray 52))
  obtain ⟨va, wr, ex⟩ := m
  unfold Gm.w Gm.e Gm.v
  unfold Gm.cs at HC HB
  simp only at *
  have c0 := HC.out.cell 0
  have c1 := HC.out.cell 1
  have c2 := HC.out.cell 2
  simp only [List.getElem?_cons_zero, List.getElem?_cons_succ] at c0 c1 c2
  by_cases hm : va % 4096 = 0
  · by_cases hl : va < 1073741824
    · have e1 := or_low1 va h0 hl hm
      have e2 := or_low2 va h0 hl hm
      have e4 := or_low4 va h0 hl hm
      have e6 := or_low6 va h0 hl hm
      rw [if_pos ⟨hm, hl⟩, if_pos ⟨hm, hl⟩]
      cases wr <;> cases ex
      all_goals
        simp only [b2, if_true, Int.add_zero, Bool.false_eq_true, if_false]
        go_enter Tryz.func13, Tryz.ntmps13
        go_upto_region 1 with fail
        generalize hX : W.alloc _ = X at *
        clear hX
        go_wp2_with fail
        go_returns
        exact ⟨rfl, HB.out⟩
    · rw [if_neg (fun h => hl h.2), if_neg (fun h => hl h.2)]
      go_enter Tryz.func13, Tryz.ntmps13
      go_upto_region 1 with fail
      generalize hX : W.alloc _ = X at *
      clear hX
      go_wp2_with fail
      go_returns
      exact ⟨rfl, HB.out⟩
  · rw [if_neg (fun h => hm h.1), if_neg (fun h => hm h.1)]
    go_enter Tryz.func13, Tryz.ntmps13
    go_upto_region 1 with fail
    generalize hX : W.alloc _ = X at *
    clear hX
    go_wp2_with fail
    go_returns
    exact ⟨rfl, HB.out⟩
def Gw (w : Int) : Prop := w % 2 = 1 ∧ w % 4096 < 8 ∧ w < 1073741824
instance (w : Int) : Decidable (Gw w) := by unfold Gw; exact inferInstance
def gP (w : Int) : Gm := if Gw w then ⟨w - w % 4096, decide (w / 2 % 2 = 1), decide (w / 4 % 2 = 1)⟩ else Gm.z
def gPE (w : Int) : Int := if Gw w then 0 else 142
def gG (w : Int) : Gm := ⟨w - w % 4096, decide (w / 2 % 2 = 1), decide (w / 4 % 2 = 1)⟩
theorem gG_iff (w : Int) (h0 : 0 ≤ w) (h1 : w < 4294967296) : ((gG w).e = 0 ∧ (gG w).w = w) ↔ Gw w := by
  by_cases hk : (gG w).Ok
  · have hk' := hk
    obtain ⟨ha, hb⟩ := hk'
    simp only [gG] at ha hb
    rw [Gm.e, Gm.w, if_pos hk, if_pos hk]
    unfold Gw b2 gG
    by_cases h2 : w / 2 % 2 = 1 <;> by_cases h4 : w / 4 % 2 = 1 <;> simp [h2, h4] <;> omega
  · rw [Gm.e, if_neg hk]
    refine ⟨fun h => absurd h.1 (by decide), fun h => absurd ?_ hk⟩
    obtain ⟨ha, hb, hc⟩ := h
    exact ⟨by simp only [gG]; omega, by simp only [gG]; omega⟩
theorem and_two (w : Int) (h0 : 0 ≤ w) (h1 : w < 4294967296) : bits .and .u32 w 2 = w / 2 % 2 * 2 := by have := and_bit w 1 h0 h1 (by decide); simpa using this
theorem and_four (w : Int) (h0 : 0 ≤ w) (h1 : w < 4294967296) : bits .and .u32 w 4 = w / 4 % 2 * 4 := by have := and_bit w 2 h0 h1 (by decide); simpa using this
theorem b_ne (x : Int) (k : Int) (hk : 0 < k) : (x % 2 * k != 0) = decide (x % 2 = 1) := by
  rcases (show x % 2 = 0 ∨ x % 2 = 1 by omega) with h | h
  · simp [h]
  · simp only [h, Int.one_mul, decide_true]; simp; omega
end Go.Proofs.YtgbpbfnpeeciaaaGreat
namespace Go.Proofs.YtgbpbfnpeeciaaaGreat
open Go.RowKit
set_option maxRecDepth 100000
set_option maxHeartbeats 4000000
theorem under26 : Tryz.prog.underlying 52 = some (.struct (Tryz.prog.fieldsOf 52)) := by kernel_rfl
theorem size26 : (Tryz.prog.info? 52).map (·.size) = some 3 := by kernel_rfl
theorem built_z26 : Tryz.prog.built 52 [] = some #[.int .u32 0, .bool false, .bool false] := by kernel_rfl
theorem wpList_build_z26 {ops : Array Oper} {rest : List Oper} {o : Oper} {a : Act} {w : World} {Q : Exit → Act → World → Prop} (hgd : o.guard = none) (ho : o.op = .build 52 #[])
    (h : wpList Tryz.prog ops Q rest (a.put o.dst (.agg #[.int .u32 0, .bool false, .bool false])) w) : wpList Tryz.prog ops Q (o :: rest) a w :=
  wpList_build_f hgd 52 _ ho #[] (by simp) _ built_z26 h
theorem Bag.new {W w : World} {L : List (Nat × TypeId × List Value)} (h : Bag W w L) (u : TypeId) (es : List Value) : Bag W (w.alloc (.cells es.toArray u)) ((w.heap.size, u, es) :: L) := h.add (ds := es) (Cel.new w u es) (.refl _ _)
theorem gP_pos {w : Int} (h : Gw w) : gP w = gG w := by rw [gP, if_pos h]; rfl
theorem gP_neg {w : Int} (h : ¬ Gw w) : gP w = Gm.z := by rw [gP, if_neg h]
theorem parse_any (W : World) (w : Int) (h0 : 0 ≤ w) (h1 : w < 4294967296) :
    Calls Tryz.prog 14 #[.int .u32 w] W fun x W' => x = .returned (.tuple #[(gP w).v, .int .i64 (gPE w)]) ∧ Below W.heap.size W W' := by
  have B0 := hid (bag_one W 52 Gm.z.cs)
  have e2 := and_two w h0 h1
  have e4 := and_four w h0 h1
  have n2 := b_ne (w / 2) 2 (by decide)
  have n4 := b_ne (w / 4) 4 (by decide)
  have HW := hid (fun W => word_any W (gG w) (by simp only [gG]; omega) (by simp only [gG]; omega))
  have hi := gG_iff w h0 h1
  have ev : w - w % 4096 = (gG w).va := rfl
  rw [show decide (w / 2 % 2 = 1) = (gG w).wr from rfl] at n2
  rw [show decide (w / 4 % 2 = 1) = (gG w).ex from rfl] at n4
  have HP := hid (@gP_pos w)
  generalize gG w = m at *
  generalize m.e = A at *
  generalize m.w = V at *
  unfold Gm.v at HW
  simp only [Gm.cs, Gm.z] at B0
  go_enter Tryz.func14, Tryz.ntmps14
  go_upto_region 1 with fail
  generalize W.alloc _ = X at *
  generalize hg : W.heap.size = g2 at B0 ⊢
  have HG := hid hg
  clear hg
  go_upto_region 2 with fail
  try simp only [n2, n4]
  have B1 := hid (B0.out.new 52 m.cs)
  simp only [Gm.cs] at B1
  clear B0 e2 e4 n2 n4 ev h0 h1
  generalize X.alloc _ = X1 at *
  generalize X.heap.size = g4 at *
  go_upto_region 3 with (first | (go_at_call 13; refine (HW.out _).mono ?_; rintro x w2 ⟨rfl, hb⟩; have B2 := hid (B1.out.on hb); clear hb) | (refine wpList_load_mid rfl 52 _ rfl g4 0 rfl _ _ ((B1.out.get 0 rfl).range) under26 rfl (by rw [size26]; rfl) ?_))
  clear B1 HW
  by_cases hA0 : A = 0
  · by_cases hV0 : V = w
    · have hw := hi.1 ⟨hA0, hV0⟩
      go_wp2_with (first | (refine wpList_load_mid rfl 52 _ rfl g4 0 rfl _ _ ((B2.out.get 0 rfl).range) under26 rfl (by rw [size26]; rfl) ?_) | (refine wpList_store_st rfl 52 _ _ rfl g2 m.cs rfl rfl (B2.out.get 1 rfl) size26 rfl rfl ?_; intro w4 hc hb hs; have HE := hid (And.intro hc (B2.out.below.trans (hb.below (by have := HG.out; simp; omega) B2.out.below.size))); clear hc hb hs))
      exact ret_st2 rfl rfl g2 _ rfl HE.out.1 under26 rfl size26 ⟨by rw [HP.out hw, gPE, if_pos hw]; rfl, HE.out.2⟩
    · have hw : ¬ Gw w := fun h => hV0 (hi.2 h).2
      go_wp2_with (first | (refine wpList_build_z26 rfl rfl ?_) | (refine wpList_store_st rfl 52 _ _ rfl g2 Gm.z.cs rfl rfl (B2.out.get 1 rfl) size26 rfl rfl ?_; intro w4 hc hb hs; have HE := hid (And.intro hc (B2.out.below.trans (hb.below (by have := HG.out; simp; omega) B2.out.below.size))); clear hc hb hs))
      exact ret_st2 rfl rfl g2 _ rfl HE.out.1 under26 rfl size26 ⟨by rw [gP_neg hw, gPE, if_neg hw]; rfl, HE.out.2⟩
  · have hw : ¬ Gw w := fun h => hA0 (hi.2 h).1
    go_wp2_with (first | (refine wpList_build_z26 rfl rfl ?_) | (refine wpList_store_st rfl 52 _ _ rfl g2 Gm.z.cs rfl rfl (B2.out.get 1 rfl) size26 rfl rfl ?_; intro w4 hc hb hs; have HE := hid (And.intro hc (B2.out.below.trans (hb.below (by have := HG.out; simp; omega) B2.out.below.size))); clear hc hb hs))
    exact ret_st2 rfl rfl g2 _ rfl HE.out.1 under26 rfl size26 ⟨by rw [gP_neg hw, gPE, if_neg hw]; rfl, HE.out.2⟩
end Go.Proofs.YtgbpbfnpeeciaaaGreat
