import Derived.Test.YtildhjiddidghaaGreatDoorP27
import Derived.Deep.DeepCutAuto
import Derived.Test.YtildhjiddidghaaGreatDoorP16
namespace Go.Proofs.YtildhjiddidghaaGreatDoor
open Go.RowKit
set_option maxHeartbeats 4000000
structure Mp where
  s : Bool
  p : Int
  wr : Bool
  ex : Bool
deriving DecidableEq
def Mp.v (m : Mp) : Value := .agg #[.bool m.s, .int .i64 m.p, .bool m.wr, .bool m.ex]
def Mp.z : Mp := ⟨false, 0, false, false⟩
def b2 (b : Bool) (n : Int) : Int := if b then n else 0
def Mp.code (m : Mp) : Int := 256 * m.p + 1 + b2 m.s 2 + b2 m.wr 4 + b2 m.ex 8
def Mp.err (m : Mp) : Int := if Pg m.p then (if m.ex && !m.s then 1 else 0) else 4
def Mp.enc (m : Mp) : Int := if m.err = 0 then m.code else 0
def fldM (v : Int) : Mp := ⟨decide (v / 2 % 2 = 1), v / 256, decide (v / 4 % 2 = 1), decide (v / 8 % 2 = 1)⟩
theorem bit_ne (x n : Int) (h : 0 < n) : (x % 2 * n != 0) = decide (x % 2 = 1) := by
  have h2 : x % 2 = 0 ∨ x % 2 = 1 := by omega
  rcases h2 with e | e <;> rw [e] <;> simp <;> omega
theorem w_fields_any (W : World) (v : Int) (h0 : 0 ≤ v) (h1 : v < 4294967296) :
    Calls Tryz.prog 164 #[.int .u32 v] W fun x W' => x = .returned (fldM v).v ∧ Below W.heap.size W W' := by
  have HN := hid (fun W => number_any W v h0 h1)
  have b1 := and_bit v 1 h0 h1 (by decide)
  have b2 := and_bit v 2 h0 h1 (by decide)
  have b3 := and_bit v 3 h0 h1 (by decide)
  simp only [Int.reducePow] at b1 b2 b3
  have HB := hid (below_one W (.cells #[.bool false, .int .i64 0, .bool false, .bool false] 180))
  have c1 := bit_ne (v / 2) 2 (by decide)
  have c2 := bit_ne (v / 4) 4 (by decide)
  have c3 := bit_ne (v / 8) 8 (by decide)
  have HE : Hid ((fldM v).v = .agg #[.bool (decide (v / 2 % 2 = 1)), .int .i64 (v / 256), .bool (decide (v / 4 % 2 = 1)), .bool (decide (v / 8 % 2 = 1))]) := hid rfl
  generalize (fldM v).v = A at *
  go_enter Tryz.func164, Tryz.ntmps164
  go_wp2_with fail
  refine (HN.out _).mono ?_
  rintro x w1 ⟨rfl, rfl⟩
  go_wp2_with fail
  go_returns
  exact ⟨by rw [HE.out], below_one _ _⟩
theorem below_drewN {X w : World} {B : Nat} (h : Below B X w) (k : Nat) : Below B X (w.drewN k) := ⟨h.os, h.tape, h.output, h.size, h.block⟩
theorem bit_q (W : World) (b : Bool) (x : Int) (k : Nat) : Calls Tryz.prog 183 #[.bool b, .int .u32 x] (W.drewN k) fun e w'' => e = .returned (.int .u32 (b2 b x)) ∧ ∃ m, w'' = W.drewN m :=
  (bit_any _ b x).mono fun _ _ ⟨he, hm⟩ => ⟨he, k, hm⟩
theorem code_eq (p : Int) (s w e : Bool) (h0 : 0 ≤ p) (h1 : p < 64) : bits .or .u32 (bits .or .u32 (p * 256) 1) (bits .or .u32 (bits .or .u32 (b2 s 2) (b2 w 4)) (b2 e 8)) = (Mp.mk s p w e).code := by
  have e1 := or_eq p 1 8 h0 (by decide) (by decide) (by omega) (by decide)
  simp only [Int.reducePow] at e1
  have hlow : ∀ s w e : Bool, bits .or .u32 (bits .or .u32 (b2 s 2) (b2 w 4)) (b2 e 8) = b2 s 2 + b2 w 4 + b2 e 8 := by decide
  have hor : ∀ s w e : Bool, bits .or .u32 1 (b2 s 2 + b2 w 4 + b2 e 8) = 1 + (b2 s 2 + b2 w 4 + b2 e 8) := by decide
  rw [e1, hlow]
  have hb : ∀ (b : Bool) (n : Int), 0 ≤ n → 0 ≤ b2 b n ∧ b2 b n ≤ n := fun b n hn => by unfold b2; split <;> omega
  have a1 := hb s 2 (by decide)
  have a2 := hb w 4 (by decide)
  have a3 := hb e 8 (by decide)
  have hpar : (b2 s 2 + b2 w 4 + b2 e 8) % 2 = 0 := by unfold b2; cases s <;> cases w <;> cases e <;> decide
  unfold Mp.code
  simp only
  generalize hx : b2 s 2 + b2 w 4 + b2 e 8 = x at *
  have hx2 : 256 * p + 1 + b2 s 2 + b2 w 4 + b2 e 8 = 256 * p + 1 + x := by omega
  rw [hx2]
  rw [u32_or _ _ (by omega) (by omega) (by omega) (by omega)]
  obtain ⟨q, rfl⟩ := Int.eq_ofNat_of_zero_le h0
  obtain ⟨y, rfl⟩ := Int.eq_ofNat_of_zero_le (show 0 ≤ x by omega)
  have t1 : ((q : Int) * 256 + 1).toNat = 2 ^ 8 * q + 1 := by omega
  rw [t1, Int.toNat_natCast, Nat.two_pow_add_eq_or_of_lt (by decide) q, Nat.or_assoc]
  have hy : y < 16 := by omega
  have hyp : y % 2 = 0 := by omega
  have t2 : 1 ||| y = 1 + y := by
    have : ∀ y, y < 16 → y % 2 = 0 → 1 ||| y = 1 + y := by decide
    exact this y hy hyp
  rw [t2, ← Nat.two_pow_add_eq_or_of_lt (by omega) q]
  omega
theorem second_any (W : World) (m : Mp) :
    Calls Tryz.prog 165 #[m.v] W fun x W' => x = .returned (.tuple #[.int .u32 m.enc, .int .i64 m.err]) ∧ Below W.heap.size W W' := by
  have HC := hid (Cel.new W 180 [.bool m.s, .int .i64 m.p, .bool m.wr, .bool m.ex])
  have HB := hid (below_one W (.cells #[.bool m.s, .int .i64 m.p, .bool m.wr, .bool m.ex] 180))
  obtain ⟨s, p, wr, ex⟩ := m
  unfold Mp.enc Mp.err Mp.v
  simp only at *
  by_cases hp : Pg p
  · have HL := hid (fun W => w_below_any W p 64 true (decide_eq_true hp))
    have hpp := hp
    obtain ⟨p0, p1⟩ := hpp
    have HE := hid (code_eq p s wr ex p0 p1)
    cases hse : ex && !s with
    | true =>
      obtain ⟨rfl, rfl⟩ : ex = true ∧ s = false := by cases ex <;> cases s <;> simp_all
      simp only [if_pos hp, if_pos, if_neg (show ¬ (1 : Int) = 0 by decide)]
      clear hp hse HE
      go_enter Tryz.func165, Tryz.ntmps165
      go_upto_region 1 with fail
      generalize hX : W.alloc _ = X at *
      clear hX
      have c0 := HC.out.cell 0
      have c1 := HC.out.cell 1
      have c3 := HC.out.cell 3
      simp only [List.getElem?_cons_zero, List.getElem?_cons_succ] at c0 c1 c3
      go_wp2_with fail
      refine (HL.out _).mono ?_
      rintro x w1 ⟨rfl, rfl⟩
      go_wp2_with fail
      go_returns
      exact ⟨rfl, HB.out⟩
    | false =>
      simp only [if_pos hp, if_pos, if_neg (show ¬ false = true by decide)]
      generalize (Mp.mk s p wr ex).code = C at *
      go_enter Tryz.func165, Tryz.ntmps165
      go_upto_region 1 with fail
      generalize hX : W.alloc _ = X at *
      clear hX
      have c0 := HC.out.cell 0
      have c1 := HC.out.cell 1
      have c2 := HC.out.cell 2
      have c3 := HC.out.cell 3
      simp only [List.getElem?_cons_zero, List.getElem?_cons_succ] at c0 c1 c2 c3
      go_wp2_with fail
      refine (HL.out _).mono ?_
      rintro x w1 ⟨rfl, rfl⟩
      clear hp
      cases ex <;> cases s <;> simp at hse
      all_goals clear hse
      all_goals go_wp2_with fail
      all_goals go_quiet (first | (go_at_call 183; exact bit_q _ _ _ _))
      all_goals go_wp2_with fail
      all_goals go_returns
      all_goals exact ⟨by rw [← HE.out]; rfl, below_drewN HB.out _⟩
  · have HL := hid (fun W => w_below_any W p 64 false (decide_eq_false hp))
    simp only [if_neg hp, if_neg (show ¬ (4 : Int) = 0 by decide)]
    clear hp
    go_enter Tryz.func165, Tryz.ntmps165
    go_upto_region 1 with fail
    generalize hX : W.alloc _ = X at *
    clear hX
    have c1 := HC.out.cell 1
    simp only [List.getElem?_cons_zero, List.getElem?_cons_succ] at c1
    go_wp2_with fail
    refine (HL.out _).mono ?_
    rintro x w1 ⟨rfl, rfl⟩
    go_wp2_with fail
    go_returns
    exact ⟨rfl, HB.out⟩
end Go.Proofs.YtildhjiddidghaaGreatDoor
namespace Go.Proofs.YtildhjiddidghaaGreatDoor
open Go.RowKit
set_option maxHeartbeats 4000000
def PsOk (v : Int) : Prop := (fldM v).err = 0 ∧ (fldM v).code = v
instance (v : Int) : Decidable (PsOk v) := by unfold PsOk; exact inferInstance
def psE (v : Int) : Int := if v = 0 then 92 else if PsOk v then 0 else 90
def ps (v : Int) : Mp := if PsOk v then fldM v else Mp.z
theorem cel4 {w : World} {g : Nat} {m : Mp} (h : Cel w g 180 [.bool m.s, .int .i64 m.p, .bool m.wr, .bool m.ex]) :
    w.cell? ⟨g, 0, none⟩ = some (.bool m.s) ∧ w.cell? ⟨g, 1, none⟩ = some (.int .i64 m.p) ∧ w.cell? ⟨g, 2, none⟩ = some (.bool m.wr) ∧ w.cell? ⟨g, 3, none⟩ = some (.bool m.ex) :=
  ⟨h.cell 0, h.cell 1, h.cell 2, h.cell 3⟩
theorem chain4 {w w3 : World} {g : Nat} {a b c d : Value} (h : Cel w g 180 [a, b, c, d]) (x y z t : Value) (e : (((w.setCell ⟨g, 0, none⟩ x).setCell ⟨g, 1, none⟩ y).setCell ⟨g, 2, none⟩ z).setCell ⟨g, 3, none⟩ t = w3) :
    w3.cell? ⟨g, 0, none⟩ = some x ∧ w3.cell? ⟨g, 1, none⟩ = some y ∧ w3.cell? ⟨g, 2, none⟩ = some z ∧ w3.cell? ⟨g, 3, none⟩ = some t := by
  have h4 : Cel w3 g 180 [x, y, z, t] := by rw [← e]; exact (((h.setCell 0 x).setCell 1 y).setCell 2 z).setCell 3 t
  exact ⟨h4.cell 0, h4.cell 1, h4.cell 2, h4.cell 3⟩
theorem told2_any (W : World) (v : Int) (h0 : 0 ≤ v) (h1 : v < 4294967296) :
    Calls Tryz.prog 163 #[.int .u32 v, fnV 164, fnV 165] W fun x W' => x = .returned (.tuple #[(ps v).v, .int .i64 (psE v)]) ∧ Below W.heap.size W W' := by
  unfold ps psE fnV
  by_cases hv : v = 0
  · subst hv
    rw [if_neg (by unfold PsOk; decide), if_pos rfl]
    clear h0 h1
    unfold Mp.v Mp.z
    go_enter Tryz.func163, Tryz.ntmps163
    go_wp2_with fail
    go_returns
    exact ⟨rfl, (below_one _ _).trans ((below_one _ _).mono (by simp))⟩
  · have HF := hid (fun W => w_fields_any W v h0 h1)
    have HS := hid (fun W => second_any W (fldM v))
    have HP : Hid (PsOk v ↔ (fldM v).err = 0 ∧ (fldM v).code = v) := hid Iff.rfl
    have HEn : Hid ((fldM v).enc = if (fldM v).err = 0 then (fldM v).code else 0) := hid rfl
    have HC0 : Hid (Cel ((W.alloc (.cells #[.bool false, .int .i64 0, .bool false, .bool false] 180)).alloc (.cells #[.bool false, .int .i64 0, .bool false, .bool false] 180)) W.heap.size 180 [.bool Mp.z.s, .int .i64 Mp.z.p, .bool Mp.z.wr, .bool Mp.z.ex]) := hid ((Cel.new W 180 _).on (below_one _ _))
    have HC1 : Hid (Cel ((W.alloc (.cells #[.bool false, .int .i64 0, .bool false, .bool false] 180)).alloc (.cells #[.bool false, .int .i64 0, .bool false, .bool false] 180)) (W.heap.size + 1) 180 [.bool Mp.z.s, .int .i64 Mp.z.p, .bool Mp.z.wr, .bool Mp.z.ex]) := by
      have := Cel.new (W.alloc (.cells #[.bool false, .int .i64 0, .bool false, .bool false] 180)) 180 [.bool Mp.z.s, .int .i64 Mp.z.p, .bool Mp.z.wr, .bool Mp.z.ex]
      rw [World.size_alloc] at this
      exact hid this
    have HB0 : Hid (Below W.heap.size W ((W.alloc (.cells #[.bool false, .int .i64 0, .bool false, .bool false] 180)).alloc (.cells #[.bool false, .int .i64 0, .bool false, .bool false] 180))) := hid ((below_one _ _).trans ((below_one _ _).mono (by simp)))
    rw [if_neg hv]
    generalize hf : fldM v = f at *
    clear hf
    have HT : Hid (∀ (c e : Int) (r : Mp) (E : Int), (∀ W, Calls Tryz.prog 165 #[f.v] W fun x W' => x = .returned (.tuple #[.int .u32 c, .int .i64 e]) ∧ Below W.heap.size W W') → (e = 0 ∧ c = v ∧ r = f ∧ E = 0 ∨ e = 0 ∧ ¬ c = v ∧ r = Mp.z ∧ E = 90 ∨ ¬ e = 0 ∧ r = Mp.z ∧ E = 90) →
        Calls Tryz.prog 163 #[.int .u32 v, .func (.func 164) #[] #[], .func (.func 165) #[] #[]] W fun x W' => x = .returned (.tuple #[r.v, .int .i64 E]) ∧ Below W.heap.size W W') := by
      intro c e r E hS hr
      have HS := hid hS
      clear hS HP HEn
      rcases hr with ⟨rfl, rfl, hrf, rfl⟩ | ⟨rfl, hc, hrf, rfl⟩ | ⟨he, hrf, rfl⟩
      all_goals rw [hrf]
      all_goals clear hrf
      all_goals go_enter Tryz.func163, Tryz.ntmps163
      all_goals go_upto_region 2 with fail
      all_goals generalize hX : (W.alloc _).alloc _ = X at *
      all_goals clear hX
      all_goals go_wp2_with fail
      all_goals refine (HF.out _).mono ?_
      all_goals rintro x w1 ⟨rfl, hb1⟩
      all_goals have HD0 := hid (HC0.out.on hb1)
      all_goals have HD1 := hid (HC1.out.on hb1)
      all_goals have HB1 := hid (below_on HB0.out hb1)
      all_goals clear hb1
      all_goals unfold Mp.v
      all_goals go_wp2_with fail
      all_goals refine (HS.out _).mono ?_
      all_goals rintro x w2 ⟨rfl, hb2⟩
      all_goals have HE0 := hid ((HD0.out.on (below_one _ _)).on hb2)
      all_goals have HE1 := hid ((HD1.out.on (below_one _ _)).on hb2)
      all_goals have HE2 : Hid (Cel w2 w1.heap.size 180 [.bool f.s, .int .i64 f.p, .bool f.wr, .bool f.ex]) := hid ((Cel.new w1 180 _).on hb2)
      all_goals have HB2 := hid (below_on (below_on HB1.out (below_one _ _)) hb2)
      all_goals have HSZ := hid HB1.out.size
      all_goals clear hb2 HD0 HD1 HB1 HB0 HC0 HC1 HF HS
      all_goals obtain ⟨a0, a1, a2, a3⟩ := cel4 HE0.out
      all_goals obtain ⟨b0, b1, b2, b3⟩ := cel4 HE1.out
      all_goals obtain ⟨c0, c1, c2, c3⟩ := cel4 HE2.out
      all_goals have z0 := HE0.out.free 0
      all_goals have z1 := HE0.out.free 1
      all_goals have z2 := HE0.out.free 2
      all_goals have z3 := HE0.out.free 3
      all_goals have HW : Hid (∀ x y z t : Value, Below W.heap.size W ((((w2.setCell ⟨W.heap.size, 0, none⟩ x).setCell ⟨W.heap.size, 1, none⟩ y).setCell ⟨W.heap.size, 2, none⟩ z).setCell ⟨W.heap.size, 3, none⟩ t)) := hid fun x y z t => (((HB2.out.setCell (p := ⟨W.heap.size, 0, none⟩) (Nat.le_refl _) _).setCell (p := ⟨W.heap.size, 1, none⟩) (Nat.le_refl _) _).setCell (p := ⟨W.heap.size, 2, none⟩) (Nat.le_refl _) _).setCell (p := ⟨W.heap.size, 3, none⟩) (Nat.le_refl _) _
      all_goals generalize w1.heap.size = g9 at *
      all_goals go_wp2_with fail
      all_goals generalize hX3 : World.setCell _ _ _ = w3
      all_goals have HC3 := chain4 HE0.out _ _ _ _ hX3
      all_goals have HB3 : Hid (Below W.heap.size W w3) := by rw [← hX3]; exact hid (HW.out _ _ _ _)
      all_goals clear hX3
      all_goals obtain ⟨d0, d1, d2, d3⟩ := HC3
      all_goals (refine bodyPost_ret (by simp [results, Tryz.results163, go_sem, d0, d1, d2, d3]; try rfl) rfl ?_)
      all_goals exact ⟨rfl, HB3.out⟩
    by_cases he : f.err = 0
    · by_cases hc : f.code = v
      · simp only [if_pos (HP.out.2 ⟨he, hc⟩)]
        exact HT.out _ _ _ _ HS.out (.inl ⟨he, by rw [HEn.out, if_pos he, hc], rfl, rfl⟩)
      · simp only [if_neg (show ¬ PsOk v from fun h => hc (HP.out.1 h).2)]
        exact HT.out _ _ _ _ HS.out (.inr (.inl ⟨he, by rw [HEn.out, if_pos he]; exact hc, rfl, rfl⟩))
    · simp only [if_neg (show ¬ PsOk v from fun h => he (HP.out.1 h).1)]
      exact HT.out _ _ _ _ HS.out (.inr (.inr ⟨he, rfl, rfl⟩))
theorem ps_any (W : World) (v : Int) (h0 : 0 ≤ v) (h1 : v < 4294967296) :
    Calls Tryz.prog 138 #[.int .u32 v] W fun x W' => x = .returned (.tuple #[(ps v).v, .int .i64 (psE v)]) ∧ Below W.heap.size W W' := by
  have HT := hid (fun W => told2_any W v h0 h1)
  unfold fnV at HT
  generalize ps v = m at *
  generalize psE v = B at *
  unfold Mp.v at *
  have HC := hid (Cel.new W 180 [.bool false, .int .i64 0, .bool false, .bool false])
  have HB := hid (below_one W (.cells #[.bool false, .int .i64 0, .bool false, .bool false] 180))
  go_enter Tryz.func138, Tryz.ntmps138
  go_upto_region 1 with fail
  generalize hX : W.alloc _ = X at *
  clear hX
  go_wp2_with fail
  refine (HT.out _).mono ?_
  rintro x w2 ⟨rfl, hb2⟩
  have HE0 := hid (HC.out.on hb2)
  have HB2 := hid (below_on HB.out hb2)
  clear hb2 HC HB HT
  have a0 := HE0.out.cell 0
  have a1 := HE0.out.cell 1
  have a2 := HE0.out.cell 2
  have a3 := HE0.out.cell 3
  simp only [List.getElem?_cons_zero, List.getElem?_cons_succ] at a0 a1 a2 a3
  have z0 := HE0.out.free 0
  have z1 := HE0.out.free 1
  have z2 := HE0.out.free 2
  have z3 := HE0.out.free 3
  have HW : Hid (∀ x y z t : Value, Below W.heap.size W ((((w2.setCell ⟨W.heap.size, 0, none⟩ x).setCell ⟨W.heap.size, 1, none⟩ y).setCell ⟨W.heap.size, 2, none⟩ z).setCell ⟨W.heap.size, 3, none⟩ t)) := hid fun x y z t => (((HB2.out.setCell (p := ⟨W.heap.size, 0, none⟩) (Nat.le_refl _) _).setCell (p := ⟨W.heap.size, 1, none⟩) (Nat.le_refl _) _).setCell (p := ⟨W.heap.size, 2, none⟩) (Nat.le_refl _) _).setCell (p := ⟨W.heap.size, 3, none⟩) (Nat.le_refl _) _
  go_wp2_with fail
  generalize hX3 : World.setCell _ _ _ = w3
  have HC3 := chain4 HE0.out _ _ _ _ hX3
  have HB3 : Hid (Below W.heap.size W w3) := by rw [← hX3]; exact hid (HW.out _ _ _ _)
  clear hX3
  obtain ⟨d0, d1, d2, d3⟩ := HC3
  (refine bodyPost_ret (by simp [results, Tryz.results138, go_sem, d0, d1, d2, d3]; try rfl) rfl ?_)
  exact ⟨rfl, HB3.out⟩
end Go.Proofs.YtildhjiddidghaaGreatDoor
namespace Go.Proofs.YtildhjiddidghaaGreatDoor
open Go.RowKit
theorem has_any (w : World) (f : Fp) (m : MS) (h : Mem w f m) (s : Bool) (p : Int) :
    Calls Tryz.prog 170 #[ptr f.gm, fr s p] w fun x w' => x = .returned (.bool (m.at s p).isSome) ∧ Below w.heap.size w w' := by
  have hX := h.on (below_one w (.cells #[.bool s, .int .i64 p] 57))
  have hB := hid (below_one w (.cells #[.bool s, .int .i64 p] 57))
  have HF := hid (find_any _ f m hX s p)
  clear h hX
  generalize hr : m.at s p = r at *
  cases r <;> simp only [fr, ptr, pv, Option.isSome] at *
  all_goals go_enter Tryz.func170, Tryz.ntmps170
  all_goals go_wp2_with fail
  all_goals refine HF.out.mono ?_
  all_goals rintro x w1 ⟨rfl, hb1⟩
  all_goals have HB1 := hid (below_on hB.out hb1)
  all_goals clear hb1
  all_goals go_wp2_with fail
  all_goals go_ret
  all_goals exact ⟨rfl, HB1.out⟩
end Go.Proofs.YtildhjiddidghaaGreatDoor
