import Derived.Test.YtncnogndopgknaaGreatDoorP33
import Derived.Test.YtncnogndopgknaaGreatDoorP40
import Derived.Test.YtncnogndopgknaaGreatDoorP39
namespace Go.Proofs.YtncnogndopgknaaGreatDoor
open Go.ChangeShapes Go.WideShapes Go.ChangeAt Go.RowKit
theorem gPow : Tryz.prog.globalNamed "internal/strconv.uint64pow10" = some 4 := by kernel_rfl
theorem gPowType : (Tryz.prog.globals[4]?).map (·.type) = some 242 := by kernel_rfl
theorem cells242 : Tryz.prog.cellsOf 242 = 20 := by kernel_rfl
theorem cells117 : Tryz.prog.cellsOf 117 = 1 := by kernel_rfl
theorem u242 : Tryz.prog.underlying 242 = some (.array 20 117) := by kernel_rfl
theorem u117 : Tryz.prog.underlying 117 = some (.int .u64) := by kernel_rfl
theorem pow_of {rest : List (String × DataW Unit)} {W : World} {ps : List MemPlace} (h : DataW.LaidVars Tryz.prog W (("internal/strconv.uint64pow10", Rows.laid_internal_strconv_uint64pow10) :: rest) ps) : PowTab W :=
  tab_vars (rest := rest) gPow gPowType u242 u117 cells117 cells242 h
def br64 : List Int := [0, 1, 56, 2, 57, 49, 28, 3, 61, 58, 42, 50, 38, 29, 17, 4, 62, 47, 59, 36, 45, 43, 51, 22, 53, 39, 33, 30, 24, 18, 12, 5, 63, 55, 48, 27, 60, 41, 37, 16, 46, 35, 44, 21, 52, 32, 23, 11, 54, 26, 40, 15, 34, 20, 31, 10, 25, 14, 19, 9, 13, 8, 7, 6]
theorem gBr : Tryz.prog.globalNamed "math/bits.deBruijn64tab" = some 9 := by kernel_rfl
theorem gBrType : (Tryz.prog.globals[9]?).map (·.type) = some 268 := by kernel_rfl
theorem cells268 : Tryz.prog.cellsOf 268 = 64 := by kernel_rfl
theorem cells5 : Tryz.prog.cellsOf 5 = 1 := by kernel_rfl
theorem u268 : Tryz.prog.underlying 268 = some (.array 64 5) := by kernel_rfl
theorem u5 : Tryz.prog.underlying 5 = some (.int .u8) := by kernel_rfl
theorem size_of {rest : List (String × DataW Unit)} {W : World} {ps : List MemPlace} (h : DataW.LaidVars Tryz.prog W (("math/bits.deBruijn64tab", Rows.laid_math_bits_deBruijn64tab) :: rest) ps) : 9 < W.heap.size := by
  have hT : Lib.TabIs Tryz.prog W "math/bits.deBruijn64tab" .u8 br64 := tab_vars (rest := rest) gBr gBrType u268 u5 cells5 cells268 h
  have hc := hT.cell gBr 0 (by decide)
  rcases Nat.lt_or_ge 9 W.heap.size with h | h
  · exact h
  · simp [World.cell?, Array.getElem?_eq_none h] at hc
def pow10C : Array Value := #[.int .u64 1, .int .u64 10, .int .u64 100, .int .u64 1000, .int .u64 10000, .int .u64 100000, .int .u64 1000000, .int .u64 10000000, .int .u64 100000000, .int .u64 1000000000, .int .u64 10000000000, .int .u64 100000000000, .int .u64 1000000000000, .int .u64 10000000000000, .int .u64 100000000000000, .int .u64 1000000000000000, .int .u64 10000000000000000, .int .u64 100000000000000000, .int .u64 1000000000000000000, .int .u64 10000000000000000000]
def bruijn32C : Array Value := #[.int .u8 0, .int .u8 1, .int .u8 28, .int .u8 2, .int .u8 29, .int .u8 14, .int .u8 24, .int .u8 3, .int .u8 30, .int .u8 22, .int .u8 20, .int .u8 15, .int .u8 25, .int .u8 17, .int .u8 4, .int .u8 8, .int .u8 31, .int .u8 27, .int .u8 13, .int .u8 23, .int .u8 21, .int .u8 19, .int .u8 16, .int .u8 7, .int .u8 26, .int .u8 12, .int .u8 18, .int .u8 6, .int .u8 11, .int .u8 5, .int .u8 10, .int .u8 9]
def bruijn64C : Array Value := #[.int .u8 0, .int .u8 1, .int .u8 56, .int .u8 2, .int .u8 57, .int .u8 49, .int .u8 28, .int .u8 3, .int .u8 61, .int .u8 58, .int .u8 42, .int .u8 50, .int .u8 38, .int .u8 29, .int .u8 17, .int .u8 4, .int .u8 62, .int .u8 47, .int .u8 59, .int .u8 36, .int .u8 45, .int .u8 43, .int .u8 51, .int .u8 22, .int .u8 53, .int .u8 39, .int .u8 33, .int .u8 30, .int .u8 24, .int .u8 18, .int .u8 12, .int .u8 5, .int .u8 63, .int .u8 55, .int .u8 48, .int .u8 27, .int .u8 60, .int .u8 41, .int .u8 37, .int .u8 16, .int .u8 46, .int .u8 35, .int .u8 44, .int .u8 21, .int .u8 52, .int .u8 32, .int .u8 23, .int .u8 11, .int .u8 54, .int .u8 26, .int .u8 40, .int .u8 15, .int .u8 34, .int .u8 20, .int .u8 31, .int .u8 10, .int .u8 25, .int .u8 14, .int .u8 19, .int .u8 9, .int .u8 13, .int .u8 8, .int .u8 7, .int .u8 6]
noncomputable def laidWorldB (os : Os) : World :=
  { laidWorld os with heap := ((((laidWorld os).heap.modify 4 (fillT pow10C)).modify 8 (fillT bruijn32C)).modify 9 (fillT bruijn64C)) }
theorem cellsU : Tryz.prog.cellsOf 22 = 1 := by kernel_rfl
end Go.Proofs.YtncnogndopgknaaGreatDoor
namespace Go.Proofs.YtncnogndopgknaaGreatDoor
open Go.RowKit
set_option maxRecDepth 100000
set_option maxHeartbeats 4000000
namespace T
end T
def wiI (x lo hi : Int) : Int := lo + (if x.tmod (hi - lo + 1) < 0 then x.tmod (hi - lo + 1) + (hi - lo + 1) else x.tmod (hi - lo + 1))
theorem wiI_r (x hi : Int) (h : 0 ≤ hi) : 0 ≤ wiI x 0 hi ∧ wiI x 0 hi ≤ hi := by
  unfold wiI
  have h1 := Int.tmod_lt_of_pos x (show 0 < hi - 0 + 1 by omega)
  have h2 : -(hi - 0 + 1) < x.tmod (hi - 0 + 1) := by
    have := Int.lt_tmod_of_pos x (show 0 < hi - 0 + 1 by omega)
    exact this
  split <;> omega
structure Pie where
  k : Int
  a : Int
  cd : Int
  tq : Int
  v : Nat
def Pie.kd (p : Pie) : Nat := (wiI p.k 0 4).toNat
def Pie.rg (p : Pie) : Nat := (wiI p.a 0 14).toNat
def Pie.cn (p : Pie) : Nat := (wiI p.cd 0 6).toNat
def Pie.tg (p : Pie) (n : Nat) : Nat := (wiI p.tq 0 n).toNat
def Pie.odd (p : Pie) : Bool := p.a.tmod 2 != 0
theorem Pie.kd_le (p : Pie) : p.kd ≤ 4 := by have := wiI_r p.k 4 (by decide); unfold Pie.kd; omega
theorem Pie.tg_le (p : Pie) (n : Nat) : p.tg n ≤ n := by have := wiI_r p.tq n (by omega); unfold Pie.tg; omega
namespace S
def nmp (i : Nat) : List UInt8 := 112 :: Lib.decDigits i
def bN : List UInt8 := [98]
def blN : List UInt8 := [98, 108]
def sw (p : Pie) (n : Nat) : List UInt8 × List (List UInt8) :=
  if p.kd = 0 then (wordN, [T.hexed8 p.v]) else if p.kd = 1 then (liN, [114 :: Lib.decDigits p.rg, Lib.decDigits p.v])
  else if p.kd = 2 then (if p.odd then (blN, [nmp (p.tg n)]) else (bN, [condT.getD p.cn [], nmp (p.tg n)]))
  else if p.kd = 3 then (wordN, [nmp (p.tg n)]) else (zeroN, [Lib.decDigits (p.v % 4)])
def szp (p : Pie) : Nat := if p.kd = 1 then 2 else if p.kd = 4 then p.v % 4 else 1
def txtP (p : Pie) (n : Nat) : List UInt8 := (sw p n).1 ++ (sw p n).2.flatMap (32 :: ·)
def lineP (p : Pie) (n i : Nat) : List UInt8 := nmp i ++ [58, 32] ++ txtP p n ++ [32, 35, 32] ++ nmp i
def fw (p : Pie) (n base : Nat) (plc : Nat → Nat) (q : Nat) : List Nat :=
  if p.kd = 0 then [p.v] else if p.kd = 1 then [half 1 p.rg (p.v % 65536), half 2 p.rg (p.v / 65536)]
  else if p.kd = 2 then [(enc ⟨if p.odd then 22 else 21, if p.odd then 0 else p.cn, 0, 0, 0, (plc (p.tg n) : Int) - q - 1⟩).toNat]
  else if p.kd = 3 then [(base + 4 * plc (p.tg n)) % 4294967296] else List.replicate (p.v % 4) 0
theorem fw_len (p : Pie) (n base : Nat) (plc : Nat → Nat) (q : Nat) : (fw p n base plc q).length = szp p := by
  have := p.kd_le
  unfold fw szp
  by_cases h0 : p.kd = 0
  · rw [if_pos h0, if_neg (show ¬ p.kd = 1 by omega), if_neg (show ¬ p.kd = 4 by omega)]; rfl
  · rw [if_neg h0]
    by_cases h1 : p.kd = 1
    · rw [if_pos h1, if_pos h1]; rfl
    · rw [if_neg h1, if_neg h1]
      by_cases h2 : p.kd = 2
      · rw [if_pos h2, if_neg (show ¬ p.kd = 4 by omega)]; rfl
      · rw [if_neg h2]
        by_cases h3 : p.kd = 3
        · rw [if_pos h3, if_neg (show ¬ p.kd = 4 by omega)]; rfl
        · rw [if_neg h3, if_pos (show p.kd = 4 by omega), List.length_replicate]
structure FixP (t : Lt) (lb : List UInt8) (l : Nat) (f : Nat → Nat) : Prop where
  lab : (t.ops.getD t.at' ⟨0, [], 0⟩).lab = lb
  ltr : (t.k.shape.map (·.toNat)).getD t.at' 0 = l
  wd : ∀ v, words t.k (t.ops.set t.at' { t.ops.getD t.at' ⟨0, [], 0⟩ with val := v }) = [f v]
end S
end Go.Proofs.YtncnogndopgknaaGreatDoor
namespace Go.Proofs.YtncnogndopgknaaGreatDoor
open Go.RowKit
set_option maxRecDepth 100000
set_option maxHeartbeats 4000000
namespace S
def p0 : Pie := ⟨0, 0, 0, 0, 0⟩
def plc (ps : List Pie) : Nat → Nat
  | 0 => 0
  | i + 1 => plc ps i + szp (ps.getD i p0)
theorem plc_mono (ps : List Pie) (i : Nat) : ∀ k, plc ps i ≤ plc ps (i + k)
  | 0 => Nat.le_refl _
  | k + 1 => by have := plc_mono ps i k; show _ ≤ plc ps (i + k) + _; omega
def FW (ps : List Pie) (base : Nat) : Nat → List Nat
  | 0 => []
  | k + 1 => FW ps base k ++ fw (ps.getD k p0) ps.length base (plc ps) (plc ps k)
theorem FW_len (ps : List Pie) (base : Nat) : ∀ k, (FW ps base k).length = plc ps k
  | 0 => rfl
  | k + 1 => by rw [FW, List.length_append, FW_len ps base k, fw_len]; rfl
def LB (ps : List Pie) : Nat → List (List UInt8 × Nat)
  | 0 => []
  | k + 1 => LB ps k ++ [(nmp k, plc ps k)]
def SR (ps : List Pie) : Nat → List UInt8
  | 0 => []
  | k + 1 => SR ps k ++ lineP (ps.getD k p0) ps.length k ++ [10]
def src (ps : List Pie) : List UInt8 := SR ps ps.length ++ [9] ++ nmp ps.length ++ [58, 10]
structure PsOk (ps : List Pie) : Prop where
  len : ps.length ≤ 300
  v : ∀ i, (ps.getD i p0).v < 4294967296
structure Rp (ps : List Pie) (base k : Nat) (st : St) : Prop where
  len : st.ws.length = plc ps k
  labs : st.labs = LB ps k
  lat : ∀ t ∈ st.lat, t.place < plc ps k ∧ ∃ g l f v, g ≤ ps.length ∧ FixP t (nmp g) l f ∧ meaning base l (plc ps g) t.place = some v ∧ f v = (FW ps base ps.length).getD t.place 0
  cur : ∀ q, q < plc ps k → st.ws.getD q 0 = (FW ps base ps.length).getD q 0 ∨ ∃ t ∈ st.lat, t.place = q
end S
end Go.Proofs.YtncnogndopgknaaGreatDoor
namespace Go.Proofs.YtncnogndopgknaaGreatDoor
open Go.RowKit
set_option maxRecDepth 40000
set_option maxHeartbeats 2000000
theorem ret_i {x y : Int} (h : x = y) : Ending.returned (.int .i64 x) = Ending.returned (.int .i64 y) := by rw [h]
end Go.Proofs.YtncnogndopgknaaGreatDoor
