import Derived.Test.YtncnogndopgknaaGreatDoorP28
import Derived.Test.YtncnogndopgknaaGreatDoorP33
import Derived.Test.YtncnogndopgknaaGreatDoorP32
namespace Go.Proofs.YtncnogndopgknaaGreatDoor
open Go.ChangeShapes Go.WideShapes Go.ChangeAt Go.RowKit
theorem gPow : Tryz.prog.globalNamed "internal/strconv.uint64pow10" = some 4 := by kernel_rfl
theorem gPowType : (Tryz.prog.globals[4]?).map (·.type) = some 242 := by kernel_rfl
theorem cells242 : Tryz.prog.cellsOf 242 = 20 := by kernel_rfl
theorem cells117 : Tryz.prog.cellsOf 117 = 1 := by kernel_rfl
theorem u242 : Tryz.prog.underlying 242 = some (.array 20 117) := by kernel_rfl
theorem u117 : Tryz.prog.underlying 117 = some (.int .u64) := by kernel_rfl
theorem pow_of {rest : List (String × DataW Unit)} {W : World} {ps : List MemPlace} (h : DataW.LaidVars Tryz.prog W (("internal/strconv.uint64pow10", Rows.laid_internal_strconv_uint64pow10) :: rest) ps) : PowTab W :=
  tab_vars (rest := rest) gPow gPowType u242 u117 cells117 cells242 h
def br64 : List Int := [0, 1, 56, 2, 57, 49, 28, 3, 61, 58, 42, 50, 38, 29, 17, 4, 62, 47, 59, 36, 45, 43, 51, 22, 53, 39, 33, 30, 24, 18, 12, 5, 63, 55, 48, 27, 60, 41, 37, 16, 46, 35, 44, 21, 52, 32, 23, 11, 54, 26, 40, 15, 34, 20, 31, 10, 25, 14, 19, 9, 13, 8, 7, 6]
theorem gBr : Tryz.prog.globalNamed "math/bits.deBruijn64tab" = some 9 := by kernel_rfl
theorem gBrType : (Tryz.prog.globals[9]?).map (·.type) = some 268 := by kernel_rfl
theorem cells268 : Tryz.prog.cellsOf 268 = 64 := by kernel_rfl
theorem cells5 : Tryz.prog.cellsOf 5 = 1 := by kernel_rfl
theorem u268 : Tryz.prog.underlying 268 = some (.array 64 5) := by kernel_rfl
theorem u5 : Tryz.prog.underlying 5 = some (.int .u8) := by kernel_rfl
theorem size_of {rest : List (String × DataW Unit)} {W : World} {ps : List MemPlace} (h : DataW.LaidVars Tryz.prog W (("math/bits.deBruijn64tab", Rows.laid_math_bits_deBruijn64tab) :: rest) ps) : 9 < W.heap.size := by
  have hT : Lib.TabIs Tryz.prog W "math/bits.deBruijn64tab" .u8 br64 := tab_vars (rest := rest) gBr gBrType u268 u5 cells5 cells268 h
  have hc := hT.cell gBr 0 (by decide)
  rcases Nat.lt_or_ge 9 W.heap.size with h | h
  · exact h
  · simp [World.cell?, Array.getElem?_eq_none h] at hc
def pow10C : Array Value := #[.int .u64 1, .int .u64 10, .int .u64 100, .int .u64 1000, .int .u64 10000, .int .u64 100000, .int .u64 1000000, .int .u64 10000000, .int .u64 100000000, .int .u64 1000000000, .int .u64 10000000000, .int .u64 100000000000, .int .u64 1000000000000, .int .u64 10000000000000, .int .u64 100000000000000, .int .u64 1000000000000000, .int .u64 10000000000000000, .int .u64 100000000000000000, .int .u64 1000000000000000000, .int .u64 10000000000000000000]
def bruijn32C : Array Value := #[.int .u8 0, .int .u8 1, .int .u8 28, .int .u8 2, .int .u8 29, .int .u8 14, .int .u8 24, .int .u8 3, .int .u8 30, .int .u8 22, .int .u8 20, .int .u8 15, .int .u8 25, .int .u8 17, .int .u8 4, .int .u8 8, .int .u8 31, .int .u8 27, .int .u8 13, .int .u8 23, .int .u8 21, .int .u8 19, .int .u8 16, .int .u8 7, .int .u8 26, .int .u8 12, .int .u8 18, .int .u8 6, .int .u8 11, .int .u8 5, .int .u8 10, .int .u8 9]
def bruijn64C : Array Value := #[.int .u8 0, .int .u8 1, .int .u8 56, .int .u8 2, .int .u8 57, .int .u8 49, .int .u8 28, .int .u8 3, .int .u8 61, .int .u8 58, .int .u8 42, .int .u8 50, .int .u8 38, .int .u8 29, .int .u8 17, .int .u8 4, .int .u8 62, .int .u8 47, .int .u8 59, .int .u8 36, .int .u8 45, .int .u8 43, .int .u8 51, .int .u8 22, .int .u8 53, .int .u8 39, .int .u8 33, .int .u8 30, .int .u8 24, .int .u8 18, .int .u8 12, .int .u8 5, .int .u8 63, .int .u8 55, .int .u8 48, .int .u8 27, .int .u8 60, .int .u8 41, .int .u8 37, .int .u8 16, .int .u8 46, .int .u8 35, .int .u8 44, .int .u8 21, .int .u8 52, .int .u8 32, .int .u8 23, .int .u8 11, .int .u8 54, .int .u8 26, .int .u8 40, .int .u8 15, .int .u8 34, .int .u8 20, .int .u8 31, .int .u8 10, .int .u8 25, .int .u8 14, .int .u8 19, .int .u8 9, .int .u8 13, .int .u8 8, .int .u8 7, .int .u8 6]
noncomputable def laidWorldB (os : Os) : World :=
  { laidWorld os with heap := ((((laidWorld os).heap.modify 4 (fillT pow10C)).modify 8 (fillT bruijn32C)).modify 9 (fillT bruijn64C)) }
end Go.Proofs.YtncnogndopgknaaGreatDoor
namespace Go.Proofs.YtncnogndopgknaaGreatDoor
open Go.RowKit
set_option maxRecDepth 100000
set_option maxHeartbeats 4000000
namespace T
theorem rd_words_t (t : List UInt8) : ∀ (ws : List (List UInt8)) (p : Nat), (∀ w ∈ ws, Pw w) → rd (ws.flatMap (32 :: ·) ++ 32 :: 35 :: t) p = .inr (wdsAt ws p)
  | [], p, _ => by
    rw [List.flatMap_nil, List.nil_append, rd_gap _ _ (by decide), rd_hash _ _ (by decide) (by decide)]
    rfl
  | w :: ws, p, h => by
    have hw := h w (by simp)
    have ih := rd_words_t t ws (p + 1 + w.length) (fun x hx => h x (by simp [hx]))
    have ht : parted (ws.flatMap (32 :: ·) ++ 32 :: 35 :: t) = true := by
      cases ws with
      | nil => rfl
      | cons x xs => rfl
    rw [List.flatMap_cons, List.cons_append, List.cons_append, rd_gap _ _ (by decide), List.append_assoc, rd_word w _ _ hw ht, ih]
    rfl
theorem rd_line_t (n t : List UInt8) (ws : List (List UInt8)) (hn : Pw n) (h : ∀ w ∈ ws, Pw w) : rd (n ++ (ws.flatMap (32 :: ·) ++ 32 :: 35 :: t)) 0 = .inr (⟨n, false, 1⟩ :: wdsAt ws n.length) := by
  have ht : parted (ws.flatMap (32 :: ·) ++ 32 :: 35 :: t) = true := by
    cases ws with
    | nil => rfl
    | cons x xs => rfl
  rw [rd_word n _ 0 hn ht, rd_words_t t ws _ h]
  simp only [Nat.zero_add]
  rfl
end T
def wiI (x lo hi : Int) : Int := lo + (if x.tmod (hi - lo + 1) < 0 then x.tmod (hi - lo + 1) + (hi - lo + 1) else x.tmod (hi - lo + 1))
theorem wiI_r (x hi : Int) (h : 0 ≤ hi) : 0 ≤ wiI x 0 hi ∧ wiI x 0 hi ≤ hi := by
  unfold wiI
  have h1 := Int.tmod_lt_of_pos x (show 0 < hi - 0 + 1 by omega)
  have h2 : -(hi - 0 + 1) < x.tmod (hi - 0 + 1) := by
    have := Int.lt_tmod_of_pos x (show 0 < hi - 0 + 1 by omega)
    exact this
  split <;> omega
structure Pie where
  k : Int
  a : Int
  cd : Int
  tq : Int
  v : Nat
def Pie.kd (p : Pie) : Nat := (wiI p.k 0 4).toNat
def Pie.rg (p : Pie) : Nat := (wiI p.a 0 14).toNat
def Pie.cn (p : Pie) : Nat := (wiI p.cd 0 6).toNat
def Pie.tg (p : Pie) (n : Nat) : Nat := (wiI p.tq 0 n).toNat
def Pie.odd (p : Pie) : Bool := p.a.tmod 2 != 0
theorem Pie.kd_le (p : Pie) : p.kd ≤ 4 := by have := wiI_r p.k 4 (by decide); unfold Pie.kd; omega
theorem Pie.rg_le (p : Pie) : p.rg ≤ 14 := by have := wiI_r p.a 14 (by decide); unfold Pie.rg; omega
theorem Pie.cn_le (p : Pie) : p.cn ≤ 6 := by have := wiI_r p.cd 6 (by decide); unfold Pie.cn; omega
theorem Pie.tg_le (p : Pie) (n : Nat) : p.tg n ≤ n := by have := wiI_r p.tq n (by omega); unfold Pie.tg; omega
namespace S
def nmp (i : Nat) : List UInt8 := 112 :: Lib.decDigits i
theorem nmp_inj {i j : Nat} (h : nmp i = nmp j) : i = j := by
  have := congrArg T.val (List.cons.inj h).2
  rw [T.decDigits_val, T.decDigits_val] at this
  exact this
theorem nmp_good (i : Nat) (h : i ≤ 300) : T.name (nmp i) = true ∧ (nmp i).all T.okb = true ∧ (nmp i).length ≤ 4 ∧ nmp i ≠ [] := by
  have hl := dec_len5 i 2 (by omega)
  unfold nmp
  have hd := T.decDigits_all i
  have hk : (Lib.decDigits i).all T.okc = true := by
    rw [List.all_eq_true] at hd ⊢
    intro c hc
    simp [T.okc, hd c hc]
  refine ⟨?_, ?_, ?_, by simp⟩
  · unfold T.name
    rw [List.all_cons, hk, List.headD_cons, List.length_cons]
    simp only [Bool.and_eq_true, decide_eq_true_eq]
    exact ⟨⟨⟨by omega, by omega⟩, by decide⟩, by decide⟩
  · rw [List.all_cons, T.dec_ok]; decide
  · rw [List.length_cons]; omega
def bN : List UInt8 := [98]
def blN : List UInt8 := [98, 108]
def sw (p : Pie) (n : Nat) : List UInt8 × List (List UInt8) :=
  if p.kd = 0 then (wordN, [T.hexed8 p.v]) else if p.kd = 1 then (liN, [114 :: Lib.decDigits p.rg, Lib.decDigits p.v])
  else if p.kd = 2 then (if p.odd then (blN, [nmp (p.tg n)]) else (bN, [condT.getD p.cn [], nmp (p.tg n)]))
  else if p.kd = 3 then (wordN, [nmp (p.tg n)]) else (zeroN, [Lib.decDigits (p.v % 4)])
def szp (p : Pie) : Nat := if p.kd = 1 then 2 else if p.kd = 4 then p.v % 4 else 1
def txtP (p : Pie) (n : Nat) : List UInt8 := (sw p n).1 ++ (sw p n).2.flatMap (32 :: ·)
def lineP (p : Pie) (n i : Nat) : List UInt8 := nmp i ++ [58, 32] ++ txtP p n ++ [32, 35, 32] ++ nmp i
def fw (p : Pie) (n base : Nat) (plc : Nat → Nat) (q : Nat) : List Nat :=
  if p.kd = 0 then [p.v] else if p.kd = 1 then [half 1 p.rg (p.v % 65536), half 2 p.rg (p.v / 65536)]
  else if p.kd = 2 then [(enc ⟨if p.odd then 22 else 21, if p.odd then 0 else p.cn, 0, 0, 0, (plc (p.tg n) : Int) - q - 1⟩).toNat]
  else if p.kd = 3 then [(base + 4 * plc (p.tg n)) % 4294967296] else List.replicate (p.v % 4) 0
theorem fw_len (p : Pie) (n base : Nat) (plc : Nat → Nat) (q : Nat) : (fw p n base plc q).length = szp p := by
  have := p.kd_le
  unfold fw szp
  by_cases h0 : p.kd = 0
  · rw [if_pos h0, if_neg (show ¬ p.kd = 1 by omega), if_neg (show ¬ p.kd = 4 by omega)]; rfl
  · rw [if_neg h0]
    by_cases h1 : p.kd = 1
    · rw [if_pos h1, if_pos h1]; rfl
    · rw [if_neg h1, if_neg h1]
      by_cases h2 : p.kd = 2
      · rw [if_pos h2, if_neg (show ¬ p.kd = 4 by omega)]; rfl
      · rw [if_neg h2]
        by_cases h3 : p.kd = 3
        · rw [if_pos h3, if_neg (show ¬ p.kd = 4 by omega)]; rfl
        · rw [if_neg h3, if_pos (show p.kd = 4 by omega), List.length_replicate]
theorem szp_le (p : Pie) : szp p ≤ 3 := by unfold szp; split <;> (try split) <;> omega
structure FixP (t : Lt) (lb : List UInt8) (l : Nat) (f : Nat → Nat) : Prop where
  lab : (t.ops.getD t.at' ⟨0, [], 0⟩).lab = lb
  ltr : (t.k.shape.map (·.toNat)).getD t.at' 0 = l
  wd : ∀ v, words t.k (t.ops.set t.at' { t.ops.getD t.at' ⟨0, [], 0⟩ with val := v }) = [f v]
theorem rdA (r col : Nat) (h : r ≤ 14) : readOperand 97 ⟨114 :: Lib.decDigits r, false, col⟩ = some ⟨r, [], 0⟩ := by
  have h1 := register_dec (r : Int) (by omega) (by omega)
  rw [Int.toNat_natCast] at h1
  unfold readOperand
  simp only [Bool.false_eq_true, if_false, readNumber, Nat.reduceEqDiff, or_self, false_and, true_or, if_true]
  rw [h1]
  rfl
theorem rdX (s : List UInt8) (v col : Nat) (h1 : T.name s = false) (h2 : T.number s = some v) (hv : v < 4294967296) : readOperand 120 ⟨s, false, col⟩ = some ⟨v, [], 0⟩ := by
  unfold readOperand
  simp only [Bool.false_eq_true, if_false, h1, and_false]
  unfold readNumber upTo
  rw [h2]
  simp only [Nat.reduceEqDiff, or_self, if_false]
  rw [if_pos (by omega)]
  rfl
theorem rdN (s : List UInt8) (v col : Nat) (h2 : T.number s = some v) (hv : v ≤ 2048) : readOperand 110 ⟨s, false, col⟩ = some ⟨v, [], 0⟩ := by
  unfold readOperand
  simp only [Bool.false_eq_true, if_false, Nat.reduceEqDiff, or_self, false_and]
  unfold readNumber upTo
  rw [h2]
  simp only [Nat.reduceEqDiff, or_self, if_false, if_true]
  rw [if_pos hv]
  rfl
theorem rdK (c col : Nat) (h : c < 7) : readOperand 107 ⟨condT.getD c [], false, col⟩ = some ⟨c, [], 0⟩ := by
  unfold readOperand
  simp only [Bool.false_eq_true, if_false, Nat.reduceEqDiff, or_self, false_and]
  unfold readNumber
  rw [cond_all c h]
  rfl
theorem rdL (l : Nat) (hl : l = 111 ∨ l = 120) (s : List UInt8) (h1 : T.name s = true) (col : Nat) : readOperand l ⟨s, false, col⟩ = some ⟨0, s, col⟩ := by
  unfold readOperand
  simp only [Bool.false_eq_true, if_false]
  rw [if_pos ⟨hl, h1⟩]
theorem lay_k (line : Nat) (st : St) (nm : List UInt8) (k : Kd) (col : Nat) (rest : List T.Wd) (os : List Opn) (hk : kindOf nm = some k) (hd : Lib.hasSuffix nm [58] = false) (h1 : st.ws.length + k.least ≤ 2048) (hr : rdOps col (k.shape.map (·.toNat)) rest = .inr os) (h2 : st.ws.length + (words k os).length ≤ 2048) :
    lay line st (⟨nm, false, col⟩ :: rest) = .inr ⟨st.ws ++ words k os, st.labs, st.lat ++ lats k os st.ws.length line⟩ := by
  have hdf : isDef ⟨nm, false, col⟩ = false := by unfold isDef; rw [hd]; rfl
  unfold lay
  rw [hdf]
  simp only [Bool.false_eq_true, if_false]
  unfold stmt
  simp only [hk, Bool.false_eq_true, if_false, hr]
  rw [if_neg (by omega), if_neg (by omega)]
theorem sw_pw (p : Pie) (n : Nat) (hn : n ≤ 300) : T.Pw (sw p n).1 ∧ ∀ w ∈ (sw p n).2, T.Pw w := by
  have ht := nmp_good (p.tg n) (by have := p.tg_le n; omega)
  have hx := hexed_okb p.v
  have hdk : ∀ u, T.Pw (Lib.decDigits u) := fun u => T.pw_of (T.decDigits_ne u) (T.dec_ok u)
  have hc := cond_okb p.cn (by have := p.cn_le; omega)
  unfold sw
  split
  · exact ⟨(show T.Pw wordN from T.pw_of (by decide) (by decide)), fun w hw => by rw [List.mem_singleton] at hw; subst hw; exact T.pw_of hx.2.1 hx.1⟩
  · split
    · refine ⟨(show T.Pw liN from T.pw_of (by decide) (by decide)), fun w hw => ?_⟩
      simp only [List.mem_cons, List.not_mem_nil, or_false] at hw
      rcases hw with rfl | rfl
      · exact T.pw_of (by simp) (by rw [List.all_cons, T.dec_ok]; decide)
      · exact hdk _
    · split
      · split
        · exact ⟨(show T.Pw blN from T.pw_of (by decide) (by decide)), fun w hw => by rw [List.mem_singleton] at hw; subst hw; exact T.pw_of ht.2.2.2 ht.2.1⟩
        · refine ⟨(show T.Pw bN from T.pw_of (by decide) (by decide)), fun w hw => ?_⟩
          simp only [List.mem_cons, List.not_mem_nil, or_false] at hw
          rcases hw with rfl | rfl
          · exact T.pw_of hc.2.1 hc.1
          · exact T.pw_of ht.2.2.2 ht.2.1
      · split
        · exact ⟨(show T.Pw wordN from T.pw_of (by decide) (by decide)), fun w hw => by rw [List.mem_singleton] at hw; subst hw; exact T.pw_of ht.2.2.2 ht.2.1⟩
        · exact ⟨(show T.Pw zeroN from T.pw_of (by decide) (by decide)), fun w hw => by rw [List.mem_singleton] at hw; subst hw; exact hdk _⟩
theorem lay_piece (line : Nat) (st : St) (p : Pie) (n : Nat) (hn : n ≤ 300) (hv : p.v < 4294967296) (room : st.ws.length ≤ 2000) (q : Nat) :
    ∃ W0 L, lay line st (T.wdsAt ((sw p n).1 :: (sw p n).2) q) = .inr ⟨st.ws ++ W0, st.labs, st.lat ++ L⟩ ∧ W0.length = szp p ∧
      ((L = [] ∧ ∀ (base : Nat) (plc : Nat → Nat) (q : Nat), fw p n base plc q = W0) ∨ ∃ t l f, L = [t] ∧ t.place = st.ws.length ∧ FixP t (nmp (p.tg n)) l f ∧ ((l = 111 ∧ ∀ (base : Nat) (plc : Nat → Nat) (q : Nat) (d : Int), d = (plc (p.tg n) : Int) - q - 1 → -32768 ≤ d → d ≤ 32767 → fw p n base plc q = [f (u32 d)]) ∨ (l = 120 ∧ ∀ (base : Nat) (plc : Nat → Nat) (q : Nat), fw p n base plc q = [f ((base + 4 * plc (p.tg n)) % 4294967296)]))) := by
  have hkd := p.kd_le
  have htg := p.tg_le n
  have ht := nmp_good (p.tg n) (by omega)
  have hrg := p.rg_le
  have hcn := p.cn_le
  unfold sw szp
  by_cases h0 : p.kd = 0
  · have hr : rdOps (q + 2) [120] (T.wdsAt [T.hexed8 p.v] (q + 1 + wordN.length)) = .inr [⟨p.v, [], 0⟩] := by
      rw [T.wdsAt, rdOps, rdX _ p.v _ (hexed_okb p.v).2.2 (T.number_hex p.v hv) hv]
      rfl
    have hw : words ⟨wordN, [120], 1, 0⟩ [⟨p.v, [], 0⟩] = [p.v] := by unfold words; rw [if_pos rfl]; rfl
    refine ⟨[p.v], [], ?_, by rw [if_neg (show ¬ p.kd = 1 by omega), if_neg (show ¬ p.kd = 4 by omega)]; rfl, .inl ⟨rfl, fun base plc q => by unfold fw; rw [if_pos h0]⟩⟩
    rw [if_pos h0]
    have := lay_k line st wordN ⟨wordN, [120], 1, 0⟩ (q + 2) _ _ (by decide) (by decide) (by show st.ws.length + 1 ≤ 2048; omega) hr (by rw [hw]; simp; omega)
    rw [hw, lats_none _ _ _ _ (by simp)] at this
    exact this
  · simp only [if_neg h0]
    by_cases h1 : p.kd = 1
    · have hr : rdOps (q + 2) [97, 120] (T.wdsAt [114 :: Lib.decDigits p.rg, Lib.decDigits p.v] (q + 1 + liN.length)) = .inr [⟨p.rg, [], 0⟩, ⟨p.v, [], 0⟩] := by
        rw [T.wdsAt, T.wdsAt, rdOps, rdA _ _ hrg]
        simp only
        rw [rdOps, rdX _ p.v _ (by have := T.dec_name p.v []; simpa using this) (T.number_dec p.v (by omega)) hv]
        rfl
      have hw : words ⟨liN, [97, 120], 2, 0⟩ [⟨p.rg, [], 0⟩, ⟨p.v, [], 0⟩] = [half 1 p.rg (p.v % 65536), half 2 p.rg (p.v / 65536)] := by
        unfold words
        rw [if_neg (show (liN : List UInt8) ≠ wordN by decide), if_pos rfl]
        rfl
      refine ⟨[half 1 p.rg (p.v % 65536), half 2 p.rg (p.v / 65536)], [], ?_, by rw [if_pos h1]; rfl, .inl ⟨rfl, fun base plc q => by unfold fw; rw [if_neg h0, if_pos h1]⟩⟩
      rw [if_pos h1]
      have := lay_k line st liN ⟨liN, [97, 120], 2, 0⟩ (q + 2) _ _ (by decide) (by decide) (by show st.ws.length + 2 ≤ 2048; omega) hr (by rw [hw]; simp; omega)
      rw [hw, lats_none _ _ _ _ (by simp)] at this
      exact this
    · simp only [if_neg h1]
      by_cases h2 : p.kd = 2
      · simp only [if_pos h2]
        by_cases ho : p.odd = true
        · simp only [if_pos ho]
          have hr : rdOps (q + 2) [111] (T.wdsAt [nmp (p.tg n)] (q + 1 + blN.length)) = .inr [⟨0, nmp (p.tg n), q + 1 + blN.length + 2⟩] := by
            rw [T.wdsAt, rdOps, rdL 111 (.inl rfl) _ ht.1]
            rfl
          generalize q + 1 + blN.length + 2 = col at hr
          have hk : kindOf blN = some ⟨blN, [111], 1, 22⟩ := by decide +kernel
          have hw : ∀ v, words ⟨blN, [111], 1, 22⟩ [⟨v, nmp (p.tg n), col⟩] = [(enc ⟨22, 0, 0, 0, 0, i32 v⟩).toNat] := fun v => by
            unfold words
            rw [if_neg (by show blN ≠ wordN; decide), if_neg (by show blN ≠ liN; decide), if_neg (by show blN ≠ zeroN; decide)]
            rfl
          have hla : lats ⟨blN, [111], 1, 22⟩ [⟨0, nmp (p.tg n), col⟩] st.ws.length line = [⟨⟨blN, [111], 1, 22⟩, [⟨0, nmp (p.tg n), col⟩], 0, st.ws.length, line⟩] := by
            simp [lats, List.range_succ, ht.2.2.2]
          have := lay_k line st blN ⟨blN, [111], 1, 22⟩ (q + 2) _ _ hk (by decide) (by show st.ws.length + 1 ≤ 2048; omega) hr (by rw [hw]; simp; omega)
          rw [hw, hla] at this
          refine ⟨_, _, this, by rw [if_neg (show ¬ p.kd = 4 by omega)]; rfl, .inr ⟨_, 111, fun v => (enc ⟨22, 0, 0, 0, 0, i32 v⟩).toNat, rfl, rfl, ⟨rfl, rfl, fun v => hw v⟩, .inl ⟨rfl, fun base plc q d hd d0 d1 => ?_⟩⟩⟩
          unfold fw
          rw [if_neg h0, if_neg h1, if_pos h2]
          simp only [if_pos ho]
          rw [i32_u32 d (by omega) (by omega), hd]
        · simp only [if_neg ho]
          have hr : rdOps (q + 2) [107, 111] (T.wdsAt [condT.getD p.cn [], nmp (p.tg n)] (q + 1 + bN.length)) = .inr [⟨p.cn, [], 0⟩, ⟨0, nmp (p.tg n), q + 1 + bN.length + 1 + (condT.getD p.cn []).length + 2⟩] := by
            rw [T.wdsAt, T.wdsAt, rdOps, rdK _ _ (by omega)]
            simp only
            rw [rdOps, rdL 111 (.inl rfl) _ ht.1]
            rfl
          generalize q + 1 + bN.length + 1 + (condT.getD p.cn []).length + 2 = col at hr
          have hk : kindOf bN = some ⟨bN, [107, 111], 1, 21⟩ := by decide +kernel
          have hw : ∀ v, words ⟨bN, [107, 111], 1, 21⟩ [⟨p.cn, [], 0⟩, ⟨v, nmp (p.tg n), col⟩] = [(enc ⟨21, p.cn, 0, 0, 0, i32 v⟩).toNat] := fun v => by
            unfold words
            rw [if_neg (by show bN ≠ wordN; decide), if_neg (by show bN ≠ liN; decide), if_neg (by show bN ≠ zeroN; decide)]
            rfl
          have hla : lats ⟨bN, [107, 111], 1, 21⟩ [⟨p.cn, [], 0⟩, ⟨0, nmp (p.tg n), col⟩] st.ws.length line = [⟨⟨bN, [107, 111], 1, 21⟩, [⟨p.cn, [], 0⟩, ⟨0, nmp (p.tg n), col⟩], 1, st.ws.length, line⟩] := by
            simp [lats, List.range_succ, ht.2.2.2]
          have := lay_k line st bN ⟨bN, [107, 111], 1, 21⟩ (q + 2) _ _ hk (by decide) (by show st.ws.length + 1 ≤ 2048; omega) hr (by rw [hw]; simp; omega)
          rw [hw, hla] at this
          refine ⟨_, _, this, by rw [if_neg (show ¬ p.kd = 4 by omega)]; rfl, .inr ⟨_, 111, fun v => (enc ⟨21, p.cn, 0, 0, 0, i32 v⟩).toNat, rfl, rfl, ⟨rfl, rfl, fun v => hw v⟩, .inl ⟨rfl, fun base plc q d hd d0 d1 => ?_⟩⟩⟩
          unfold fw
          rw [if_neg h0, if_neg h1, if_pos h2]
          simp only [if_neg ho]
          rw [i32_u32 d (by omega) (by omega), hd]
      · simp only [if_neg h2]
        by_cases h3 : p.kd = 3
        · simp only [if_pos h3]
          have hr : rdOps (q + 2) [120] (T.wdsAt [nmp (p.tg n)] (q + 1 + wordN.length)) = .inr [⟨0, nmp (p.tg n), q + 1 + wordN.length + 2⟩] := by
            rw [T.wdsAt, rdOps, rdL 120 (.inr rfl) _ ht.1]
            rfl
          generalize q + 1 + wordN.length + 2 = col at hr
          have hw : ∀ v, words ⟨wordN, [120], 1, 0⟩ [⟨v, nmp (p.tg n), col⟩] = [v] := fun v => by unfold words; rw [if_pos rfl]; rfl
          have hla : lats ⟨wordN, [120], 1, 0⟩ [⟨0, nmp (p.tg n), col⟩] st.ws.length line = [⟨⟨wordN, [120], 1, 0⟩, [⟨0, nmp (p.tg n), col⟩], 0, st.ws.length, line⟩] := by
            simp [lats, List.range_succ, ht.2.2.2]
          have := lay_k line st wordN ⟨wordN, [120], 1, 0⟩ (q + 2) _ _ (by decide) (by decide) (by show st.ws.length + 1 ≤ 2048; omega) hr (by rw [hw]; simp; omega)
          rw [hw, hla] at this
          refine ⟨_, _, this, by rw [if_neg (show ¬ p.kd = 4 by omega)]; rfl, .inr ⟨_, 120, fun v => v, rfl, rfl, ⟨rfl, rfl, fun v => hw v⟩, .inr ⟨rfl, fun base plc q => ?_⟩⟩⟩
          unfold fw
          rw [if_neg h0, if_neg h1, if_neg h2, if_pos h3]
        · have h4 : p.kd = 4 := by omega
          simp only [if_neg h3, if_pos h4]
          have hr : rdOps (q + 2) [110] (T.wdsAt [Lib.decDigits (p.v % 4)] (q + 1 + zeroN.length)) = .inr [⟨p.v % 4, [], 0⟩] := by
            rw [T.wdsAt, rdOps, rdN _ (p.v % 4) _ (T.number_dec _ (by omega)) (by omega)]
            rfl
          have hw : words ⟨zeroN, [110], 0, 0⟩ [⟨p.v % 4, [], 0⟩] = List.replicate (p.v % 4) 0 := by
            unfold words
            rw [if_neg (show zeroN ≠ wordN by decide), if_neg (show zeroN ≠ liN by decide), if_pos rfl]
            rfl
          refine ⟨List.replicate (p.v % 4) 0, [], ?_, by rw [List.length_replicate], .inl ⟨rfl, fun base plc q => by unfold fw; rw [if_neg h0, if_neg h1, if_neg h2, if_neg h3]⟩⟩
          have := lay_k line st zeroN ⟨zeroN, [110], 0, 0⟩ (q + 2) _ _ (by decide) (by decide) (by show st.ws.length + 0 ≤ 2048; omega) hr (by rw [hw, List.length_replicate]; omega)
          rw [hw, lats_none _ _ _ _ (by simp)] at this
          exact this
end S
end Go.Proofs.YtncnogndopgknaaGreatDoor
namespace Go.Proofs.YtncnogndopgknaaGreatDoor
open Go.RowKit
set_option maxRecDepth 100000
set_option maxHeartbeats 4000000
namespace S
def p0 : Pie := ⟨0, 0, 0, 0, 0⟩
def plc (ps : List Pie) : Nat → Nat
  | 0 => 0
  | i + 1 => plc ps i + szp (ps.getD i p0)
theorem plc_le (ps : List Pie) : ∀ i, plc ps i ≤ 3 * i
  | 0 => Nat.le_refl _
  | i + 1 => by have := plc_le ps i; have := szp_le (ps.getD i p0); unfold plc; omega
theorem plc_mono (ps : List Pie) (i : Nat) : ∀ k, plc ps i ≤ plc ps (i + k)
  | 0 => Nat.le_refl _
  | k + 1 => by have := plc_mono ps i k; show _ ≤ plc ps (i + k) + _; omega
def FW (ps : List Pie) (base : Nat) : Nat → List Nat
  | 0 => []
  | k + 1 => FW ps base k ++ fw (ps.getD k p0) ps.length base (plc ps) (plc ps k)
theorem FW_len (ps : List Pie) (base : Nat) : ∀ k, (FW ps base k).length = plc ps k
  | 0 => rfl
  | k + 1 => by rw [FW, List.length_append, FW_len ps base k, fw_len]; rfl
theorem FW_pre (ps : List Pie) (base k : Nat) : ∀ m, ∃ r, FW ps base (k + m) = FW ps base k ++ r
  | 0 => ⟨[], by simp⟩
  | m + 1 => by
    obtain ⟨r, h⟩ := FW_pre ps base k m
    exact ⟨r ++ fw (ps.getD (k + m) p0) ps.length base (plc ps) (plc ps (k + m)), by rw [← Nat.add_assoc, FW, h, List.append_assoc]⟩
theorem FW_get (ps : List Pie) (base k n j : Nat) (hk : k < n) (hj : j < szp (ps.getD k p0)) : (FW ps base n).getD (plc ps k + j) 0 = (fw (ps.getD k p0) ps.length base (plc ps) (plc ps k)).getD j 0 := by
  obtain ⟨r, hr⟩ := FW_pre ps base (k + 1) (n - (k + 1))
  rw [show k + 1 + (n - (k + 1)) = n by omega] at hr
  have hz := fw_len (ps.getD k p0) ps.length base (plc ps) (plc ps k)
  rw [hr, FW, List.append_assoc]
  generalize fw (ps.getD k p0) ps.length base (plc ps) (plc ps k) = z at hz ⊢
  rw [List.getD_eq_getElem?_getD, List.getD_eq_getElem?_getD, List.getElem?_append_right (by rw [FW_len]; omega), FW_len, show plc ps k + j - plc ps k = j by omega, List.getElem?_append_left (by rw [hz]; exact hj)]
def LB (ps : List Pie) : Nat → List (List UInt8 × Nat)
  | 0 => []
  | k + 1 => LB ps k ++ [(nmp k, plc ps k)]
theorem LB_len (ps : List Pie) : ∀ k, (LB ps k).length = k
  | 0 => rfl
  | k + 1 => by rw [LB, List.length_append, LB_len ps k]; rfl
theorem LB_get (ps : List Pie) (i : Nat) : ∀ k, i < k → (LB ps k)[i]? = some (nmp i, plc ps i)
  | k + 1, h => by
    rw [LB]
    by_cases h1 : i < k
    · rw [List.getElem?_append_left (by rw [LB_len]; exact h1), LB_get ps i k h1]
    · rw [show i = k by omega, List.getElem?_append_right (by rw [LB_len]; exact Nat.le_refl _), LB_len]
      simp
theorem look_LB (ps : List Pie) (t : Nat) : ∀ k, look (LB ps k) (nmp t) = if t < k then some (plc ps t) else none
  | 0 => rfl
  | k + 1 => by
    rw [LB, look_append, look_LB ps t k]
    by_cases h1 : t < k
    · rw [if_pos h1]
      simp only
      rw [if_pos (show t < k + 1 by omega)]
    · rw [if_neg h1]
      simp only
      by_cases h2 : t = k
      · subst h2
        rw [if_pos (by omega)]
        unfold look
        simp
      · rw [if_neg (show ¬ t < k + 1 by omega)]
        unfold look
        have : (nmp k == nmp t) = false := by
          rw [beq_eq_false_iff_ne]
          exact fun e => h2 (nmp_inj e).symm
        simp [this]
theorem sw_ok (p : Pie) (n : Nat) (hn : n ≤ 300) (hv : p.v < 4294967296) : (sw p n).1.all T.okb = true ∧ (∀ w ∈ (sw p n).2, w.all T.okb = true) ∧ (txtP p n).length ≤ 17 := by
  have ht := nmp_good (p.tg n) (by have := p.tg_le n; omega)
  have hx := hexed_okb p.v
  have hc := cond_okb p.cn (by have := p.cn_le; omega)
  have hr := dec_len5 p.rg 1 (by have := p.rg_le; omega)
  have hd := dec_len5 p.v 9 (by omega)
  have h3 := dec_len5 (p.v % 4) 0 (by omega)
  unfold txtP sw
  split
  · refine ⟨(show wordN.all T.okb = true by decide), fun w hw => by rw [List.mem_singleton] at hw; subst hw; exact hx.1, ?_⟩
    simp [wordN, T.hexed8_length]
  · split
    · refine ⟨(show liN.all T.okb = true by decide), fun w hw => ?_, ?_⟩
      · simp only [List.mem_cons, List.not_mem_nil, or_false] at hw
        rcases hw with rfl | rfl
        · rw [List.all_cons, T.dec_ok]; decide
        · exact T.dec_ok _
      · simp only [liN, List.flatMap_cons, List.flatMap_nil, List.length_append, List.length_cons, List.length_nil]
        omega
    · split
      · split
        · refine ⟨(show blN.all T.okb = true by decide), fun w hw => by rw [List.mem_singleton] at hw; subst hw; exact ht.2.1, ?_⟩
          simp only [blN, List.flatMap_cons, List.flatMap_nil, List.length_append, List.length_cons, List.length_nil]
          omega
        · refine ⟨(show bN.all T.okb = true by decide), fun w hw => ?_, ?_⟩
          · simp only [List.mem_cons, List.not_mem_nil, or_false] at hw
            rcases hw with rfl | rfl
            · exact hc.1
            · exact ht.2.1
          · simp only [bN, List.flatMap_cons, List.flatMap_nil, List.length_append, List.length_cons, List.length_nil]
            omega
      · split
        · refine ⟨(show wordN.all T.okb = true by decide), fun w hw => by rw [List.mem_singleton] at hw; subst hw; exact ht.2.1, ?_⟩
          simp only [wordN, List.flatMap_cons, List.flatMap_nil, List.length_append, List.length_cons, List.length_nil]
          omega
        · refine ⟨(show zeroN.all T.okb = true by decide), fun w hw => by rw [List.mem_singleton] at hw; subst hw; exact T.dec_ok _, ?_⟩
          simp only [zeroN, List.flatMap_cons, List.flatMap_nil, List.length_append, List.length_cons, List.length_nil]
          omega
def SR (ps : List Pie) : Nat → List UInt8
  | 0 => []
  | k + 1 => SR ps k ++ lineP (ps.getD k p0) ps.length k ++ [10]
def src (ps : List Pie) : List UInt8 := SR ps ps.length ++ [9] ++ nmp ps.length ++ [58, 10]
theorem SR_rows (ps : List Pie) : ∀ k, SR ps k = ((List.range k).map fun i => lineP (ps.getD i p0) ps.length i).flatMap (· ++ [10])
  | 0 => rfl
  | k + 1 => by
    rw [SR, SR_rows ps k, List.range_succ, List.map_append, List.flatMap_append]
    simp
structure PsOk (ps : List Pie) : Prop where
  len : ps.length ≤ 300
  v : ∀ i, (ps.getD i p0).v < 4294967296
theorem line_ok {ps : List Pie} (h : PsOk ps) (i : Nat) (hi : i ≤ 300) : (∀ c ∈ lineP (ps.getD i p0) ps.length i, c ≠ 10) ∧ (lineP (ps.getD i p0) ps.length i).length ≤ 30 := by
  have hg := nmp_good i hi
  have hs := sw_ok (ps.getD i p0) ps.length h.len (h.v i)
  refine ⟨fun c hc => ?_, ?_⟩
  · unfold lineP txtP at hc
    simp only [List.mem_append, List.mem_cons, List.not_mem_nil, or_false, List.mem_flatMap] at hc
    rcases hc with (((h1 | rfl | rfl) | h1 | ⟨l, hl, rfl | h1⟩) | rfl | rfl | rfl) | h1
    · exact okb_no10 hg.2.1 c h1
    · decide
    · decide
    · exact okb_no10 hs.1 c h1
    · decide
    · exact okb_no10 (hs.2.1 l hl) c h1
    · decide
    · decide
    · decide
    · exact okb_no10 hg.2.1 c h1
  · unfold lineP
    simp only [List.length_append, List.length_cons, List.length_nil]
    omega
theorem SR_len {ps : List Pie} (h : PsOk ps) : ∀ k, k ≤ 300 → (SR ps k).length ≤ 31 * k
  | 0, _ => Nat.le_refl _
  | k + 1, hk => by
    have := SR_len h k (by omega)
    have := (line_ok h k (by omega)).2
    rw [SR, List.length_append, List.length_append, List.length_singleton]
    omega
theorem src_len {ps : List Pie} (h : PsOk ps) : (src ps).length ≤ 65536 := by
  have := SR_len h ps.length h.len
  have := (nmp_good ps.length h.len).2.2.1
  have := h.len
  unfold src
  simp only [List.length_append, List.length_cons, List.length_nil]
  omega
theorem label_line2 (n : Nat) (st : St) (nm : List UInt8) (col : Nat) (rest : List T.Wd) (h1 : T.name nm = true) (h2 : has st.labs nm = false) : lay n st (⟨nm ++ [58], false, col⟩ :: rest) = lay n { st with labs := st.labs ++ [(nm, st.ws.length)] } rest := by
  have hs : Lib.hasSuffix (nm ++ [58]) [58] = true := by unfold Lib.hasSuffix; simp
  have ht : Lib.trimSuffix (nm ++ [58]) [58] = nm := by unfold Lib.trimSuffix; rw [hs]; simp
  have hd : isDef ⟨nm ++ [58], false, col⟩ = true := by unfold isDef; rw [hs]; rfl
  rw [lay, hd]
  simp only [if_true, ht, h1, h2, Bool.false_eq_true, if_false]
structure Rp (ps : List Pie) (base k : Nat) (st : St) : Prop where
  len : st.ws.length = plc ps k
  labs : st.labs = LB ps k
  lat : ∀ t ∈ st.lat, t.place < plc ps k ∧ ∃ g l f v, g ≤ ps.length ∧ FixP t (nmp g) l f ∧ meaning base l (plc ps g) t.place = some v ∧ f v = (FW ps base ps.length).getD t.place 0
  cur : ∀ q, q < plc ps k → st.ws.getD q 0 = (FW ps base ps.length).getD q 0 ∨ ∃ t ∈ st.lat, t.place = q
theorem piece_step {ps : List Pie} (h : PsOk ps) (base k : Nat) (hk : k < ps.length) (st : St) (hr : Rp ps base k st) (n : Nat) (rest : List (List UInt8)) :
    ∃ st', Rp ps base (k + 1) st' ∧ lines st n (lineP (ps.getD k p0) ps.length k :: rest) = lines st' (n + 1) rest := by
  have hn := h.len
  have hg := nmp_good k (by omega)
  have hpl := plc_le ps k
  have htg := (ps.getD k p0).tg_le ps.length
  have hpg := plc_le ps ((ps.getD k p0).tg ps.length)
  have hs := sw_pw (ps.getD k p0) ps.length hn
  have hrd : T.rd (lineP (ps.getD k p0) ps.length k) 0 = .inr (⟨nmp k ++ [58], false, 1⟩ :: T.wdsAt ((sw (ps.getD k p0) ps.length).1 :: (sw (ps.getD k p0) ps.length).2) (nmp k ++ [58]).length) := by
    have := T.rd_line_t (nmp k ++ [58]) (32 :: nmp k) ((sw (ps.getD k p0) ps.length).1 :: (sw (ps.getD k p0) ps.length).2) (T.pw_of (by simp) (by rw [List.all_append, hg.2.1]; decide)) (fun w hw => by
      rcases List.mem_cons.1 hw with rfl | hw
      · exact hs.1
      · exact hs.2 w hw)
    rw [← this]
    unfold lineP txtP
    simp
  have hh : has st.labs (nmp k) = false := by
    rw [has_look, hr.labs, look_LB, if_neg (Nat.lt_irrefl _)]
    rfl
  obtain ⟨W0, L, h1, h2, h3⟩ := lay_piece (n + 1) { st with labs := st.labs ++ [(nmp k, st.ws.length)] } (ps.getD k p0) ps.length hn (h.v k) (by show st.ws.length ≤ 2000; rw [hr.len]; omega) (nmp k ++ [58]).length
  have hfit : ∀ j, j < szp (ps.getD k p0) → (FW ps base ps.length).getD (plc ps k + j) 0 = (fw (ps.getD k p0) ps.length base (plc ps) (plc ps k)).getD j 0 := fun j hj => FW_get ps base k ps.length j hk hj
  refine ⟨⟨st.ws ++ W0, LB ps (k + 1), st.lat ++ L⟩, ⟨?_, rfl, ?_, ?_⟩, ?_⟩
  · show (st.ws ++ W0).length = _
    rw [List.length_append, hr.len, h2]; rfl
  · intro t ht
    show t.place < plc ps k + szp _ ∧ _
    rcases List.mem_append.1 ht with ht | ht
    · obtain ⟨a, b⟩ := hr.lat t ht
      exact ⟨by omega, b⟩
    · rcases h3 with ⟨rfl, _⟩ | ⟨t', l, f, rfl, hp, hf, hl⟩
      · cases ht
      · rw [List.mem_singleton] at ht
        subst ht
        have hp' : t.place = plc ps k := hp.trans hr.len
        have hone : ∀ x, fw (ps.getD k p0) ps.length base (plc ps) (plc ps k) = [x] → szp (ps.getD k p0) = 1 ∧ (FW ps base ps.length).getD t.place 0 = x := fun x hx => by
          have e1 : szp (ps.getD k p0) = 1 := by rw [← fw_len (ps.getD k p0) ps.length base (plc ps) (plc ps k), hx]; rfl
          refine ⟨e1, ?_⟩
          have := hfit 0 (by omega)
          rw [Nat.add_zero, hx] at this
          rw [hp', this]; rfl
        rcases hl with ⟨rfl, hl⟩ | ⟨rfl, hl⟩
        · have hx := hl base (plc ps) (plc ps k) _ rfl (by omega) (by omega)
          obtain ⟨e1, e2⟩ := hone _ hx
          refine ⟨by omega, (ps.getD k p0).tg ps.length, 111, f, _, htg, hf, ?_, e2.symm⟩
          unfold meaning
          rw [if_pos rfl, hp', if_neg (by omega)]
        · have hx := hl base (plc ps) (plc ps k)
          obtain ⟨e1, e2⟩ := hone _ hx
          refine ⟨by omega, (ps.getD k p0).tg ps.length, 120, f, _, htg, hf, ?_, e2.symm⟩
          unfold meaning
          rw [if_neg (by decide)]
  · intro q hq
    show (st.ws ++ W0).getD q 0 = _ ∨ _
    have hq' : q < plc ps k + szp (ps.getD k p0) := hq
    by_cases h5 : q < plc ps k
    · rw [show (st.ws ++ W0).getD q 0 = st.ws.getD q 0 by rw [List.getD_eq_getElem?_getD, List.getD_eq_getElem?_getD, List.getElem?_append_left (by rw [hr.len]; exact h5)]]
      exact (hr.cur q h5).imp id fun ⟨t, ht, e⟩ => ⟨t, List.mem_append_left _ ht, e⟩
    · rcases h3 with ⟨rfl, hl⟩ | ⟨t', l, f, rfl, hp, hf, hl⟩
      · refine .inl ?_
        have := hfit (q - plc ps k) (by omega)
        rw [show plc ps k + (q - plc ps k) = q by omega, hl] at this
        rw [this, List.getD_eq_getElem?_getD, List.getElem?_append_right (by rw [hr.len]; omega), hr.len, List.getD_eq_getElem?_getD]
      · have h1 : szp (ps.getD k p0) = 1 := by
          rw [← fw_len (ps.getD k p0) ps.length base (plc ps) (plc ps k)]
          rcases hl with ⟨_, hl⟩ | ⟨_, hl⟩
          · rw [hl base (plc ps) (plc ps k) _ rfl (by omega) (by omega)]; rfl
          · rw [hl]; rfl
        exact .inr ⟨t', by simp, by rw [hp, hr.len]; omega⟩
  · rw [lines_cons2 st n _ rest hrd (st' := ⟨st.ws ++ W0, LB ps (k + 1), st.lat ++ L⟩)]
    rw [label_line2 (n + 1) st (nmp k) 1 _ hg.1 hh, h1]
    show Sum.inr (St.mk _ (st.labs ++ [(nmp k, st.ws.length)]) _) = _
    rw [hr.labs, hr.len]; rfl
theorem pieces_read {ps : List Pie} (h : PsOk ps) (base : Nat) : ∀ k, k ≤ ps.length → ∀ rest, ∃ st, Rp ps base k st ∧ lines ⟨[], [], []⟩ 0 (((List.range k).map fun i => lineP (ps.getD i p0) ps.length i) ++ rest) = lines st k rest
  | 0, _, rest => ⟨⟨[], [], []⟩, ⟨rfl, rfl, by simp, by intro q hq; exact absurd hq (Nat.not_lt_zero _)⟩, rfl⟩
  | k + 1, hk, rest => by
    obtain ⟨st, h1, h2⟩ := pieces_read h base k (by omega) (lineP (ps.getD k p0) ps.length k :: rest)
    obtain ⟨st', h3, h4⟩ := piece_step h base k (by omega) st h1 k rest
    refine ⟨st', h3, ?_⟩
    rw [List.range_succ, List.map_append, List.append_assoc]
    simp only [List.map_cons, List.map_nil, List.singleton_append]
    rw [h2, h4]
theorem fin_gen (base : Nat) (labs : List (List UInt8 × Nat)) (tw : List Nat) : ∀ (ts : List Lt) (cur : List Nat), cur.length = tw.length →
    (∀ t ∈ ts, t.place < tw.length ∧ ∃ nm g l f v, look labs nm = some g ∧ FixP t nm l f ∧ meaning base l g t.place = some v ∧ f v = tw.getD t.place 0) →
    (∀ q, q < tw.length → cur.getD q 0 = tw.getD q 0 ∨ ∃ t ∈ ts, t.place = q) → fin base labs cur ts = .inr tw
  | [], cur, hl, _, hc => by
    have : cur = tw := by
      apply List.ext_getElem hl
      intro q h1 h2
      rcases hc q h2 with h | ⟨t, ht, _⟩
      · rw [List.getD_eq_getElem?_getD, List.getD_eq_getElem?_getD, List.getElem?_eq_getElem h1, List.getElem?_eq_getElem h2] at h
        simpa using h
      · cases ht
    rw [fin, this]
  | t :: ts, cur, hl, hts, hc => by
    obtain ⟨h1, nm, g, l, f, v, h3, h4, h5, h6⟩ := hts t (by simp)
    rw [fin, h4.lab, h3]
    simp only
    rw [h4.ltr, h5]
    simp only
    rw [h4.wd, h6, over_one cur t.place _ (by omega)]
    refine fin_gen base labs tw ts _ (by rw [List.length_set]; exact hl) (fun x hx => hts x (by simp [hx])) (fun q hq => ?_)
    by_cases h7 : q = t.place
    · subst h7
      refine .inl ?_
      rw [List.getD_eq_getElem?_getD, List.getElem?_set_self (by omega)]
      rfl
    · have e0 : (cur.set t.place (tw.getD t.place 0)).getD q 0 = cur.getD q 0 := by
        generalize tw.getD t.place 0 = z
        rw [List.getD_eq_getElem?_getD, List.getD_eq_getElem?_getD, List.getElem?_set_ne (fun e => h7 e.symm)]
      rw [e0]
      rcases hc q hq with h | ⟨x, hx, e⟩
      · exact .inl h
      · rcases List.mem_cons.1 hx with rfl | hx
        · exact absurd e.symm h7
        · exact .inr ⟨x, hx, e⟩
theorem asm_src {ps : List Pie} (h : PsOk ps) (base : Nat) : asm (src ps) base = .inr (FW ps base ps.length, LB ps (ps.length + 1)) := by
  have hlen := src_len h
  have hg := nmp_good ps.length h.len
  have hw : T.Pw (nmp ps.length ++ [58]) := T.pw_of (by simp) (by rw [List.all_append, hg.2.1]; decide)
  obtain ⟨st, h1, h2⟩ := pieces_read h base ps.length (Nat.le_refl _) [9 :: (nmp ps.length ++ [58])]
  have hrd : T.rd (9 :: (nmp ps.length ++ [58])) 0 = .inr [⟨nmp ps.length ++ [58], false, 2⟩] := by
    rw [T.rd_gap _ _ (by decide)]
    have := T.rd_word (nmp ps.length ++ [58]) [] 1 hw rfl
    rw [List.append_nil] at this
    rw [this, T.rd_nil]
    rfl
  have hh : has st.labs (nmp ps.length) = false := by
    rw [has_look, h1.labs, look_LB, if_neg (Nat.lt_irrefl _)]
    rfl
  have hr : read (src ps) = .inr { st with labs := LB ps (ps.length + 1) } := by
    unfold read
    rw [if_neg (by omega)]
    have e0 : src ps = (((List.range ps.length).map fun i => lineP (ps.getD i p0) ps.length i) ++ [9 :: (nmp ps.length ++ [58])]).flatMap (· ++ [10]) := by
      unfold src
      rw [SR_rows, List.flatMap_append]
      simp
    rw [e0, lines_rows, h2, lines_cons2 st _ _ [] hrd (label_line2 _ st _ 2 [] hg.1 hh), lines, h1.labs, h1.len]
    · rfl
    · intro l hl
      rcases List.mem_append.1 hl with hl | hl
      · rw [List.mem_map] at hl
        obtain ⟨i, hi, rfl⟩ := hl
        rw [List.mem_range] at hi
        exact (line_ok h i (by have := h.len; omega)).1
      · rw [List.mem_singleton] at hl
        subst hl
        intro c hc
        rcases List.mem_cons.1 hc with rfl | hc
        · decide
        · exact okb_no10 (by rw [List.all_append, hg.2.1]; decide) c hc
  unfold asm
  rw [hr]
  simp only
  rw [fin_gen base (LB ps (ps.length + 1)) (FW ps base ps.length) st.lat st.ws (by rw [FW_len]; exact h1.len) (fun t ht => ?_) (fun q hq => h1.cur q (by rw [← FW_len ps base]; exact hq))]
  obtain ⟨a, g, l, f, v, b, c, d, e⟩ := h1.lat t ht
  refine ⟨by rw [FW_len]; exact a, nmp g, plc ps g, l, f, v, ?_, c, d, e⟩
  rw [look_LB, if_pos (by omega)]
end S
end Go.Proofs.YtncnogndopgknaaGreatDoor
namespace Go.Proofs.YtncnogndopgknaaGreatDoor
open Go.RowKit
set_option maxRecDepth 40000
set_option maxHeartbeats 2000000
theorem ret_i {x y : Int} (h : x = y) : Ending.returned (.int .i64 x) = Ending.returned (.int .i64 y) := by rw [h]
theorem wi_any (W : World) (x hi : Int) (h0 : 0 ≤ hi) (h1 : hi ≤ 100000) :
    Calls Tryz.prog 17 #[.int .i64 x, .int .i64 0, .int .i64 hi] W fun e W' => e = .returned (.int .i64 (wiI x 0 hi)) ∧ W = W' := by
  have t1 := Int.tmod_lt_of_pos x (show 0 < hi - 0 + 1 by omega)
  have t2 : -(hi - 0 + 1) < x.tmod (hi - 0 + 1) := Int.lt_tmod_of_pos x (show 0 < hi - 0 + 1 by omega)
  have e0 : hi - 0 + 1 = hi + 1 := by omega
  have e : wiI x 0 hi = if x.tmod (hi + 1) < 0 then x.tmod (hi + 1) + (hi + 1) else x.tmod (hi + 1) := by unfold wiI; rw [Int.zero_add, e0]
  rw [e]
  rw [e0] at t1 t2
  clear e e0
  generalize hr : x.tmod (hi + 1) = r at *
  by_cases hn : r < 0
  · rw [if_pos hn]
    go_enter Tryz.func17, Tryz.ntmps17
    go_wp2_with fail
    go_ret
    exact ⟨ret_i (by omega), rfl⟩
  · rw [if_neg hn]
    go_enter Tryz.func17, Tryz.ntmps17
    go_wp2_with fail
    go_ret
    exact ⟨ret_i (by omega), rfl⟩
theorem wi_nat (x : Int) (hi : Nat) (h1 : hi ≤ 100000) (W : World) :
    Calls Tryz.prog 17 #[.int .i64 x, .int .i64 0, .int .i64 (hi : Int)] W fun e W' => e = .returned (.int .i64 (((wiI x 0 hi).toNat : Nat) : Int)) ∧ W = W' := by
  have hr := wiI_r x (hi : Int) (by omega)
  rw [show (((wiI x 0 hi).toNat : Nat) : Int) = wiI x 0 hi by omega]
  exact wi_any W x hi (by omega) (by omega)
theorem pname_any (W : World) (hp : PowTab W) (n : Nat) (hn : n ≤ 1000) : Calls Tryz.prog 12 #[.int .i64 (n : Int)] W fun e w' => e = .returned (.string ⟨(S.nmp n).toArray⟩) ∧ Below W.heap.size W w' := by
  have HT := hid (tens_text n (by omega) W hp)
  have x2 := bapp 112 (Lib.decDigits n)
  have hz := dec_len n (by omega)
  have c1 : (n : Int) ≤ 1000 := by omega
  have HN : Hid (S.nmp n = 112 :: Lib.decDigits n) := hid rfl
  rw [HN.out]
  clear HN
  generalize Lib.decDigits n = t at *
  go_enter Tryz.func12, Tryz.ntmps12
  go_wp2_with (go_at_call 25; refine HT.out.mono ?_; rintro e w1 ⟨rfl, hb1⟩)
  go_ret
  exact ⟨rfl, hb1⟩
end Go.Proofs.YtncnogndopgknaaGreatDoor
