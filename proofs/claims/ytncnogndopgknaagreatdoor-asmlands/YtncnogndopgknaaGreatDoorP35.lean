import Derived.Test.YtncnogndopgknaaGreatDoorP34
import Derived.Test.YtncnogndopgknaaGreatDoorP01
namespace Go.Proofs.YtncnogndopgknaaGreatDoor
open Go.RowKit
set_option maxRecDepth 200000
set_option maxHeartbeats 4000000
def pieC (p : Pie) : List Value := [.int .i64 p.k, .int .i64 p.a, .int .i64 p.cd, .int .i64 p.tq, .int .u32 (p.v : Int)]
def pieV (p : Pie) : Value := .agg (pieC p).toArray
theorem ret_tb {a b : ByteArray} {x y : Int} (h : a.data.toList = b.data.toList) (h2 : x = y) : Ending.returned (.tuple #[.string a, .int .i64 x]) = .returned (.tuple #[.string b, .int .i64 y]) := by
  have : a = b := by cases a; cases b; simp at h; rw [h]
  rw [this, h2]
theorem pline_any (W : World) (hT : TB W) (p : Pie) (hv : p.v < 4294967296) (n : Nat) (hn : n ≤ 300) :
    Calls Tryz.prog 11 #[pieV p, .int .i64 (n : Int)] W fun e w' => e = .returned (.tuple #[.string ⟨(S.txtP p n).toArray⟩, .int .i64 (S.szp p : Int)]) ∧ Below W.heap.size W w' := by
  have HT : Hid (∀ x, Below W.heap.size W x → TB x) := hid (fun x hx => hT.on hx)
  have HTo : Hid (∀ w, Calls Tryz.prog 17 #[.int .i64 p.tq, .int .i64 0, .int .i64 (n : Int)] w fun e W' => e = .returned (.int .i64 ((p.tg n : Nat) : Int)) ∧ w = W') := hid (fun w => wi_nat p.tq n (by omega) w)
  have HA : Hid (∀ w, Calls Tryz.prog 17 #[.int .i64 p.a, .int .i64 0, .int .i64 14] w fun e W' => e = .returned (.int .i64 ((p.rg : Nat) : Int)) ∧ w = W') := hid (fun w => wi_nat p.a 14 (by omega) w)
  have HK : Hid (∀ w, Calls Tryz.prog 17 #[.int .i64 p.k, .int .i64 0, .int .i64 4] w fun e W' => e = .returned (.int .i64 ((p.kd : Nat) : Int)) ∧ w = W') := hid (fun w => wi_nat p.k 4 (by omega) w)
  have HC : Hid (∀ w, Calls Tryz.prog 17 #[.int .i64 p.cd, .int .i64 0, .int .i64 6] w fun e W' => e = .returned (.int .i64 ((p.cn : Nat) : Int)) ∧ w = W') := hid (fun w => wi_nat p.cd 6 (by omega) w)
  have HN : Hid (∀ x, Below W.heap.size W x → Calls Tryz.prog 12 #[.int .i64 ((p.tg n : Nat) : Int)] x fun e w' => e = .returned (.string ⟨(S.nmp (p.tg n)).toArray⟩) ∧ Below x.heap.size x w') := hid (fun x hx => pname_any x (hT.on hx).p (p.tg n) (by have := p.tg_le n; omega))
  have HR : Hid (∀ x, Below W.heap.size W x → Calls Tryz.prog 25 #[.int .u32 ((p.rg : Nat) : Int)] x fun e w' => e = .returned (.string ⟨(Lib.decDigits p.rg).toArray⟩) ∧ Below x.heap.size x w') := hid (fun x hx => tens_text p.rg (by have := p.rg_le; omega) x (hT.on hx).p)
  have HV : Hid (∀ x, Below W.heap.size W x → Calls Tryz.prog 25 #[.int .u32 (p.v : Int)] x fun e w' => e = .returned (.string ⟨(Lib.decDigits p.v).toArray⟩) ∧ Below x.heap.size x w') := hid (fun x hx => tens_text p.v (by have := hv; omega) x (hT.on hx).p)
  have HZ : Hid (∀ x, Below W.heap.size W x → Calls Tryz.prog 25 #[.int .u32 ((p.v % 4 : Nat) : Int)] x fun e w' => e = .returned (.string ⟨(Lib.decDigits (p.v % 4)).toArray⟩) ∧ Below x.heap.size x w') := hid (fun x hx => tens_text (p.v % 4) (by omega) x (hT.on hx).p)
  have HX : Hid (∀ x, Below W.heap.size W x → Calls Tryz.prog 26 #[.int .u32 (p.v : Int)] x fun e w' => e = .returned (.string ⟨(T.hexed8 p.v).toArray⟩) ∧ Below x.heap.size x w') := hid (fun x hx => hexed_text x p.v hv)
  have HCn : Hid (∀ x, Below W.heap.size W x → Calls Tryz.prog 27 #[.int .i64 ((p.cn : Nat) : Int)] x fun e w' => e = .returned (.string ⟨(condT.getD p.cn []).toArray⟩) ∧ x = w') := hid (fun x hx => by
    have h0 := cname_any x (hT.on hx).c ((p.cn : Nat) : Int)
    have e1 : cndI ((p.cn : Nat) : Int) = ⟨(condT.getD p.cn []).toArray⟩ := by
      rw [byteArr (cndI _), S.cndI_eq _ (by omega) (by have := p.cn_le; omega)]
      rfl
    rw [e1] at h0
    exact h0)
  have v1 : (p.v : Int) < 4294967296 := by have := hv; omega
  have r1 : ((p.rg : Nat) : Int) ≤ 14 := by have := p.rg_le; omega
  have hz1 := S.dec_len5 p.rg 1 (by have := p.rg_le; omega)
  have hz2 := S.dec_len5 p.v 9 (by have := hv; omega)
  have hz3 := S.dec_len5 (p.v % 4) 0 (by omega)
  have hz4 := (S.nmp_good (p.tg n) (by have := p.tg_le n; omega)).2.2.1
  have hz5 : (T.hexed8 p.v).length ≤ 10 := by rw [T.hexed8_length]; decide
  have hz6 := (S.cond_okb p.cn (by have := p.cn_le; omega)).2.2
  have hkd := p.kd_le
  clear hT
  rcases (show p.kd = 0 ∨ p.kd = 1 ∨ p.kd = 2 ∨ p.kd = 3 ∨ p.kd = 4 by omega) with h0 | h0 | h0 | h0 | h0
  · have HF : Hid (S.txtP p n = [119, 111, 114, 100, 32] ++ T.hexed8 p.v ∧ (S.szp p : Int) = 1) := hid (by
      refine ⟨?_, ?_⟩
      · unfold S.txtP S.sw; rw [if_pos (show p.kd = 0 by omega)]; simp [S.wordN]
      · unfold S.szp; rw [if_neg (show ¬ p.kd = 1 by omega), if_neg (show ¬ p.kd = 4 by omega)]; rfl)
    rw [HF.out.1, HF.out.2]
    rw [show ((p.kd : Nat) : Int) = 0 by omega] at HK
    unfold pieV pieC
    clear HF hkd HC HV HZ HCn
    generalize p.tg n = t at *
    generalize p.rg = r at *
    generalize p.cn = cn at *
    generalize T.hexed8 p.v = x at *
    generalize S.nmp t = nm at *
    generalize Lib.decDigits r = rt at *
    generalize Lib.decDigits (p.v % 4) = z at *
    generalize condT.getD cn [] = cs at *
    generalize Lib.decDigits p.v = dv at *
    obtain ⟨k, a, cd, d, v⟩ := p
    simp only at *
    have HC0 : Hid (Cel (W.alloc (.cells #[.int .i64 k, .int .i64 a, .int .i64 cd, .int .i64 d, .int .u32 (v : Int)] 37)) W.heap.size 37 [.int .i64 k, .int .i64 a, .int .i64 cd, .int .i64 d, .int .u32 (v : Int)] ∧ Below W.heap.size W (W.alloc (.cells #[.int .i64 k, .int .i64 a, .int .i64 cd, .int .i64 d, .int .u32 (v : Int)] 37))) := hid ⟨Cel.new _ _ _, below_one _ _⟩
    go_enter Tryz.func11, Tryz.ntmps11
    go_wp2_with fail
    refine (HTo.out _).mono ?_
    rintro e w1 ⟨rfl, rfl⟩
    generalize W.alloc (Obj.cells _ 37) = X at *
    go_wp2_with (go_at_call 12; refine (HN.out _ HC0.out.2).mono ?_; rintro e w2 ⟨rfl, hb2⟩; have HC2 := hid (And.intro (HC0.out.1.on hb2) (below_on HC0.out.2 hb2)); have f1 := HC2.out.1.cell 1; clear hb2)
    refine (HA.out _).mono ?_
    rintro e w1 ⟨rfl, rfl⟩
    go_wp2_with (go_at_call 25; refine (HR.out _ HC2.out.2).mono ?_; rintro e w3 ⟨rfl, hb3⟩; have HC3 := hid (And.intro (HC2.out.1.on hb3) (below_on HC2.out.2 hb3)); clear f1; have f0 := HC3.out.1.cell 0; have f1 := HC3.out.1.cell 1; have f2 := HC3.out.1.cell 2; have f4 := HC3.out.1.cell 4; clear hb3)
    refine (HK.out _).mono ?_
    rintro e w1 ⟨rfl, rfl⟩
    go_wp2_with (go_at_call 26; refine (HX.out _ HC3.out.2).mono ?_; rintro e w4 ⟨rfl, hb4⟩; have HB4 := hid (below_on HC3.out.2 hb4); clear hb4)
    go_ret2
    exact ⟨ret_tb (by simp) rfl, HB4.out⟩
  · have HF : Hid (S.txtP p n = [108, 105, 32] ++ (114 :: Lib.decDigits p.rg) ++ [32] ++ Lib.decDigits p.v ∧ (S.szp p : Int) = 2) := hid (by
      refine ⟨?_, ?_⟩
      · unfold S.txtP S.sw; rw [if_neg (show ¬ p.kd = 0 by omega), if_pos (show p.kd = 1 by omega)]; simp [S.liN]
      · unfold S.szp; rw [if_pos (show p.kd = 1 by omega)]; rfl)
    rw [HF.out.1, HF.out.2]
    rw [show ((p.kd : Nat) : Int) = 1 by omega] at HK
    unfold pieV pieC
    clear HF hkd HC HX HZ HCn
    generalize p.tg n = t at *
    generalize p.rg = r at *
    generalize p.cn = cn at *
    generalize T.hexed8 p.v = x at *
    generalize S.nmp t = nm at *
    generalize Lib.decDigits r = rt at *
    generalize Lib.decDigits (p.v % 4) = z at *
    generalize condT.getD cn [] = cs at *
    generalize Lib.decDigits p.v = dv at *
    obtain ⟨k, a, cd, d, v⟩ := p
    simp only at *
    have HC0 : Hid (Cel (W.alloc (.cells #[.int .i64 k, .int .i64 a, .int .i64 cd, .int .i64 d, .int .u32 (v : Int)] 37)) W.heap.size 37 [.int .i64 k, .int .i64 a, .int .i64 cd, .int .i64 d, .int .u32 (v : Int)] ∧ Below W.heap.size W (W.alloc (.cells #[.int .i64 k, .int .i64 a, .int .i64 cd, .int .i64 d, .int .u32 (v : Int)] 37))) := hid ⟨Cel.new _ _ _, below_one _ _⟩
    go_enter Tryz.func11, Tryz.ntmps11
    go_wp2_with fail
    refine (HTo.out _).mono ?_
    rintro e w1 ⟨rfl, rfl⟩
    generalize W.alloc (Obj.cells _ 37) = X at *
    go_wp2_with (go_at_call 12; refine (HN.out _ HC0.out.2).mono ?_; rintro e w2 ⟨rfl, hb2⟩; have HC2 := hid (And.intro (HC0.out.1.on hb2) (below_on HC0.out.2 hb2)); have f1 := HC2.out.1.cell 1; clear hb2)
    refine (HA.out _).mono ?_
    rintro e w1 ⟨rfl, rfl⟩
    go_wp2_with (go_at_call 25; refine (HR.out _ HC2.out.2).mono ?_; rintro e w3 ⟨rfl, hb3⟩; have HC3 := hid (And.intro (HC2.out.1.on hb3) (below_on HC2.out.2 hb3)); clear f1; have f0 := HC3.out.1.cell 0; have f1 := HC3.out.1.cell 1; have f2 := HC3.out.1.cell 2; have f4 := HC3.out.1.cell 4; clear hb3)
    refine (HK.out _).mono ?_
    rintro e w1 ⟨rfl, rfl⟩
    go_wp2_with (go_at_call 25; refine (HV.out _ HC3.out.2).mono ?_; rintro e w4 ⟨rfl, hb4⟩; have HB4 := hid (below_on HC3.out.2 hb4); clear hb4)
    go_ret2
    exact ⟨ret_tb (by simp) rfl, HB4.out⟩
  · by_cases ho : p.odd = true
    · have HF : Hid (S.txtP p n = [98, 108, 32] ++ S.nmp (p.tg n) ∧ (S.szp p : Int) = 1) := hid (by
        refine ⟨?_, ?_⟩
        · unfold S.txtP S.sw; rw [if_neg (show ¬ p.kd = 0 by omega), if_neg (show ¬ p.kd = 1 by omega), if_pos (show p.kd = 2 by omega), if_pos ho]; simp [S.blN]
        · unfold S.szp; rw [if_neg (show ¬ p.kd = 1 by omega), if_neg (show ¬ p.kd = 4 by omega)]; rfl)
      rw [HF.out.1, HF.out.2]
      rw [show ((p.kd : Nat) : Int) = 2 by omega] at HK
      unfold pieV pieC
      clear HF hkd HC HX HV HZ HCn
      have q1 : (p.a.tmod 2 != 0) = true := ho
      clear ho
      generalize p.tg n = t at *
      generalize p.rg = r at *
      generalize p.cn = cn at *
      generalize T.hexed8 p.v = x at *
      generalize S.nmp t = nm at *
      generalize Lib.decDigits r = rt at *
      generalize Lib.decDigits (p.v % 4) = z at *
      generalize condT.getD cn [] = cs at *
      generalize Lib.decDigits p.v = dv at *
      obtain ⟨k, a, cd, d, v⟩ := p
      simp only at *
      have HC0 : Hid (Cel (W.alloc (.cells #[.int .i64 k, .int .i64 a, .int .i64 cd, .int .i64 d, .int .u32 (v : Int)] 37)) W.heap.size 37 [.int .i64 k, .int .i64 a, .int .i64 cd, .int .i64 d, .int .u32 (v : Int)] ∧ Below W.heap.size W (W.alloc (.cells #[.int .i64 k, .int .i64 a, .int .i64 cd, .int .i64 d, .int .u32 (v : Int)] 37))) := hid ⟨Cel.new _ _ _, below_one _ _⟩
      go_enter Tryz.func11, Tryz.ntmps11
      go_wp2_with fail
      refine (HTo.out _).mono ?_
      rintro e w1 ⟨rfl, rfl⟩
      generalize W.alloc (Obj.cells _ 37) = X at *
      go_wp2_with (go_at_call 12; refine (HN.out _ HC0.out.2).mono ?_; rintro e w2 ⟨rfl, hb2⟩; have HC2 := hid (And.intro (HC0.out.1.on hb2) (below_on HC0.out.2 hb2)); have f1 := HC2.out.1.cell 1; clear hb2)
      refine (HA.out _).mono ?_
      rintro e w1 ⟨rfl, rfl⟩
      go_wp2_with (go_at_call 25; refine (HR.out _ HC2.out.2).mono ?_; rintro e w3 ⟨rfl, hb3⟩; have HC3 := hid (And.intro (HC2.out.1.on hb3) (below_on HC2.out.2 hb3)); clear f1; have f0 := HC3.out.1.cell 0; have f1 := HC3.out.1.cell 1; have f2 := HC3.out.1.cell 2; have f4 := HC3.out.1.cell 4; clear hb3)
      refine (HK.out _).mono ?_
      rintro e w1 ⟨rfl, rfl⟩
      go_wp2_with fail
      go_ret2
      exact ⟨ret_tb (by simp) rfl, HC3.out.2⟩
    · have HF : Hid (S.txtP p n = [98, 32] ++ condT.getD p.cn [] ++ [32] ++ S.nmp (p.tg n) ∧ (S.szp p : Int) = 1) := hid (by
        refine ⟨?_, ?_⟩
        · unfold S.txtP S.sw; rw [if_neg (show ¬ p.kd = 0 by omega), if_neg (show ¬ p.kd = 1 by omega), if_pos (show p.kd = 2 by omega), if_neg ho]; simp [S.bN]
        · unfold S.szp; rw [if_neg (show ¬ p.kd = 1 by omega), if_neg (show ¬ p.kd = 4 by omega)]; rfl)
      rw [HF.out.1, HF.out.2]
      rw [show ((p.kd : Nat) : Int) = 2 by omega] at HK
      unfold pieV pieC
      clear HF hkd HX HV HZ
      have m1 : p.a.tmod 2 = 0 := by unfold Pie.odd at ho; simpa using ho
      clear ho
      generalize p.tg n = t at *
      generalize p.rg = r at *
      generalize p.cn = cn at *
      generalize T.hexed8 p.v = x at *
      generalize S.nmp t = nm at *
      generalize Lib.decDigits r = rt at *
      generalize Lib.decDigits (p.v % 4) = z at *
      generalize condT.getD cn [] = cs at *
      generalize Lib.decDigits p.v = dv at *
      obtain ⟨k, a, cd, d, v⟩ := p
      simp only at *
      have HC0 : Hid (Cel (W.alloc (.cells #[.int .i64 k, .int .i64 a, .int .i64 cd, .int .i64 d, .int .u32 (v : Int)] 37)) W.heap.size 37 [.int .i64 k, .int .i64 a, .int .i64 cd, .int .i64 d, .int .u32 (v : Int)] ∧ Below W.heap.size W (W.alloc (.cells #[.int .i64 k, .int .i64 a, .int .i64 cd, .int .i64 d, .int .u32 (v : Int)] 37))) := hid ⟨Cel.new _ _ _, below_one _ _⟩
      go_enter Tryz.func11, Tryz.ntmps11
      go_wp2_with fail
      refine (HTo.out _).mono ?_
      rintro e w1 ⟨rfl, rfl⟩
      generalize W.alloc (Obj.cells _ 37) = X at *
      go_wp2_with (go_at_call 12; refine (HN.out _ HC0.out.2).mono ?_; rintro e w2 ⟨rfl, hb2⟩; have HC2 := hid (And.intro (HC0.out.1.on hb2) (below_on HC0.out.2 hb2)); have f1 := HC2.out.1.cell 1; clear hb2)
      refine (HA.out _).mono ?_
      rintro e w1 ⟨rfl, rfl⟩
      go_wp2_with (go_at_call 25; refine (HR.out _ HC2.out.2).mono ?_; rintro e w3 ⟨rfl, hb3⟩; have HC3 := hid (And.intro (HC2.out.1.on hb3) (below_on HC2.out.2 hb3)); clear f1; have f0 := HC3.out.1.cell 0; have f1 := HC3.out.1.cell 1; have f2 := HC3.out.1.cell 2; have f4 := HC3.out.1.cell 4; clear hb3)
      refine (HK.out _).mono ?_
      rintro e w1 ⟨rfl, rfl⟩
      go_wp2_with fail
      refine (HC.out _).mono ?_
      rintro e w1 ⟨rfl, rfl⟩
      go_wp2_with (go_at_call 27; refine (HCn.out _ HC3.out.2).mono ?_; rintro e w4 ⟨rfl, rfl⟩)
      go_ret2
      exact ⟨ret_tb (by simp) rfl, HC3.out.2⟩
  · have HF : Hid (S.txtP p n = [119, 111, 114, 100, 32] ++ S.nmp (p.tg n) ∧ (S.szp p : Int) = 1) := hid (by
      refine ⟨?_, ?_⟩
      · unfold S.txtP S.sw; rw [if_neg (show ¬ p.kd = 0 by omega), if_neg (show ¬ p.kd = 1 by omega), if_neg (show ¬ p.kd = 2 by omega), if_pos (show p.kd = 3 by omega)]; simp [S.wordN]
      · unfold S.szp; rw [if_neg (show ¬ p.kd = 1 by omega), if_neg (show ¬ p.kd = 4 by omega)]; rfl)
    rw [HF.out.1, HF.out.2]
    rw [show ((p.kd : Nat) : Int) = 3 by omega] at HK
    unfold pieV pieC
    clear HF hkd HC HX HV HZ HCn
    generalize p.tg n = t at *
    generalize p.rg = r at *
    generalize p.cn = cn at *
    generalize T.hexed8 p.v = x at *
    generalize S.nmp t = nm at *
    generalize Lib.decDigits r = rt at *
    generalize Lib.decDigits (p.v % 4) = z at *
    generalize condT.getD cn [] = cs at *
    generalize Lib.decDigits p.v = dv at *
    obtain ⟨k, a, cd, d, v⟩ := p
    simp only at *
    have HC0 : Hid (Cel (W.alloc (.cells #[.int .i64 k, .int .i64 a, .int .i64 cd, .int .i64 d, .int .u32 (v : Int)] 37)) W.heap.size 37 [.int .i64 k, .int .i64 a, .int .i64 cd, .int .i64 d, .int .u32 (v : Int)] ∧ Below W.heap.size W (W.alloc (.cells #[.int .i64 k, .int .i64 a, .int .i64 cd, .int .i64 d, .int .u32 (v : Int)] 37))) := hid ⟨Cel.new _ _ _, below_one _ _⟩
    go_enter Tryz.func11, Tryz.ntmps11
    go_wp2_with fail
    refine (HTo.out _).mono ?_
    rintro e w1 ⟨rfl, rfl⟩
    generalize W.alloc (Obj.cells _ 37) = X at *
    go_wp2_with (go_at_call 12; refine (HN.out _ HC0.out.2).mono ?_; rintro e w2 ⟨rfl, hb2⟩; have HC2 := hid (And.intro (HC0.out.1.on hb2) (below_on HC0.out.2 hb2)); have f1 := HC2.out.1.cell 1; clear hb2)
    refine (HA.out _).mono ?_
    rintro e w1 ⟨rfl, rfl⟩
    go_wp2_with (go_at_call 25; refine (HR.out _ HC2.out.2).mono ?_; rintro e w3 ⟨rfl, hb3⟩; have HC3 := hid (And.intro (HC2.out.1.on hb3) (below_on HC2.out.2 hb3)); clear f1; have f0 := HC3.out.1.cell 0; have f1 := HC3.out.1.cell 1; have f2 := HC3.out.1.cell 2; have f4 := HC3.out.1.cell 4; clear hb3)
    refine (HK.out _).mono ?_
    rintro e w1 ⟨rfl, rfl⟩
    go_wp2_with fail
    go_ret2
    exact ⟨ret_tb (by simp) rfl, HC3.out.2⟩
  · have HF : Hid (S.txtP p n = [122, 101, 114, 111, 32] ++ Lib.decDigits (p.v % 4) ∧ (S.szp p : Int) = ((p.v % 4 : Nat) : Int)) := hid (by
      refine ⟨?_, ?_⟩
      · unfold S.txtP S.sw; rw [if_neg (show ¬ p.kd = 0 by omega), if_neg (show ¬ p.kd = 1 by omega), if_neg (show ¬ p.kd = 2 by omega), if_neg (show ¬ p.kd = 3 by omega)]; simp [S.zeroN]
      · unfold S.szp; rw [if_neg (show ¬ p.kd = 1 by omega), if_pos (show p.kd = 4 by omega)])
    rw [HF.out.1, HF.out.2]
    rw [show ((p.kd : Nat) : Int) = 4 by omega] at HK
    unfold pieV pieC
    clear HF hkd HC HX HV HCn
    generalize p.tg n = t at *
    generalize p.rg = r at *
    generalize p.cn = cn at *
    generalize T.hexed8 p.v = x at *
    generalize S.nmp t = nm at *
    generalize Lib.decDigits r = rt at *
    generalize Lib.decDigits (p.v % 4) = z at *
    generalize condT.getD cn [] = cs at *
    generalize Lib.decDigits p.v = dv at *
    obtain ⟨k, a, cd, d, v⟩ := p
    simp only at *
    have HC0 : Hid (Cel (W.alloc (.cells #[.int .i64 k, .int .i64 a, .int .i64 cd, .int .i64 d, .int .u32 (v : Int)] 37)) W.heap.size 37 [.int .i64 k, .int .i64 a, .int .i64 cd, .int .i64 d, .int .u32 (v : Int)] ∧ Below W.heap.size W (W.alloc (.cells #[.int .i64 k, .int .i64 a, .int .i64 cd, .int .i64 d, .int .u32 (v : Int)] 37))) := hid ⟨Cel.new _ _ _, below_one _ _⟩
    go_enter Tryz.func11, Tryz.ntmps11
    go_wp2_with fail
    refine (HTo.out _).mono ?_
    rintro e w1 ⟨rfl, rfl⟩
    generalize W.alloc (Obj.cells _ 37) = X at *
    go_wp2_with (go_at_call 12; refine (HN.out _ HC0.out.2).mono ?_; rintro e w2 ⟨rfl, hb2⟩; have HC2 := hid (And.intro (HC0.out.1.on hb2) (below_on HC0.out.2 hb2)); have f1 := HC2.out.1.cell 1; clear hb2)
    refine (HA.out _).mono ?_
    rintro e w1 ⟨rfl, rfl⟩
    go_wp2_with (go_at_call 25; refine (HR.out _ HC2.out.2).mono ?_; rintro e w3 ⟨rfl, hb3⟩; have HC3 := hid (And.intro (HC2.out.1.on hb3) (below_on HC2.out.2 hb3)); clear f1; have f0 := HC3.out.1.cell 0; have f1 := HC3.out.1.cell 1; have f2 := HC3.out.1.cell 2; have f4 := HC3.out.1.cell 4; clear hb3)
    refine (HK.out _).mono ?_
    rintro e w1 ⟨rfl, rfl⟩
    go_wp2_with fail
    have e4 : (v : Int).tmod 4 = ((v % 4 : Nat) : Int) := by rw [Int.tmod_eq_emod_of_nonneg (by omega)]; omega
    have e5 : (v : Int) % 4 = ((v % 4 : Nat) : Int) := by omega
    have c4 : ((v % 4 : Nat) : Int) ≤ 3 := by omega
    have c5 : (0 : Int) ≤ ((v % 4 : Nat) : Int) := by omega
    have c6 : ((v % 4 : Nat) : Int) % 18446744073709551616 = ((v % 4 : Nat) : Int) := by omega
    have c7 : 5 + z.length ≤ 9223372036854775807 := by omega
    generalize hv4 : ((v % 4 : Nat) : Int) = v4 at HZ e4 e5 c4 c5 c6
    have HV5 := hid hv4
    clear hv4
    have e6 : IntKind.i64.wrap v4 = v4 := by simp [IntKind.wrap, IntKind.signed, IntKind.bits]; omega
    clear r1 f0 f1 f2 hz1 hz2 hz4 hz5 hz6
    have HD := hid (And.intro (HC3.out.1.on (Below.refl w3.heap.size w3).drew) (below_on HC3.out.2 (Below.refl _ _).drew))
    refine wp_region_held_drew (S := fun w => w.cell? ⟨W.heap.size, 4, none⟩ = some (.int .u32 (v : Int))) (by kernel_rfl) (HD.out.1.cell 4) (fun hHeld => ?_)
    refine tk 0 ⟨some 57, .fieldAddr 37 (.tmp 2) 4, 0, "outright.go:69", #[], none⟩ (.pointer (some ⟨W.heap.size, 4, none⟩)) ?_
    simp only [Act.put, List.setIfInBounds_toArray, List.set_cons_zero, List.set_cons_succ]
    refine tk 1 ⟨some 58, .load 22 (.tmp 57), 22, "outright.go:69", #[⟨0, .data⟩], none⟩ (.int .u32 (v : Int)) ?_ (hy := Or.inl ⟨by rfl, by intro w hSw; have hc := hSw; go_simp⟩)
    simp only [Act.put, List.setIfInBounds_toArray, List.set_cons_zero, List.set_cons_succ]
    refine tk 2 ⟨some 59, .binOp .rem 22 (.tmp 58) (.const (.int .u32 4)) 22, 22, "outright.go:69", #[⟨1, .data⟩], none⟩ (.int .u32 v4) ?_
    simp only [Act.put, List.setIfInBounds_toArray, List.set_cons_zero, List.set_cons_succ]
    refine tk 5 ⟨some 62, .fieldAddr 37 (.tmp 2) 4, 0, "outright.go:69", #[{ on := 9, ground := .gcOnly Departure.lateStores }], none⟩ (.pointer (some ⟨W.heap.size, 4, none⟩)) ?_
    simp only [Act.put, List.setIfInBounds_toArray, List.set_cons_zero, List.set_cons_succ]
    refine tk 6 ⟨some 63, .load 22 (.tmp 62), 22, "outright.go:69", #[⟨5, .data⟩, { on := 9, ground := .gcOnly Departure.lateStores }], none⟩ (.int .u32 (v : Int)) ?_ (hy := Or.inl ⟨by rfl, by intro w hSw; have hc := hSw; go_simp⟩)
    simp only [Act.put, List.setIfInBounds_toArray, List.set_cons_zero, List.set_cons_succ]
    refine tk 7 ⟨some 64, .binOp .rem 22 (.tmp 63) (.const (.int .u32 4)) 22, 22, "outright.go:69", #[⟨6, .data⟩, { on := 9, ground := .gcOnly Departure.lateStores }], none⟩ (.int .u32 v4) ?_
    simp only [Act.put, List.setIfInBounds_toArray, List.set_cons_zero, List.set_cons_succ]
    refine tk 8 ⟨some 65, .convert 22 3 (.tmp 64), 3, "outright.go:69", #[⟨7, .data⟩, { on := 9, ground := .gcOnly Departure.lateStores }], none⟩ (.int .i64 v4) ?_
    simp only [Act.put, List.setIfInBounds_toArray, List.set_cons_zero, List.set_cons_succ]
    refine wpAnyH_ready (rs := [3]) (by kernel_rfl) (by simp) (AllReadyH.cons (o := ⟨some 60, .call { callee := .value (.func 25), args := #[.tmp 59], argTypes := #[22] }, 9, "outright.go:69", #[⟨2, .data⟩], none⟩) rfl (fun KQ hK => ?_) AllReadyH.nil)
    go_simp
    refine (HZ.out _ HD.out.2).mono ?_
    rintro e w4 ⟨rfl, hb4⟩
    have HB4 := hid (below_on HD.out.2 hb4)
    have g4 := hid ((HD.out.1.on hb4).cell 4)
    clear hb4
    go_wp2_with fail
    refine hK.out _ _ g4.out (fun hHeld => ?_)
    clear hK KQ
    try simp only [Act.put, List.setIfInBounds_toArray, List.set_cons_zero, List.set_cons_succ]
    refine tk 4 ⟨some 61, .binOp .add 9 (.const (.string { data := #[122, 101, 114, 111, 32] })) (.tmp 60) 9, 9, "outright.go:69", #[⟨3, .data⟩], none⟩ (.string (⟨#[122, 101, 114, 111, 32]⟩ ++ ⟨z.toArray⟩)) ?_
    simp only [Act.put, List.setIfInBounds_toArray, List.set_cons_zero, List.set_cons_succ]
    refine wpAnyH_ready (rs := [9]) (by kernel_rfl) (by simp) (AllReadyH.cons (o := ⟨some 4, .assign (.tmp 61), 9, "outright.go:69", #[⟨4, .data⟩, ⟨3, .chain⟩, ⟨0, .phase⟩, ⟨1, .phase⟩, ⟨2, .phase⟩, ⟨3, .phase⟩, ⟨4, .phase⟩, { on := 5, ground := .textOnly Departure.lateStores }, { on := 6, ground := .textOnly Departure.lateStores }, { on := 7, ground := .textOnly Departure.lateStores }, { on := 8, ground := .textOnly Departure.lateStores }], none⟩) rfl (fun KQ hK => ?_) AllReadyH.nil)
    go_simp
    refine hK.out _ _ g4.out (fun hHeld => ?_)
    clear hK KQ
    try simp only [Act.put, List.setIfInBounds_toArray, List.set_cons_zero, List.set_cons_succ]
    refine wpAnyH_ready (rs := [10]) (by kernel_rfl) (by simp) (AllReadyH.cons (o := ⟨some 5, .assign (.tmp 65), 3, "outright.go:69", #[⟨8, .data⟩, ⟨9, .chain⟩, ⟨0, .phase⟩, ⟨1, .phase⟩, ⟨2, .phase⟩, ⟨3, .phase⟩, ⟨4, .phase⟩, ⟨5, .phase⟩, ⟨6, .phase⟩, ⟨7, .phase⟩, ⟨8, .phase⟩, ⟨9, .phase⟩], none⟩) rfl (fun KQ hK => ?_) AllReadyH.nil)
    go_simp
    refine hK.out _ _ g4.out (fun hHeld => ?_)
    clear hK KQ
    try simp only [Act.put, List.setIfInBounds_toArray, List.set_cons_zero, List.set_cons_succ]
    refine wpAnyH_done (by kernel_rfl) ?_ _
    go_wp2_with fail
    go_ret2
    exact ⟨ret_tb (by simp) HV5.out.symm, HB4.out⟩
end Go.Proofs.YtncnogndopgknaaGreatDoor
namespace Go.Proofs.YtncnogndopgknaaGreatDoor
open Go.RowKit
set_option maxRecDepth 40000
set_option maxHeartbeats 4000000
theorem labels_any (W : World) (h : AW W) (s : ByteArray) (y : List Nat × List (List UInt8 × Nat)) (hy : S.asm s.data.toList 0 = .inr y) :
    Calls Tryz.prog 13 #[.string s] W fun x w' => ∃ v, x = .returned (.tuple #[v, .agg #[.int .i64 0, .int .i64 0, .int .i64 0]]) ∧ w'.ownsRow W.heap.size 43 2 v y.2.length (labsC y.2) ∧ Below W.heap.size W w' := by
  obtain ⟨m, hm⟩ := h.m
  have h7 := h.z
  have HX : Hid (Below W.heap.size W (W.alloc (.cells #[.int .i64 0, .int .i64 0, .int .i64 0] 27)) ∧ Cel (W.alloc (.cells #[.int .i64 0, .int .i64 0, .int .i64 0] 27)) W.heap.size 27 [.int .i64 0, .int .i64 0, .int .i64 0]) := hid ⟨below_one _ _, Cel.new _ _ _⟩
  have H23 : Hid (Calls Tryz.prog 23 #[.string s, .int .u32 0] (W.alloc (.cells #[.int .i64 0, .int .i64 0, .int .i64 0] 27)) fun x w' => PgPost (W.alloc (.cells #[.int .i64 0, .int .i64 0, .int .i64 0] 27)) 0 (S.asm s.data.toList 0) x w') := hid (read_all (W.alloc (.cells #[.int .i64 0, .int .i64 0, .int .i64 0] 27)) (h.t.on HX.out.1) m (by rw [HX.out.1.cell (p := ⟨7, 0, none⟩) h7]; exact hm) s 0 (by decide))
  rw [hy] at H23
  clear hy h hm h7
  go_enter Tryz.func13, Tryz.ntmps13
  go_wp2_with fail
  generalize W.alloc (.cells #[.int .i64 0, .int .i64 0, .int .i64 0] 27) = X at *
  refine H23.out.mono ?_
  intro e w1 hpost
  obtain ⟨V, g, gm, line, lat, fs, i, vw, vl, vf, rfl, hbV, hPF⟩ := hpost
  have HPF := hid hPF
  have HXV : Hid (Below X.heap.size X V) := hbV
  have HB1 : Hid (Below X.heap.size X w1) := hid (hbV.trans (hPF.below.mono hbV.size))
  have HC1 : Hid (Cel w1 W.heap.size 27 [.int .i64 0, .int .i64 0, .int .i64 0] ∧ Below W.heap.size W w1) := hid ⟨HX.out.2.on HB1.out, HX.out.1.trans (HB1.out.mono HX.out.1.size)⟩
  have g2 : w1.cell? ⟨g, 3, none⟩ = some vl := hPF.cel.cell 3
  have y0 : w1.cell? ⟨W.heap.size, 0, none⟩ = some (.int .i64 0) := HC1.out.1.cell 0
  have y1 : w1.cell? ⟨W.heap.size, 1, none⟩ = some (.int .i64 0) := HC1.out.1.cell 1
  have y2 : w1.cell? ⟨W.heap.size, 2, none⟩ = some (.int .i64 0) := HC1.out.1.cell 2
  have f0 := HC1.out.1.free 0
  have f1 := HC1.out.1.free 1
  have f2 := HC1.out.1.free 2
  clear hPF hbV H23
  go_wp2_with fail
  have c0 := HC1.out.1.setCell 0 (.int .i64 0)
  have c1 := c0.setCell 1 (.int .i64 0)
  have hk : KT 43 w1 (((w1.setCell ⟨W.heap.size, 0, none⟩ (.int .i64 0)).setCell ⟨W.heap.size, 1, none⟩ (.int .i64 0)).setCell ⟨W.heap.size, 2, none⟩ (.int .i64 0)) := KT.trans (KT.trans (KT.setCell HC1.out.1 (by decide) 0 _) (KT.setCell c0 (by decide) 1 _)) (KT.setCell c1 (by decide) 2 _)
  exact ret_ts rfl rfl W.heap.size [.int .i64 0, .int .i64 0, .int .i64 0] rfl (c1.setCell 2 (.int .i64 0)) Tryz.underlying27 rfl sizeFault ⟨_, rfl, own_less (own_kt HPF.out.lb hk) (Nat.le_trans HX.out.1.size HXV.out.size), ((HC1.out.2.setCell (p := ⟨W.heap.size, 0, none⟩) (Nat.le_refl _) _).setCell (p := ⟨W.heap.size, 1, none⟩) (Nat.le_refl _) _).setCell (p := ⟨W.heap.size, 2, none⟩) (Nat.le_refl _) _⟩
end Go.Proofs.YtncnogndopgknaaGreatDoor
namespace Go.Proofs.YtncnogndopgknaaGreatDoor
open Go.RowKit
set_option maxRecDepth 100000
set_option maxHeartbeats 4000000
theorem chk_of {i : Ins} (n : Nat) (L : List Nat) (h1 : i.op = (n : Int)) (hn : 1 ≤ n ∧ n < 25) (hL : ltr (shp n) = L) (h9 : L ∈ nine) (hg : Good i L) : chk i = 0 := by
  unfold chk
  rw [if_pos (by omega), h1, Int.toNat_natCast, hL, if_pos ((good_iff i L h9).2 hg)]
theorem chk_half (n : Nat) (hn : n = 1 ∨ n = 2) (r m : Nat) (hr : r ≤ 14) (hm : m < 65536) : chk ⟨(n : Int), 0, (r : Int), 0, 0, (m : Int)⟩ = 0 := by
  rcases hn with rfl | rfl
  · refine chk_of 1 [97, 117] rfl (by decide) (by decide +kernel) (by decide) ?_
    simp only [Good, Wi, Im]
    simp
    omega
  · refine chk_of 2 [97, 117] rfl (by decide) (by decide +kernel) (by decide) ?_
    simp only [Good, Wi, Im]
    simp
    omega
theorem chk_b (k : Nat) (d : Int) (hk : k ≤ 6) (d0 : -32768 ≤ d) (d1 : d ≤ 32767) : chk ⟨21, (k : Int), 0, 0, 0, d⟩ = 0 := by
  refine chk_of 21 [107, 111] rfl (by decide) (by decide +kernel) (by decide) ?_
  simp only [Good, Wi, Im]
  simp
  omega
theorem chk_bl (d : Int) (d0 : -32768 ≤ d) (d1 : d ≤ 32767) : chk ⟨22, 0, 0, 0, 0, d⟩ = 0 := by
  refine chk_of 22 [111] rfl (by decide) (by decide +kernel) (by decide) ?_
  simp only [Good, Wi, Im]
  simp
  omega
namespace S
variable {ps : List Pie} {base i : Nat}
theorem at0 (hi : i < ps.length) (h : (ps.getD i p0).kd = 0) : (FW ps base ps.length).getD (plc ps i) 0 = (ps.getD i p0).v := by
  have := FW_get ps base i ps.length 0 hi (by unfold szp; rw [if_neg (show ¬ (ps.getD i p0).kd = 1 by omega), if_neg (show ¬ (ps.getD i p0).kd = 4 by omega)]; decide)
  rw [Nat.add_zero] at this
  rw [this]
  unfold fw
  rw [if_pos h]; rfl
theorem at1 (hi : i < ps.length) (h : (ps.getD i p0).kd = 1) : (FW ps base ps.length).getD (plc ps i) 0 = half 1 (ps.getD i p0).rg ((ps.getD i p0).v % 65536) ∧ (FW ps base ps.length).getD (plc ps i + 1) 0 = half 2 (ps.getD i p0).rg ((ps.getD i p0).v / 65536) := by
  have hs : szp (ps.getD i p0) = 2 := by unfold szp; rw [if_pos h]
  have h0 := FW_get ps base i ps.length 0 hi (by omega)
  have h1 := FW_get ps base i ps.length 1 hi (by omega)
  rw [Nat.add_zero] at h0
  rw [h0, h1]
  unfold fw
  rw [if_neg (show ¬ (ps.getD i p0).kd = 0 by omega), if_pos h]
  exact ⟨rfl, rfl⟩
theorem at2 (hi : i < ps.length) (h : (ps.getD i p0).kd = 2) : (FW ps base ps.length).getD (plc ps i) 0 = (enc ⟨if (ps.getD i p0).odd then 22 else 21, if (ps.getD i p0).odd then 0 else (ps.getD i p0).cn, 0, 0, 0, (plc ps ((ps.getD i p0).tg ps.length) : Int) - plc ps i - 1⟩).toNat := by
  have := FW_get ps base i ps.length 0 hi (by unfold szp; rw [if_neg (show ¬ (ps.getD i p0).kd = 1 by omega), if_neg (show ¬ (ps.getD i p0).kd = 4 by omega)]; decide)
  rw [Nat.add_zero] at this
  rw [this]
  unfold fw
  rw [if_neg (show ¬ (ps.getD i p0).kd = 0 by omega), if_neg (show ¬ (ps.getD i p0).kd = 1 by omega), if_pos h]; rfl
theorem at3 (hi : i < ps.length) (h : (ps.getD i p0).kd = 3) : (FW ps base ps.length).getD (plc ps i) 0 = (base + 4 * plc ps ((ps.getD i p0).tg ps.length)) % 4294967296 := by
  have := FW_get ps base i ps.length 0 hi (by unfold szp; rw [if_neg (show ¬ (ps.getD i p0).kd = 1 by omega), if_neg (show ¬ (ps.getD i p0).kd = 4 by omega)]; decide)
  rw [Nat.add_zero] at this
  rw [this]
  unfold fw
  rw [if_neg (show ¬ (ps.getD i p0).kd = 0 by omega), if_neg (show ¬ (ps.getD i p0).kd = 1 by omega), if_neg (show ¬ (ps.getD i p0).kd = 2 by omega), if_pos h]; rfl
theorem at4 (hi : i < ps.length) (h : (ps.getD i p0).kd = 4) (j : Nat) (hj : j < (ps.getD i p0).v % 4) : (FW ps base ps.length).getD (plc ps i + j) 0 = 0 := by
  have hs : szp (ps.getD i p0) = (ps.getD i p0).v % 4 := by unfold szp; rw [if_neg (show ¬ (ps.getD i p0).kd = 1 by omega), if_pos h]
  rw [FW_get ps base i ps.length j hi (by omega)]
  unfold fw
  rw [if_neg (show ¬ (ps.getD i p0).kd = 0 by omega), if_neg (show ¬ (ps.getD i p0).kd = 1 by omega), if_neg (show ¬ (ps.getD i p0).kd = 2 by omega), if_neg (show ¬ (ps.getD i p0).kd = 3 by omega), List.getD_eq_getElem?_getD, List.getElem?_replicate, if_pos hj]
  rfl
theorem room (hi : i < ps.length) : plc ps i + szp (ps.getD i p0) ≤ plc ps ps.length := by
  have := plc_mono ps (i + 1) (ps.length - (i + 1))
  rw [show i + 1 + (ps.length - (i + 1)) = ps.length by omega] at this
  exact this
end S
theorem UAt.get {w : World} {ao : Option Addr} {xs : List Nat} (h : UAt w ao xs) {j : Nat} (hj : j < xs.length) : ∃ b o, ao = some ⟨b, o, none⟩ ∧ w.cell? ⟨b, o + j, none⟩ = some (.int .u32 (xs.getD j 0 : Nat)) := by
  rcases h with rfl | ⟨b, o, rfl, hb, hc⟩
  · simp at hj
  · refine ⟨b, o, rfl, ?_⟩
    rw [hc j hj, List.getD_eq_getElem?_getD, List.getElem?_eq_getElem hj]; rfl
end Go.Proofs.YtncnogndopgknaaGreatDoor
