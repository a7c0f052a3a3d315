import Derived.Test.YtncnogndopgknaaGreatDoorP35
import Derived.Test.YtncnogndopgknaaGreatDoorP01
namespace Go.Proofs.YtncnogndopgknaaGreatDoor
open Go.RowKit
set_option maxRecDepth 40000
set_option maxHeartbeats 4000000
def plcC (ps : List Pie) (k : Nat) : List Value := (List.range k).map fun j => .int .i64 (S.plc ps j : Int)
theorem plcC_get (ps : List Pie) (k j : Nat) (h : j < k) : (plcC ps k)[j]? = some (.int .i64 (S.plc ps j : Int)) := by
  unfold plcC
  rw [List.getElem?_map, List.getElem?_range h]
  rfl
structure RtIn (W : World) (ps : List Pie) (base i : Nat) (ao : Option Addr) (gp : Nat) : Prop where
  a : AW W
  t : TB W
  p : S.PsOk ps
  i : i < ps.length
  b : base < 4294967296
  u : UAt W ao (S.FW ps base ps.length)
  c : Cel W gp 3 (plcC ps (ps.length + 1))
theorem RtIn.word {W : World} {ps : List Pie} {base i : Nat} {ao : Option Addr} {gp : Nat} (h : RtIn W ps base i ao gp) (m : Nat) (hm : m ≤ S.szp (ps.getD i S.p0)) (h0 : 0 < m) :
    ∃ b o, ao = some ⟨b, o, none⟩ ∧ ∀ j, j < m → ∀ x, Below W.heap.size W x → x.cell? ⟨b, o + (S.plc ps i + j), none⟩ = some (.int .u32 ((S.FW ps base ps.length).getD (S.plc ps i + j) 0 : Nat)) := by
  have hr := S.room h.i
  have hlt : ∀ j, j < m → S.plc ps i + j < (S.FW ps base ps.length).length := fun j hj => by rw [S.FW_len]; omega
  obtain ⟨b, o, rfl, _⟩ := h.u.get (hlt 0 h0)
  refine ⟨b, o, rfl, fun j hj x hx => ?_⟩
  obtain ⟨b', o', he, hc⟩ := (h.u.on hx).get (hlt j hj)
  injection he with he
  injection he with h1 h2
  subst h1 h2
  exact hc
theorem and16 (a : Int) (h0 : 0 ≤ a) (h1 : a < 4294967296) : bits .and .u32 a 65535 = a % 65536 := by
  rw [u32_and _ _ h0 h1 (by omega) (by omega), show (65535 : Int).toNat = 2 ^ 16 - 1 from rfl, Nat.and_two_pow_sub_one_eq_mod]
  omega
theorem wrap_le (x : Int) (h0 : 0 ≤ x) (h1 : x < 65536) : wrap32 x = x := by
  unfold wrap32
  omega
theorem encode_half (W : World) (hT : TM W) (op : Nat) (ho : op = 1 ∨ op = 2) (r m : Nat) (hr : r ≤ 14) (hm : m < 65536) :
    Calls Tryz.prog 28 #[.agg #[.int .i64 (op : Int), .int .i64 0, .int .i64 (r : Int), .int .i64 0, .int .i64 0, .int .i32 (m : Int)]] W fun e W' => e = .returned (.tuple #[.int .u32 (S.half op r m : Int), .int .i64 0]) ∧ Below W.heap.size W W' := by
  have h0 := encode_any W hT.f hT.t hT.z ⟨op, 0, r, 0, 0, m⟩ (by show (-2147483648 : Int) ≤ (m : Int); omega) (by show (m : Int) < 2147483648; omega)
  have hb := enc_bounds ⟨op, 0, r, 0, 0, m⟩
  rw [chk_half op ho r m hr hm] at h0
  have e1 : enc ⟨op, 0, r, 0, 0, m⟩ = (S.half op r m : Int) := by
    unfold S.half S.i32
    rw [if_pos (by omega)]
    omega
  rw [e1] at h0
  exact h0
theorem right_0 (W : World) (ps : List Pie) (base i : Nat) (ao : Option Addr) (gp c N : Nat) (h : RtIn W ps base i ao gp) (hk : (ps.getD i S.p0).kd = 0) (hN : N = S.plc ps ps.length) :
    Calls Tryz.prog 14 #[pieV (ps.getD i S.p0), .int .i64 (ps.length : Int), .slice ao N c, .int .i64 (S.plc ps i : Int), .slice (some ⟨gp, 0, none⟩) (ps.length + 1) (ps.length + 1), .int .u32 (base : Int)] W fun e w' => e = .returned (.bool true) ∧ Below W.heap.size W w' := by
  have hr := S.room h.i
  have hs : S.szp (ps.getD i S.p0) = 1 := by unfold S.szp; rw [if_neg (show ¬ (ps.getD i S.p0).kd = 1 by omega), if_neg (show ¬ (ps.getD i S.p0).kd = 4 by omega)]
  have HTo := hid (fun w => wi_nat (ps.getD i S.p0).tq ps.length (by have := h.p.len; omega) w)
  have HK : Hid (∀ w, Calls Tryz.prog 17 #[.int .i64 (ps.getD i S.p0).k, .int .i64 0, .int .i64 4] w fun e W' => e = .returned (.int .i64 (((ps.getD i S.p0).kd : Nat) : Int)) ∧ w = W') := hid (fun w => wi_nat (ps.getD i S.p0).k 4 (by omega) w)
  have htg := (ps.getD i S.p0).tg_le ps.length
  have HP : Hid (∀ x, Below W.heap.size W x → x.cell? ⟨gp, (wiI (ps.getD i S.p0).tq 0 ps.length).toNat, none⟩ = some (.int .i64 (S.plc ps ((ps.getD i S.p0).tg ps.length) : Int))) := hid (fun x hx => by
    show x.cell? ⟨gp, (ps.getD i S.p0).tg ps.length, none⟩ = _
    rw [(h.c.on hx).cell, plcC_get _ _ _ (by omega)])
  obtain ⟨b, o, rfl, hwd⟩ := h.word 1 (by omega) (by decide)
  have HW0 : Hid (∀ x, Below W.heap.size W x → x.cell? ⟨b, o + S.plc ps i, none⟩ = some (.int .u32 ((ps.getD i S.p0).v : Int))) := hid (fun x hx => by
    have := hwd 0 (by decide) x hx
    rw [Nat.add_zero, S.at0 h.i hk] at this
    exact this)
  have htg1 : (((wiI (ps.getD i S.p0).tq 0 ps.length).toNat : Nat) : Int) ≤ (ps.length : Int) := Int.ofNat_le.2 htg
  have hv := h.p.v i
  have v1 : ((ps.getD i S.p0).v : Int) < 4294967296 := by omega
  have pl0 := S.plc_le ps ((ps.getD i S.p0).tg ps.length)
  have pl1 := S.plc_le ps i
  have hn := h.p.len
  have hi := h.i
  have n1 : (ps.length : Int) ≤ 300 := by omega
  have q1 : (S.plc ps i : Int) < (N : Int) := by omega
  have q2 : (S.plc ps i : Int) ≤ 900 := by omega
  have q3 : (S.plc ps ((ps.getD i S.p0).tg ps.length) : Int) ≤ 900 := by omega
  rw [hk] at HK
  unfold pieV pieC
  clear h hk hwd hN hr hs htg pl0 pl1 hn hi
  generalize S.plc ps ((ps.getD i S.p0).tg ps.length) = T at *
  generalize S.plc ps i = q at *
  generalize (wiI (ps.getD i S.p0).tq 0 ps.length).toNat = t at *
  generalize ps.length = n at *
  generalize ps.getD i S.p0 = P at *
  obtain ⟨k, a, cd, d, v⟩ := P
  simp only at *
  have HC0 : Hid (Cel (W.alloc (.cells #[.int .i64 k, .int .i64 a, .int .i64 cd, .int .i64 d, .int .u32 (v : Int)] 37)) W.heap.size 37 [.int .i64 k, .int .i64 a, .int .i64 cd, .int .i64 d, .int .u32 (v : Int)] ∧ Below W.heap.size W (W.alloc (.cells #[.int .i64 k, .int .i64 a, .int .i64 cd, .int .i64 d, .int .u32 (v : Int)] 37))) := hid ⟨Cel.new _ _ _, below_one _ _⟩
  go_enter Tryz.func14, Tryz.ntmps14
  go_wp2_with fail
  refine (HTo.out _).mono ?_
  rintro e w1 ⟨rfl, rfl⟩
  generalize W.alloc (Obj.cells _ 37) = X at *
  have f0 := HC0.out.1.cell 0
  have fp := HP.out _ HC0.out.2
  go_wp2_with fail
  refine (HK.out _).mono ?_
  rintro e w1 ⟨rfl, rfl⟩
  go_upto_region 4 with fail
  have HB := hid (below_on HC0.out.2 (Below.refl X.heap.size X).drew)
  have HS : Hid (X.drew.cell? ⟨b, o + q, none⟩ = some (.int .u32 (v : Int)) ∧ X.drew.cell? ⟨W.heap.size, 4, none⟩ = some (.int .u32 (v : Int))) := hid ⟨HW0.out _ HB.out, (HC0.out.1.on (Below.refl X.heap.size X).drew).cell 4⟩
  refine wp_region_held_drew (S := fun w => w.cell? ⟨b, o + q, none⟩ = some (.int .u32 (v : Int)) ∧ w.cell? ⟨W.heap.size, 4, none⟩ = some (.int .u32 (v : Int))) (by kernel_rfl) HS.out (fun hHeld => ?_)
  refine tk 0 ⟨some 36, .move (.tmp 2), 24, "outright.go:77", #[], none⟩ (.slice (some ⟨b, o, none⟩) N c) ?_
  simp only [Act.put, List.setIfInBounds_toArray, List.set_cons_zero, List.set_cons_succ]
  refine tk 1 ⟨some 37, .move (.tmp 3), 3, "outright.go:77", #[], none⟩ (.int .i64 (q : Int)) ?_
  simp only [Act.put, List.setIfInBounds_toArray, List.set_cons_zero, List.set_cons_succ]
  refine tk 2 ⟨some 38, .indexAddr 24 (.tmp 36) (.tmp 37), 0, "outright.go:77", #[⟨0, .data⟩, ⟨1, .data⟩], none⟩ (.pointer (some ⟨b, o + q, none⟩)) ?_
  simp only [Act.put, List.setIfInBounds_toArray, List.set_cons_zero, List.set_cons_succ]
  refine tk 3 ⟨some 39, .load 22 (.tmp 38), 22, "outright.go:77", #[⟨2, .data⟩], none⟩ (.int .u32 (v : Int)) ?_ (hy := Or.inl ⟨by rfl, by intro w hSw; have hc := hSw.1; go_simp⟩)
  simp only [Act.put, List.setIfInBounds_toArray, List.set_cons_zero, List.set_cons_succ]
  refine tk 4 ⟨some 40, .fieldAddr 37 (.tmp 6) 4, 0, "outright.go:77", #[], none⟩ (.pointer (some ⟨W.heap.size, 4, none⟩)) ?_
  simp only [Act.put, List.setIfInBounds_toArray, List.set_cons_zero, List.set_cons_succ]
  refine tk 5 ⟨some 41, .load 22 (.tmp 40), 22, "outright.go:77", #[⟨4, .data⟩], none⟩ (.int .u32 (v : Int)) ?_ (hy := Or.inl ⟨by rfl, by intro w hSw; have hc := hSw.2; go_simp⟩)
  simp only [Act.put, List.setIfInBounds_toArray, List.set_cons_zero, List.set_cons_succ]
  refine tk 6 ⟨some 42, .binOp .eql 22 (.tmp 39) (.tmp 41) 22, 4, "outright.go:77", #[⟨3, .data⟩, ⟨5, .data⟩], none⟩ (.bool true) ?_
  simp only [Act.put, List.setIfInBounds_toArray, List.set_cons_zero, List.set_cons_succ]
  refine wpAnyH_ready (rs := [7]) (by kernel_rfl) (by simp) (AllReadyH.cons (o := ⟨some 12, .assign (.tmp 42), 4, "outright.go:77", #[⟨6, .data⟩, ⟨0, .phase⟩, ⟨1, .phase⟩, ⟨2, .phase⟩, ⟨3, .phase⟩, ⟨4, .phase⟩, ⟨5, .phase⟩, ⟨6, .phase⟩], none⟩) rfl (fun KQ hK => ?_) AllReadyH.nil)
  go_simp
  refine hK.out _ _ HS.out (fun hHeld => ?_)
  clear hK KQ
  try simp only [Act.put, List.setIfInBounds_toArray, List.set_cons_zero, List.set_cons_succ]
  refine wpAnyH_done (by kernel_rfl) ?_ _
  go_wp2_with fail
  go_ret
  exact ⟨rfl, HB.out⟩
theorem right_1 (W : World) (ps : List Pie) (base i : Nat) (ao : Option Addr) (gp c N : Nat) (h : RtIn W ps base i ao gp) (hk : (ps.getD i S.p0).kd = 1) (hN : N = S.plc ps ps.length) :
    Calls Tryz.prog 14 #[pieV (ps.getD i S.p0), .int .i64 (ps.length : Int), .slice ao N c, .int .i64 (S.plc ps i : Int), .slice (some ⟨gp, 0, none⟩) (ps.length + 1) (ps.length + 1), .int .u32 (base : Int)] W fun e w' => e = .returned (.bool true) ∧ Below W.heap.size W w' := by
  have hr := S.room h.i
  have hs : S.szp (ps.getD i S.p0) = 2 := by unfold S.szp; rw [if_pos (show (ps.getD i S.p0).kd = 1 by omega)]
  have HTo := hid (fun w => wi_nat (ps.getD i S.p0).tq ps.length (by have := h.p.len; omega) w)
  have HK : Hid (∀ w, Calls Tryz.prog 17 #[.int .i64 (ps.getD i S.p0).k, .int .i64 0, .int .i64 4] w fun e W' => e = .returned (.int .i64 (((ps.getD i S.p0).kd : Nat) : Int)) ∧ w = W') := hid (fun w => wi_nat (ps.getD i S.p0).k 4 (by omega) w)
  have htg := (ps.getD i S.p0).tg_le ps.length
  have HP : Hid (∀ x, Below W.heap.size W x → x.cell? ⟨gp, (wiI (ps.getD i S.p0).tq 0 ps.length).toNat, none⟩ = some (.int .i64 (S.plc ps ((ps.getD i S.p0).tg ps.length) : Int))) := hid (fun x hx => by
    show x.cell? ⟨gp, (ps.getD i S.p0).tg ps.length, none⟩ = _
    rw [(h.c.on hx).cell, plcC_get _ _ _ (by omega)])
  obtain ⟨b, o, rfl, hwd⟩ := h.word 2 (by omega) (by decide)
  have HW0 : Hid (∀ x, Below W.heap.size W x → x.cell? ⟨b, o + S.plc ps i, none⟩ = some (.int .u32 ((S.half 1 (ps.getD i S.p0).rg ((ps.getD i S.p0).v % 65536) : Nat) : Int))) := hid (fun x hx => by
    have := hwd 0 (by decide) x hx
    rw [Nat.add_zero, (S.at1 h.i hk).1] at this
    exact this)
  have HW1 : Hid (∀ x, Below W.heap.size W x → x.cell? ⟨b, o + (S.plc ps i + 1), none⟩ = some (.int .u32 ((S.half 2 (ps.getD i S.p0).rg ((ps.getD i S.p0).v / 65536) : Nat) : Int))) := hid (fun x hx => by
    have := hwd 1 (by decide) x hx
    rw [(S.at1 h.i hk).2] at this
    exact this)
  have htg1 : (((wiI (ps.getD i S.p0).tq 0 ps.length).toNat : Nat) : Int) ≤ (ps.length : Int) := Int.ofNat_le.2 htg
  have hv := h.p.v i
  have v1 : ((ps.getD i S.p0).v : Int) < 4294967296 := by omega
  have pl0 := S.plc_le ps ((ps.getD i S.p0).tg ps.length)
  have pl1 := S.plc_le ps i
  have hn := h.p.len
  have hi := h.i
  have n1 : (ps.length : Int) ≤ 300 := by omega
  have q1 : (S.plc ps i : Int) < (N : Int) := by omega
  have q2 : (S.plc ps i : Int) ≤ 900 := by omega
  have q3 : (S.plc ps ((ps.getD i S.p0).tg ps.length) : Int) ≤ 900 := by omega
  have q4 : (S.plc ps i : Int) + 1 < (N : Int) := by omega
  have hrg := (ps.getD i S.p0).rg_le
  have r1 : (((wiI (ps.getD i S.p0).a 0 14).toNat : Nat) : Int) ≤ 14 := Int.ofNat_le.2 hrg
  have HA := hid (fun w => wi_nat (ps.getD i S.p0).a 14 (by omega) w)
  have HE1 := hid (fun x (hx : Below W.heap.size W x) => encode_half x (h.a.on hx).t 1 (.inl rfl) (ps.getD i S.p0).rg ((ps.getD i S.p0).v % 65536) hrg (by omega))
  have HE2 := hid (fun x (hx : Below W.heap.size W x) => encode_half x (h.a.on hx).t 2 (.inr rfl) (ps.getD i S.p0).rg ((ps.getD i S.p0).v / 65536) hrg (by omega))
  have m1 : (((ps.getD i S.p0).v % 65536 : Nat) : Int) < 65536 := by omega
  have m2 : (((ps.getD i S.p0).v / 65536 : Nat) : Int) < 65536 := by omega
  have ea : bits .and .u32 ((ps.getD i S.p0).v : Int) 65535 = (((ps.getD i S.p0).v % 65536 : Nat) : Int) := by rw [and16 _ (by omega) (by omega)]; omega
  have es : ((ps.getD i S.p0).v : Int) / 65536 = (((ps.getD i S.p0).v / 65536 : Nat) : Int) := by omega
  have ew1 := wrap_le (((ps.getD i S.p0).v % 65536 : Nat) : Int) (Int.natCast_nonneg _) m1
  have ew2 := wrap_le (((ps.getD i S.p0).v / 65536 : Nat) : Int) (Int.natCast_nonneg _) m2
  clear hrg
  generalize S.half 1 (ps.getD i S.p0).rg ((ps.getD i S.p0).v % 65536) = h1 at *
  generalize S.half 2 (ps.getD i S.p0).rg ((ps.getD i S.p0).v / 65536) = h2 at *
  unfold Pie.rg at HE1 HE2
  generalize (wiI (ps.getD i S.p0).a 0 14).toNat = r at *
  generalize (ps.getD i S.p0).v % 65536 = vl at *
  generalize (ps.getD i S.p0).v / 65536 = vh at *
  rw [hk] at HK
  unfold pieV pieC
  clear h hk hwd hN hr hs htg pl0 pl1 hn hi
  generalize S.plc ps ((ps.getD i S.p0).tg ps.length) = T at *
  generalize S.plc ps i = q at *
  generalize (wiI (ps.getD i S.p0).tq 0 ps.length).toNat = t at *
  generalize ps.length = n at *
  generalize ps.getD i S.p0 = P at *
  obtain ⟨k, a, cd, d, v⟩ := P
  simp only at *
  have HC0 : Hid (Cel (W.alloc (.cells #[.int .i64 k, .int .i64 a, .int .i64 cd, .int .i64 d, .int .u32 (v : Int)] 37)) W.heap.size 37 [.int .i64 k, .int .i64 a, .int .i64 cd, .int .i64 d, .int .u32 (v : Int)] ∧ Below W.heap.size W (W.alloc (.cells #[.int .i64 k, .int .i64 a, .int .i64 cd, .int .i64 d, .int .u32 (v : Int)] 37))) := hid ⟨Cel.new _ _ _, below_one _ _⟩
  go_enter Tryz.func14, Tryz.ntmps14
  go_wp2_with fail
  refine (HTo.out _).mono ?_
  rintro e w1 ⟨rfl, rfl⟩
  generalize W.alloc (Obj.cells _ 37) = X at *
  have f0 := HC0.out.1.cell 0
  have fp := HP.out _ HC0.out.2
  go_wp2_with fail
  refine (HK.out _).mono ?_
  rintro e w1 ⟨rfl, rfl⟩
  have f1 := HC0.out.1.cell 1
  have f4 := HC0.out.1.cell 4
  go_wp2_with fail
  refine (HA.out _).mono ?_
  rintro e w1 ⟨rfl, rfl⟩
  go_wp2_with fail
  refine (HE1.out _ HC0.out.2).mono ?_
  rintro e w2 ⟨rfl, hb2⟩
  have HC2 := hid (And.intro (HC0.out.1.on hb2) (below_on HC0.out.2 hb2))
  clear hb2 f1 f4
  have f4 := HC2.out.1.cell 4
  go_wp2_with fail
  refine (HE2.out _ HC2.out.2).mono ?_
  rintro e w3 ⟨rfl, hb3⟩
  have HC3 := hid (below_on HC2.out.2 hb3)
  clear hb3 f4
  have fa := HW0.out _ HC3.out
  have fb := HW1.out _ HC3.out
  go_wp2_with fail
  go_ret
  exact ⟨rfl, HC3.out⟩
theorem right_2o (W : World) (ps : List Pie) (base i : Nat) (ao : Option Addr) (gp c N : Nat) (h : RtIn W ps base i ao gp) (hk : (ps.getD i S.p0).kd = 2) (ho : (ps.getD i S.p0).odd = true) (hN : N = S.plc ps ps.length) :
    Calls Tryz.prog 14 #[pieV (ps.getD i S.p0), .int .i64 (ps.length : Int), .slice ao N c, .int .i64 (S.plc ps i : Int), .slice (some ⟨gp, 0, none⟩) (ps.length + 1) (ps.length + 1), .int .u32 (base : Int)] W fun e w' => e = .returned (.bool true) ∧ Below W.heap.size W w' := by
  have hr := S.room h.i
  have hs : S.szp (ps.getD i S.p0) = 1 := by unfold S.szp; rw [if_neg (show ¬ (ps.getD i S.p0).kd = 1 by omega), if_neg (show ¬ (ps.getD i S.p0).kd = 4 by omega)]
  have HTo := hid (fun w => wi_nat (ps.getD i S.p0).tq ps.length (by have := h.p.len; omega) w)
  have HK : Hid (∀ w, Calls Tryz.prog 17 #[.int .i64 (ps.getD i S.p0).k, .int .i64 0, .int .i64 4] w fun e W' => e = .returned (.int .i64 (((ps.getD i S.p0).kd : Nat) : Int)) ∧ w = W') := hid (fun w => wi_nat (ps.getD i S.p0).k 4 (by omega) w)
  have htg := (ps.getD i S.p0).tg_le ps.length
  have HP : Hid (∀ x, Below W.heap.size W x → x.cell? ⟨gp, (wiI (ps.getD i S.p0).tq 0 ps.length).toNat, none⟩ = some (.int .i64 (S.plc ps ((ps.getD i S.p0).tg ps.length) : Int))) := hid (fun x hx => by
    show x.cell? ⟨gp, (ps.getD i S.p0).tg ps.length, none⟩ = _
    rw [(h.c.on hx).cell, plcC_get _ _ _ (by omega)])
  obtain ⟨b, o, rfl, hwd⟩ := h.word 1 (by omega) (by decide)
  have hn0 := h.p.len
  have pm0 := S.plc_le ps ((ps.getD i S.p0).tg ps.length)
  have pm1 := S.plc_le ps i
  have hi0 := h.i
  have hchk : chk ⟨22, 0, 0, 0, 0, (S.plc ps ((ps.getD i S.p0).tg ps.length) : Int) - S.plc ps i - 1⟩ = 0 := chk_bl _ (by omega) (by omega)
  have hbk := dec_back hchk
  have hbo := enc_bounds ⟨22, 0, 0, 0, 0, (S.plc ps ((ps.getD i S.p0).tg ps.length) : Int) - S.plc ps i - 1⟩
  have hwe : ((S.FW ps base ps.length).getD (S.plc ps i) 0 : Int) = enc ⟨22, 0, 0, 0, 0, (S.plc ps ((ps.getD i S.p0).tg ps.length) : Int) - S.plc ps i - 1⟩ := by
    rw [S.at2 h.i hk, if_pos ho, if_pos ho]
    omega
  obtain ⟨w9, hw9⟩ : ∃ w : Nat, w = (S.FW ps base ps.length).getD (S.plc ps i) 0 := ⟨_, rfl⟩
  rw [← hw9] at hwe
  rw [← hwe] at hbk hbo
  have HW0 : Hid (∀ x, Below W.heap.size W x → x.cell? ⟨b, o + S.plc ps i, none⟩ = some (.int .u32 (w9 : Int))) := hid (fun x hx => by
    have := hwd 0 (by decide) x hx
    rw [Nat.add_zero, ← hw9] at this
    exact this)
  have HD : Hid (∀ x, Below W.heap.size W x → Calls Tryz.prog 29 #[.int .u32 (w9 : Int)] x fun e w' => e = .returned (.tuple #[.agg #[.int .i64 22, .int .i64 0, .int .i64 0, .int .i64 0, .int .i64 0, .int .i32 ((S.plc ps ((ps.getD i S.p0).tg ps.length) : Int) - S.plc ps i - 1)], .int .i64 0]) ∧ Below x.heap.size x w') := hid (fun x hx => by
    have h0 := decode_any x (h.t.on hx).f (h.t.on hx).t (by have := (h.t.on hx).z; omega) (w9 : Int) hbo.1 hbo.2
    rw [hbk.1, hbk.2] at h0
    exact h0)
  clear hbk hbo hwe hw9 hchk hn0 pm0 pm1 hi0
  have htg1 : (((wiI (ps.getD i S.p0).tq 0 ps.length).toNat : Nat) : Int) ≤ (ps.length : Int) := Int.ofNat_le.2 htg
  have hv := h.p.v i
  have v1 : ((ps.getD i S.p0).v : Int) < 4294967296 := by omega
  have pl0 := S.plc_le ps ((ps.getD i S.p0).tg ps.length)
  have pl1 := S.plc_le ps i
  have hn := h.p.len
  have hi := h.i
  have n1 : (ps.length : Int) ≤ 300 := by omega
  have q1 : (S.plc ps i : Int) < (N : Int) := by omega
  have q2 : (S.plc ps i : Int) ≤ 900 := by omega
  have q3 : (S.plc ps ((ps.getD i S.p0).tg ps.length) : Int) ≤ 900 := by omega
  have HC := hid (fun w => wi_nat (ps.getD i S.p0).cd 6 (by omega) w)
  have hcn := (ps.getD i S.p0).cn_le
  have k1 : (((wiI (ps.getD i S.p0).cd 0 6).toNat : Nat) : Int) ≤ 6 := Int.ofNat_le.2 hcn
  have m1 : ((ps.getD i S.p0).a.tmod 2 != 0) = true := ho
  clear hcn ho
  generalize (wiI (ps.getD i S.p0).cd 0 6).toNat = cn at *
  obtain ⟨dd, hdd⟩ : ∃ dd : Int, dd = (S.plc ps ((ps.getD i S.p0).tg ps.length) : Int) - S.plc ps i - 1 := ⟨_, rfl⟩
  have hd1 : (S.plc ps i : Int) + 1 + dd = (S.plc ps ((ps.getD i S.p0).tg ps.length) : Int) := by omega
  have hd2 : -1000 ≤ dd := by omega
  have hd3 : dd ≤ 1000 := by omega
  rw [← hdd] at HD
  clear hdd
  rw [hk] at HK
  unfold pieV pieC
  clear h hk hwd hN hr hs htg pl0 pl1 hn hi
  generalize S.plc ps ((ps.getD i S.p0).tg ps.length) = T at *
  generalize S.plc ps i = q at *
  generalize (wiI (ps.getD i S.p0).tq 0 ps.length).toNat = t at *
  generalize ps.length = n at *
  generalize ps.getD i S.p0 = P at *
  obtain ⟨k, a, cd, d, v⟩ := P
  simp only at *
  have HC0 : Hid (Cel (W.alloc (.cells #[.int .i64 k, .int .i64 a, .int .i64 cd, .int .i64 d, .int .u32 (v : Int)] 37)) W.heap.size 37 [.int .i64 k, .int .i64 a, .int .i64 cd, .int .i64 d, .int .u32 (v : Int)] ∧ Below W.heap.size W (W.alloc (.cells #[.int .i64 k, .int .i64 a, .int .i64 cd, .int .i64 d, .int .u32 (v : Int)] 37))) := hid ⟨Cel.new _ _ _, below_one _ _⟩
  go_enter Tryz.func14, Tryz.ntmps14
  go_wp2_with fail
  refine (HTo.out _).mono ?_
  rintro e w1 ⟨rfl, rfl⟩
  generalize W.alloc (Obj.cells _ 37) = X at *
  have f0 := HC0.out.1.cell 0
  have fp := HP.out _ HC0.out.2
  go_wp2_with fail
  refine (HK.out _).mono ?_
  rintro e w1 ⟨rfl, rfl⟩
  have fw := HW0.out _ HC0.out.2
  have HQ := hid hd1
  clear hd1
  go_wp2_with fail
  refine (HD.out _ HC0.out.2).mono ?_
  rintro e w2 ⟨rfl, hb2⟩
  have HC2 := hid (And.intro (HC0.out.1.on hb2) (below_on HC0.out.2 hb2))
  clear hb2 fw
  go_upto_region 12 with fail
  have HY : Hid (Cel (w2.alloc (.cells #[.int .i64 22, .int .i64 0, .int .i64 0, .int .i64 0, .int .i64 0, .int .i32 dd] 84)) W.heap.size 37 [.int .i64 k, .int .i64 a, .int .i64 cd, .int .i64 d, .int .u32 (v : Int)] ∧ Below W.heap.size W (w2.alloc (.cells #[.int .i64 22, .int .i64 0, .int .i64 0, .int .i64 0, .int .i64 0, .int .i32 dd] 84)) ∧ Cel (w2.alloc (.cells #[.int .i64 22, .int .i64 0, .int .i64 0, .int .i64 0, .int .i64 0, .int .i32 dd] 84)) w2.heap.size 84 [.int .i64 22, .int .i64 0, .int .i64 0, .int .i64 0, .int .i64 0, .int .i32 dd]) := hid ⟨HC2.out.1.on (below_one _ _), below_on HC2.out.2 (below_one _ _), Cel.new _ _ _⟩
  generalize w2.alloc _ = Y at *
  generalize w2.heap.size = g9 at *
  have f1 := HY.out.1.cell 1
  have f2 := HY.out.1.cell 2
  have y0 := HY.out.2.2.cell 0
  have y1 := HY.out.2.2.cell 1
  have y5 := HY.out.2.2.cell 5
  go_wp2_with fail
  refine (HC.out _).mono ?_
  rintro e w1 ⟨rfl, rfl⟩
  have e9 := HQ.out
  go_wp2_with fail
  go_ret
  exact ⟨ret_bool (by simp <;> omega), HY.out.2.1⟩
theorem right_2e (W : World) (ps : List Pie) (base i : Nat) (ao : Option Addr) (gp c N : Nat) (h : RtIn W ps base i ao gp) (hk : (ps.getD i S.p0).kd = 2) (ho : ¬ (ps.getD i S.p0).odd = true) (hN : N = S.plc ps ps.length) :
    Calls Tryz.prog 14 #[pieV (ps.getD i S.p0), .int .i64 (ps.length : Int), .slice ao N c, .int .i64 (S.plc ps i : Int), .slice (some ⟨gp, 0, none⟩) (ps.length + 1) (ps.length + 1), .int .u32 (base : Int)] W fun e w' => e = .returned (.bool true) ∧ Below W.heap.size W w' := by
  have hr := S.room h.i
  have hs : S.szp (ps.getD i S.p0) = 1 := by unfold S.szp; rw [if_neg (show ¬ (ps.getD i S.p0).kd = 1 by omega), if_neg (show ¬ (ps.getD i S.p0).kd = 4 by omega)]
  have HTo := hid (fun w => wi_nat (ps.getD i S.p0).tq ps.length (by have := h.p.len; omega) w)
  have HK : Hid (∀ w, Calls Tryz.prog 17 #[.int .i64 (ps.getD i S.p0).k, .int .i64 0, .int .i64 4] w fun e W' => e = .returned (.int .i64 (((ps.getD i S.p0).kd : Nat) : Int)) ∧ w = W') := hid (fun w => wi_nat (ps.getD i S.p0).k 4 (by omega) w)
  have htg := (ps.getD i S.p0).tg_le ps.length
  have HP : Hid (∀ x, Below W.heap.size W x → x.cell? ⟨gp, (wiI (ps.getD i S.p0).tq 0 ps.length).toNat, none⟩ = some (.int .i64 (S.plc ps ((ps.getD i S.p0).tg ps.length) : Int))) := hid (fun x hx => by
    show x.cell? ⟨gp, (ps.getD i S.p0).tg ps.length, none⟩ = _
    rw [(h.c.on hx).cell, plcC_get _ _ _ (by omega)])
  obtain ⟨b, o, rfl, hwd⟩ := h.word 1 (by omega) (by decide)
  have hn0 := h.p.len
  have pm0 := S.plc_le ps ((ps.getD i S.p0).tg ps.length)
  have pm1 := S.plc_le ps i
  have hi0 := h.i
  have hchk : chk ⟨21, ((ps.getD i S.p0).cn : Int), 0, 0, 0, (S.plc ps ((ps.getD i S.p0).tg ps.length) : Int) - S.plc ps i - 1⟩ = 0 := chk_b _ _ (ps.getD i S.p0).cn_le (by omega) (by omega)
  have hbk := dec_back hchk
  have hbo := enc_bounds ⟨21, ((ps.getD i S.p0).cn : Int), 0, 0, 0, (S.plc ps ((ps.getD i S.p0).tg ps.length) : Int) - S.plc ps i - 1⟩
  have hwe : ((S.FW ps base ps.length).getD (S.plc ps i) 0 : Int) = enc ⟨21, ((ps.getD i S.p0).cn : Int), 0, 0, 0, (S.plc ps ((ps.getD i S.p0).tg ps.length) : Int) - S.plc ps i - 1⟩ := by
    rw [S.at2 h.i hk, if_neg ho, if_neg ho]
    omega
  obtain ⟨w9, hw9⟩ : ∃ w : Nat, w = (S.FW ps base ps.length).getD (S.plc ps i) 0 := ⟨_, rfl⟩
  rw [← hw9] at hwe
  rw [← hwe] at hbk hbo
  have HW0 : Hid (∀ x, Below W.heap.size W x → x.cell? ⟨b, o + S.plc ps i, none⟩ = some (.int .u32 (w9 : Int))) := hid (fun x hx => by
    have := hwd 0 (by decide) x hx
    rw [Nat.add_zero, ← hw9] at this
    exact this)
  have HD : Hid (∀ x, Below W.heap.size W x → Calls Tryz.prog 29 #[.int .u32 (w9 : Int)] x fun e w' => e = .returned (.tuple #[.agg #[.int .i64 21, .int .i64 ((ps.getD i S.p0).cn : Int), .int .i64 0, .int .i64 0, .int .i64 0, .int .i32 ((S.plc ps ((ps.getD i S.p0).tg ps.length) : Int) - S.plc ps i - 1)], .int .i64 0]) ∧ Below x.heap.size x w') := hid (fun x hx => by
    have h0 := decode_any x (h.t.on hx).f (h.t.on hx).t (by have := (h.t.on hx).z; omega) (w9 : Int) hbo.1 hbo.2
    rw [hbk.1, hbk.2] at h0
    exact h0)
  clear hbk hbo hwe hw9 hchk hn0 pm0 pm1 hi0
  have htg1 : (((wiI (ps.getD i S.p0).tq 0 ps.length).toNat : Nat) : Int) ≤ (ps.length : Int) := Int.ofNat_le.2 htg
  have hv := h.p.v i
  have v1 : ((ps.getD i S.p0).v : Int) < 4294967296 := by omega
  have pl0 := S.plc_le ps ((ps.getD i S.p0).tg ps.length)
  have pl1 := S.plc_le ps i
  have hn := h.p.len
  have hi := h.i
  have n1 : (ps.length : Int) ≤ 300 := by omega
  have q1 : (S.plc ps i : Int) < (N : Int) := by omega
  have q2 : (S.plc ps i : Int) ≤ 900 := by omega
  have q3 : (S.plc ps ((ps.getD i S.p0).tg ps.length) : Int) ≤ 900 := by omega
  have HC := hid (fun w => wi_nat (ps.getD i S.p0).cd 6 (by omega) w)
  have hcn := (ps.getD i S.p0).cn_le
  have k1 : (((wiI (ps.getD i S.p0).cd 0 6).toNat : Nat) : Int) ≤ 6 := Int.ofNat_le.2 hcn
  have m1 : (ps.getD i S.p0).a.tmod 2 = 0 := by unfold Pie.odd at ho; simpa using ho
  unfold Pie.cn at HD
  clear hcn ho
  generalize (wiI (ps.getD i S.p0).cd 0 6).toNat = cn at *
  obtain ⟨dd, hdd⟩ : ∃ dd : Int, dd = (S.plc ps ((ps.getD i S.p0).tg ps.length) : Int) - S.plc ps i - 1 := ⟨_, rfl⟩
  have hd1 : (S.plc ps i : Int) + 1 + dd = (S.plc ps ((ps.getD i S.p0).tg ps.length) : Int) := by omega
  have hd2 : -1000 ≤ dd := by omega
  have hd3 : dd ≤ 1000 := by omega
  rw [← hdd] at HD
  clear hdd
  rw [hk] at HK
  unfold pieV pieC
  clear h hk hwd hN hr hs htg pl0 pl1 hn hi
  generalize S.plc ps ((ps.getD i S.p0).tg ps.length) = T at *
  generalize S.plc ps i = q at *
  generalize (wiI (ps.getD i S.p0).tq 0 ps.length).toNat = t at *
  generalize ps.length = n at *
  generalize ps.getD i S.p0 = P at *
  obtain ⟨k, a, cd, d, v⟩ := P
  simp only at *
  have HC0 : Hid (Cel (W.alloc (.cells #[.int .i64 k, .int .i64 a, .int .i64 cd, .int .i64 d, .int .u32 (v : Int)] 37)) W.heap.size 37 [.int .i64 k, .int .i64 a, .int .i64 cd, .int .i64 d, .int .u32 (v : Int)] ∧ Below W.heap.size W (W.alloc (.cells #[.int .i64 k, .int .i64 a, .int .i64 cd, .int .i64 d, .int .u32 (v : Int)] 37))) := hid ⟨Cel.new _ _ _, below_one _ _⟩
  go_enter Tryz.func14, Tryz.ntmps14
  go_wp2_with fail
  refine (HTo.out _).mono ?_
  rintro e w1 ⟨rfl, rfl⟩
  generalize W.alloc (Obj.cells _ 37) = X at *
  have f0 := HC0.out.1.cell 0
  have fp := HP.out _ HC0.out.2
  go_wp2_with fail
  refine (HK.out _).mono ?_
  rintro e w1 ⟨rfl, rfl⟩
  have fw := HW0.out _ HC0.out.2
  have HQ := hid hd1
  clear hd1
  go_wp2_with fail
  refine (HD.out _ HC0.out.2).mono ?_
  rintro e w2 ⟨rfl, hb2⟩
  have HC2 := hid (And.intro (HC0.out.1.on hb2) (below_on HC0.out.2 hb2))
  clear hb2 fw
  go_upto_region 12 with fail
  have HY : Hid (Cel (w2.alloc (.cells #[.int .i64 21, .int .i64 (cn : Int), .int .i64 0, .int .i64 0, .int .i64 0, .int .i32 dd] 84)) W.heap.size 37 [.int .i64 k, .int .i64 a, .int .i64 cd, .int .i64 d, .int .u32 (v : Int)] ∧ Below W.heap.size W (w2.alloc (.cells #[.int .i64 21, .int .i64 (cn : Int), .int .i64 0, .int .i64 0, .int .i64 0, .int .i32 dd] 84)) ∧ Cel (w2.alloc (.cells #[.int .i64 21, .int .i64 (cn : Int), .int .i64 0, .int .i64 0, .int .i64 0, .int .i32 dd] 84)) w2.heap.size 84 [.int .i64 21, .int .i64 (cn : Int), .int .i64 0, .int .i64 0, .int .i64 0, .int .i32 dd]) := hid ⟨HC2.out.1.on (below_one _ _), below_on HC2.out.2 (below_one _ _), Cel.new _ _ _⟩
  generalize w2.alloc _ = Y at *
  generalize w2.heap.size = g9 at *
  have f1 := HY.out.1.cell 1
  have f2 := HY.out.1.cell 2
  have y0 := HY.out.2.2.cell 0
  have y1 := HY.out.2.2.cell 1
  have y5 := HY.out.2.2.cell 5
  go_wp2_with fail
  refine (HC.out _).mono ?_
  rintro e w1 ⟨rfl, rfl⟩
  have e9 := HQ.out
  go_wp2_with fail
  go_ret
  exact ⟨ret_bool (by simp <;> omega), HY.out.2.1⟩
theorem right_3 (W : World) (ps : List Pie) (base i : Nat) (ao : Option Addr) (gp c N : Nat) (h : RtIn W ps base i ao gp) (hk : (ps.getD i S.p0).kd = 3) (hN : N = S.plc ps ps.length) :
    Calls Tryz.prog 14 #[pieV (ps.getD i S.p0), .int .i64 (ps.length : Int), .slice ao N c, .int .i64 (S.plc ps i : Int), .slice (some ⟨gp, 0, none⟩) (ps.length + 1) (ps.length + 1), .int .u32 (base : Int)] W fun e w' => e = .returned (.bool true) ∧ Below W.heap.size W w' := by
  have hr := S.room h.i
  have hs : S.szp (ps.getD i S.p0) = 1 := by unfold S.szp; rw [if_neg (show ¬ (ps.getD i S.p0).kd = 1 by omega), if_neg (show ¬ (ps.getD i S.p0).kd = 4 by omega)]
  have HTo := hid (fun w => wi_nat (ps.getD i S.p0).tq ps.length (by have := h.p.len; omega) w)
  have HK : Hid (∀ w, Calls Tryz.prog 17 #[.int .i64 (ps.getD i S.p0).k, .int .i64 0, .int .i64 4] w fun e W' => e = .returned (.int .i64 (((ps.getD i S.p0).kd : Nat) : Int)) ∧ w = W') := hid (fun w => wi_nat (ps.getD i S.p0).k 4 (by omega) w)
  have htg := (ps.getD i S.p0).tg_le ps.length
  have HP : Hid (∀ x, Below W.heap.size W x → x.cell? ⟨gp, (wiI (ps.getD i S.p0).tq 0 ps.length).toNat, none⟩ = some (.int .i64 (S.plc ps ((ps.getD i S.p0).tg ps.length) : Int))) := hid (fun x hx => by
    show x.cell? ⟨gp, (ps.getD i S.p0).tg ps.length, none⟩ = _
    rw [(h.c.on hx).cell, plcC_get _ _ _ (by omega)])
  obtain ⟨b, o, rfl, hwd⟩ := h.word 1 (by omega) (by decide)
  have HW0 : Hid (∀ x, Below W.heap.size W x → x.cell? ⟨b, o + S.plc ps i, none⟩ = some (.int .u32 (((base + 4 * S.plc ps ((ps.getD i S.p0).tg ps.length)) % 4294967296 : Nat) : Int))) := hid (fun x hx => by
    have := hwd 0 (by decide) x hx
    rw [Nat.add_zero, S.at3 h.i hk] at this
    exact this)
  have htg1 : (((wiI (ps.getD i S.p0).tq 0 ps.length).toNat : Nat) : Int) ≤ (ps.length : Int) := Int.ofNat_le.2 htg
  have hv := h.p.v i
  have v1 : ((ps.getD i S.p0).v : Int) < 4294967296 := by omega
  have pl0 := S.plc_le ps ((ps.getD i S.p0).tg ps.length)
  have pl1 := S.plc_le ps i
  have hn := h.p.len
  have hi := h.i
  have n1 : (ps.length : Int) ≤ 300 := by omega
  have q1 : (S.plc ps i : Int) < (N : Int) := by omega
  have q2 : (S.plc ps i : Int) ≤ 900 := by omega
  have q3 : (S.plc ps ((ps.getD i S.p0).tg ps.length) : Int) ≤ 900 := by omega
  have b1 : (base : Int) < 4294967296 := by have := h.b; omega
  rw [hk] at HK
  unfold pieV pieC
  clear h hk hwd hN hr hs htg pl0 pl1 hn hi
  generalize S.plc ps ((ps.getD i S.p0).tg ps.length) = T at *
  generalize S.plc ps i = q at *
  generalize (wiI (ps.getD i S.p0).tq 0 ps.length).toNat = t at *
  generalize ps.length = n at *
  generalize ps.getD i S.p0 = P at *
  obtain ⟨k, a, cd, d, v⟩ := P
  simp only at *
  have HC0 : Hid (Cel (W.alloc (.cells #[.int .i64 k, .int .i64 a, .int .i64 cd, .int .i64 d, .int .u32 (v : Int)] 37)) W.heap.size 37 [.int .i64 k, .int .i64 a, .int .i64 cd, .int .i64 d, .int .u32 (v : Int)] ∧ Below W.heap.size W (W.alloc (.cells #[.int .i64 k, .int .i64 a, .int .i64 cd, .int .i64 d, .int .u32 (v : Int)] 37))) := hid ⟨Cel.new _ _ _, below_one _ _⟩
  go_enter Tryz.func14, Tryz.ntmps14
  go_wp2_with fail
  refine (HTo.out _).mono ?_
  rintro e w1 ⟨rfl, rfl⟩
  generalize W.alloc (Obj.cells _ 37) = X at *
  have f0 := HC0.out.1.cell 0
  have fp := HP.out _ HC0.out.2
  go_wp2_with fail
  refine (HK.out _).mono ?_
  rintro e w1 ⟨rfl, rfl⟩
  have fw := HW0.out _ HC0.out.2
  go_wp2_with fail
  go_ret
  exact ⟨ret_bool (by simp), HC0.out.2⟩
theorem right_4 (W : World) (ps : List Pie) (base i : Nat) (ao : Option Addr) (gp c N : Nat) (h : RtIn W ps base i ao gp) (hk : (ps.getD i S.p0).kd = 4) (hN : N = S.plc ps ps.length) :
    Calls Tryz.prog 14 #[pieV (ps.getD i S.p0), .int .i64 (ps.length : Int), .slice ao N c, .int .i64 (S.plc ps i : Int), .slice (some ⟨gp, 0, none⟩) (ps.length + 1) (ps.length + 1), .int .u32 (base : Int)] W fun e w' => e = .returned (.bool true) ∧ Below W.heap.size W w' := by
  have hr := S.room h.i
  have hs : S.szp (ps.getD i S.p0) = (ps.getD i S.p0).v % 4 := by unfold S.szp; rw [if_neg (show ¬ (ps.getD i S.p0).kd = 1 by omega), if_pos (show (ps.getD i S.p0).kd = 4 by omega)]
  have HTo := hid (fun w => wi_nat (ps.getD i S.p0).tq ps.length (by have := h.p.len; omega) w)
  have HK : Hid (∀ w, Calls Tryz.prog 17 #[.int .i64 (ps.getD i S.p0).k, .int .i64 0, .int .i64 4] w fun e W' => e = .returned (.int .i64 (((ps.getD i S.p0).kd : Nat) : Int)) ∧ w = W') := hid (fun w => wi_nat (ps.getD i S.p0).k 4 (by omega) w)
  have htg := (ps.getD i S.p0).tg_le ps.length
  have HP : Hid (∀ x, Below W.heap.size W x → x.cell? ⟨gp, (wiI (ps.getD i S.p0).tq 0 ps.length).toNat, none⟩ = some (.int .i64 (S.plc ps ((ps.getD i S.p0).tg ps.length) : Int))) := hid (fun x hx => by
    show x.cell? ⟨gp, (ps.getD i S.p0).tg ps.length, none⟩ = _
    rw [(h.c.on hx).cell, plcC_get _ _ _ (by omega)])
  have HWj : Hid (∀ j, j < (ps.getD i S.p0).v % 4 → ∃ b o, ao = some ⟨b, o, none⟩ ∧ ∀ x, Below W.heap.size W x → x.cell? ⟨b, o + (S.plc ps i + j), none⟩ = some (.int .u32 0)) := hid (fun j hj => by
    obtain ⟨b, o, e, hwd⟩ := h.word ((ps.getD i S.p0).v % 4) (by omega) (by omega)
    refine ⟨b, o, e, fun x hx => ?_⟩
    have := hwd j hj x hx
    rw [S.at4 h.i hk j hj] at this
    exact this)
  have htg1 : (((wiI (ps.getD i S.p0).tq 0 ps.length).toNat : Nat) : Int) ≤ (ps.length : Int) := Int.ofNat_le.2 htg
  have hv := h.p.v i
  have v1 : ((ps.getD i S.p0).v : Int) < 4294967296 := by omega
  have pl0 := S.plc_le ps ((ps.getD i S.p0).tg ps.length)
  have pl1 := S.plc_le ps i
  have hn := h.p.len
  have hi := h.i
  have n1 : (ps.length : Int) ≤ 300 := by omega
  have q1 : (S.plc ps i : Int) + (((ps.getD i S.p0).v % 4 : Nat) : Int) ≤ (N : Int) := by omega
  have q2 : (S.plc ps i : Int) ≤ 900 := by omega
  have q3 : (S.plc ps ((ps.getD i S.p0).tg ps.length) : Int) ≤ 900 := by omega
  have e5 : ((ps.getD i S.p0).v : Int) % 4 = (((ps.getD i S.p0).v % 4 : Nat) : Int) := by omega
  have e4 : ((ps.getD i S.p0).v : Int).tmod 4 = (((ps.getD i S.p0).v % 4 : Nat) : Int) := by rw [Int.tmod_eq_emod_of_nonneg (by omega)]; exact e5
  have c4 : (((ps.getD i S.p0).v % 4 : Nat) : Int) ≤ 3 := by omega
  rw [hk] at HK
  unfold pieV pieC
  clear h hk hN hr hs htg pl0 pl1 hn hi
  generalize S.plc ps ((ps.getD i S.p0).tg ps.length) = T at *
  generalize S.plc ps i = q at *
  generalize (ps.getD i S.p0).v % 4 = m at *
  generalize (wiI (ps.getD i S.p0).tq 0 ps.length).toNat = t at *
  generalize ps.length = n at *
  generalize ps.getD i S.p0 = P at *
  obtain ⟨k, a, cd, d, v⟩ := P
  simp only at *
  have HC0 : Hid (Cel (W.alloc (.cells #[.int .i64 k, .int .i64 a, .int .i64 cd, .int .i64 d, .int .u32 (v : Int)] 37)) W.heap.size 37 [.int .i64 k, .int .i64 a, .int .i64 cd, .int .i64 d, .int .u32 (v : Int)] ∧ Below W.heap.size W (W.alloc (.cells #[.int .i64 k, .int .i64 a, .int .i64 cd, .int .i64 d, .int .u32 (v : Int)] 37))) := hid ⟨Cel.new _ _ _, below_one _ _⟩
  go_enter Tryz.func14, Tryz.ntmps14
  go_wp2_with fail
  refine (HTo.out _).mono ?_
  rintro e w1 ⟨rfl, rfl⟩
  generalize W.alloc (Obj.cells _ 37) = X at *
  have f0 := HC0.out.1.cell 0
  have fp := HP.out _ HC0.out.2
  go_wp2_with fail
  refine (HK.out _).mono ?_
  rintro e w1 ⟨rfl, rfl⟩
  have f4 := HC0.out.1.cell 4
  go_upto_region 21 with fail
  go_loopw [23] (fun j wr => ∃ u : Nat, u ≤ m ∧ j = .int .i64 (u : Int) ∧ wr = X) (fun j _ => m - (intOf j).toNat)
  case atStart => exact ⟨0, Nat.zero_le _, rfl, rfl⟩
  case round =>
    obtain ⟨u, hu, rfl, rfl⟩ := hrel
    by_cases hlt : u < m
    · obtain ⟨b, o, rfl, hc⟩ := HWj.out u hlt
      have fw := hc _ HC0.out.2
      have u1 : (u : Int) < (m : Int) := by omega
      have u2 : (q : Int) + (u : Int) < (N : Int) := by omega
      clear hc
      go_wp2_with fail
      go_roundw
      case measure => simp [intOf] <;> omega
      case rel => exact ⟨u + 1, by omega, by simp⟩
    · have hum : u = m := by omega
      subst hum
      go_wp2_with fail
      go_ret
      exact ⟨rfl, HC0.out.2⟩
theorem right_any (W : World) (ps : List Pie) (base i : Nat) (ao : Option Addr) (gp c N : Nat) (h : RtIn W ps base i ao gp) (hN : N = S.plc ps ps.length) :
    Calls Tryz.prog 14 #[pieV (ps.getD i S.p0), .int .i64 (ps.length : Int), .slice ao N c, .int .i64 (S.plc ps i : Int), .slice (some ⟨gp, 0, none⟩) (ps.length + 1) (ps.length + 1), .int .u32 (base : Int)] W fun e w' => e = .returned (.bool true) ∧ Below W.heap.size W w' := by
  have hk := (ps.getD i S.p0).kd_le
  rcases (show (ps.getD i S.p0).kd = 0 ∨ (ps.getD i S.p0).kd = 1 ∨ (ps.getD i S.p0).kd = 2 ∨ (ps.getD i S.p0).kd = 3 ∨ (ps.getD i S.p0).kd = 4 by omega) with h0 | h0 | h0 | h0 | h0
  · exact right_0 W ps base i ao gp c N h h0 hN
  · exact right_1 W ps base i ao gp c N h h0 hN
  · by_cases ho : (ps.getD i S.p0).odd = true
    · exact right_2o W ps base i ao gp c N h h0 ho hN
    · exact right_2e W ps base i ao gp c N h h0 ho hN
  · exact right_3 W ps base i ao gp c N h h0 hN
  · exact right_4 W ps base i ao gp c N h h0 hN
end Go.Proofs.YtncnogndopgknaaGreatDoor
