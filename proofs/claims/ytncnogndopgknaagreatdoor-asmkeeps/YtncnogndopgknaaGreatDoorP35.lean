import Derived.Test.YtncnogndopgknaaGreatDoorP34
import Derived.Test.YtncnogndopgknaaGreatDoorP09
import Derived.Test.YtncnogndopgknaaGreatDoorP01
import Derived.Test.YtncnogndopgknaaGreatDoorP11
import Derived.Lib.Walk
import Derived.Lib.ItoaMem
import Derived.BigCall
import Derived.BigGuard
import Derived.Lib.AppendIntMem
import Derived.Test.YtncnogndopgknaaGreatDoorP16
namespace Go.Proofs.YtncnogndopgknaaGreatDoor
open Go.RowKit
theorem bap (a b : List UInt8) : (⟨a.toArray⟩ : ByteArray) ++ ⟨b.toArray⟩ = ⟨(a ++ b).toArray⟩ := by
  apply ByteArray.ext
  rw [ByteArray.data_append]
  simp
theorem bapp (x : UInt8) (t : List UInt8) : (⟨#[x]⟩ : ByteArray) ++ ⟨t.toArray⟩ = ⟨(x :: t).toArray⟩ := by
  apply ByteArray.ext
  rw [ByteArray.data_append]
  simp
theorem ret_str {a b : List UInt8} (h : a = b) : Ending.returned (.string ⟨a.toArray⟩) = .returned (.string ⟨b.toArray⟩) := by rw [h]
theorem sz (l : List UInt8) : (⟨l.toArray⟩ : ByteArray).size = l.length := by simp [ByteArray.size]
structure Ok6 (i : Ins) : Prop where
  op : 1 ≤ i.op ∧ i.op < 25
  a : 0 ≤ i.a ∧ i.a ≤ 14
  b : 0 ≤ i.b ∧ i.b ≤ 14
  c : 0 ≤ i.c ∧ i.c ≤ 14
  cond : 0 ≤ i.cond ∧ i.cond ≤ 6
  imm : -32768 ≤ i.imm ∧ i.imm ≤ 65535
theorem ok6 {w : Int} (h : decE w = 0) : Ok6 (dec w) := by
  obtain ⟨n, hn, h1, h2, h3, h4⟩ := chk_zero (dec_yes h).2
  have := good_bounds h3 h4
  exact ⟨by omega, by omega, by omega, by omega, by omega, by omega⟩
theorem dec_len (u : Nat) (h : u ≤ 4294967296) : (Lib.decDigits u).length ≤ 10 := by
  rw [Lib.decDigits_length]
  exact T.nDigits_le 9 u (by omega)
namespace A
theorem opnds_snoc (i : Ins) (L : List Nat) (l : Nat) (lab : List UInt8) : opnds i (L ++ [l]) lab = opnds i L lab ++ (32 :: opnd i l lab) := by simp [opnds]
theorem itoa_len (n : Int) (h0 : -2147483648 ≤ n) (h1 : n ≤ 2147483647) : (Lib.itoa n).length ≤ 11 := by
  unfold Lib.itoa
  split
  · have := dec_len n.natAbs (by omega)
    simp only [List.length_cons]
    omega
  · have := dec_len n.toNat (by omega)
    omega
theorem cnd_len (c : Int) : (cndI c).size ≤ 2 := by
  unfold cndI
  split
  · rename_i h
    have : ∀ n < 7, (cnd n).size ≤ 2 := by decide +kernel
    exact this c.toNat (by omega)
  · decide
theorem nam_len (c : Int) : (namI c).size ≤ 4 := by
  unfold namI
  split
  · rename_i h
    have : ∀ n < 25, (nam n).size ≤ 4 := by decide +kernel
    exact this c.toNat (by omega)
  · decide
theorem opnd_len (i : Ins) (h : Ok6 i) (l : Nat) (lab : List UInt8) (hl : lab.length ≤ 20) : (opnd i l lab).length ≤ 20 := by
  have h1 := dec_len i.a.toNat (by have := h.a; omega)
  have h2 := dec_len i.b.toNat (by have := h.b; omega)
  have h3 := dec_len i.c.toNat (by have := h.c; omega)
  have h4 : (cndI i.cond).data.toList.length ≤ 2 := cnd_len i.cond
  have h5 := itoa_len i.imm (by have := h.imm; omega) (by have := h.imm; omega)
  unfold opnd
  repeat' split
  all_goals (try simp only [List.length_cons]); omega
theorem opnds_len (i : Ins) (h : Ok6 i) (lab : List UInt8) (hl : lab.length ≤ 20) : ∀ (L : List Nat), (opnds i L lab).length ≤ 21 * L.length
  | [] => by simp [opnds]
  | l :: L => by
    have ih := opnds_len i h lab hl L
    have h1 := opnd_len i h l lab hl
    have e : opnds i (l :: L) lab = 32 :: opnd i l lab ++ opnds i L lab := by simp [opnds]
    rw [e]
    simp only [List.length_cons, List.length_append]
    omega
theorem hexed_len (w : Nat) : (T.hexed8 w).length = 10 := by simp [T.hexed8, T.hexT8_length]
theorem lin_len (w : Int) (lab : List UInt8) (hl : lab.length ≤ 20) : (lin w lab).length ≤ 80 := by
  unfold lin
  split
  · rename_i h
    have h0 := ok6 h
    have h1 := opnds_len (dec w) h0 lab hl (ltr (shpI (dec w).op))
    have h2 : (namI (dec w).op).data.toList.length ≤ 4 := nam_len _
    have h3 := (shpI_ok (dec w).op).1
    rw [ltr_len] at h1
    unfold lineOf
    rw [List.length_append]
    omega
  · rw [List.length_append, hexed_len]; decide
end A
end Go.Proofs.YtncnogndopgknaaGreatDoor
namespace Go.Proofs.YtncnogndopgknaaGreatDoor
open Go.RowKit Go.Sort Go.Lib

abbrev PowTab (w : World) : Prop := Lib.TabIs Tryz.prog w "internal/strconv.uint64pow10" .u64 Lib.pow10Tab
theorem below_grown (w : World) (k : Nat) (os : Array Obj) : Below w.heap.size w (grow (w.drewN k) os) :=
  ⟨rfl, rfl, rfl, by simp [grow], fun i hi => by
    show (w.heap ++ os)[i]? = _
    rw [Array.getElem?_append_left hi]⟩
theorem holds_zero0 (w : World) (T : TypeId) (nd : Nat) (hs : nd ≤ 24) : Holds (fun (b : UInt8) => Value.int .u8 (b.toNat : Int)) (w.alloc (.cells zeros24 T)) w.heap.size 0 (Array.replicate nd (0 : UInt8)) := fun j hj => by
  have hj' : j < nd := by simpa using hj
  refine ⟨?_, World.frozen?_alloc_new _ _ _ _⟩
  rw [World.cell?_alloc_new, zeros24_at _ (by omega), getElem!_pos _ j hj]
  simp
theorem fin_pos0 (w : World) (o : Obj) (dk : Array UInt8) (k : Nat) : ∃ os, (putRow (fun (b : UInt8) => Value.int .u8 (b.toNat : Int)) (w.alloc o) w.heap.size 0 dk).drewN k = grow (w.drewN k) os := by
  rw [alloc_eq_grow]
  obtain ⟨os', _, e⟩ := putRow_grow_new (fun (b : UInt8) => Value.int .u8 (b.toNat : Int)) w #[o] w.heap.size 0 dk (Nat.le_refl _)
  exact ⟨os', by rw [e]; rfl⟩

set_option maxHeartbeats 6400000 in
set_option maxRecDepth 100000 in
theorem fmtUint_in (u : Nat) (hu : u ≤ 4294967295) (w : World) (htab : PowTab w) :
    Calls Tryz.prog 68 #[.int .u64 (u : Int), .int .i64 10] w fun e w' => e = .returned (.string ⟨(Lib.decDigits u).toArray⟩) ∧ Below w.heap.size w w' := by
  by_cases hs : u < 100
  · have c1 : (u : Int) < 100 := by omega
    go_enter Tryz.func68, Tryz.ntmps68
    go_wp2_with (go_at_call 96; refine (Tryz.internal_strconv_small u hs _).mono ?_; rintro e w' ⟨rfl, rfl⟩)
    go_ret
    exact ⟨rfl, Below.refl _ _⟩
  · have c1 : (100 : Int) ≤ (u : Int) := by omega
    have hu1 : 1 ≤ u := by omega
    have hu64 : u < 18446744073709551616 := by omega
    have hnd20 : Lib.nDigits u ≤ 20 := by have := Lib.numDigits_eq u hu1 hu64; split at this <;> omega
    have hal : Tryz.prog.arrayLen 212 = 24 := by simp [Program.arrayLen, Tryz.underlying212]
    have hsl1 : ∀ W, (Instr.sliceAt 212 (.pointer (some ⟨w.heap.size, 0, none⟩)) none (some (.int .i64 (Lib.nDigits u : Int))) none).run Tryz.prog W = .ok (.slice (some ⟨w.heap.size, 0, none⟩) (Lib.nDigits u) 24) W := fun W => by
      rw [run_sliceAt_array_h W 212 ⟨w.heap.size, 0, none⟩ (by simp [Program.arrayLen, Program.elem, Tryz.underlying212]) .i64 (Lib.nDigits u : Int) (by omega) (by rw [hal]; omega)]
      go_simp
    have hH0 := holds_zero0 w 212 (Lib.nDigits u) (by omega)
    have hfmt := Tryz.internal_strconv_formatBase10 w.heap.size 0 24 u (Array.replicate (Lib.nDigits u) 0) (w.alloc (.cells Lib.zeros24 212)) hH0 (by rw [Array.size_replicate]; exact Lib.lt_pow_nDigits u) hu64 (by rw [Array.size_replicate]; omega)
    rw [Array.size_replicate] at hfmt
    have HH0 : Hid _ := hH0
    clear hH0 hal hs
    go_enter Tryz.func68, Tryz.ntmps68
    go_wp2_with (first
      | (go_at_call 97; refine (Tryz.internal_strconv_numDigits u hu1 hu64 _ (Lib.tabIs_alloc htab _)).mono ?_; rintro e w' ⟨rfl, rfl⟩))
    go_at_call 98
    refine hfmt.mono ?_
    rintro e w' ⟨rfl, k, v', dk, rfl, hF⟩
    have hcv : (convert 91 9 (.slice (some ⟨w.heap.size, 0, none⟩) (Lib.nDigits u) 24)).run Tryz.prog ((putRow (fun (b : UInt8) => Value.int .u8 (b.toNat : Int)) (w.alloc (.cells Lib.zeros24 212)) w.heap.size 0 dk).drewN k) = .ok (.string ⟨(Lib.decDigits u).toArray⟩) ((putRow (fun (b : UInt8) => Value.int .u8 (b.toNat : Int)) (w.alloc (.cells Lib.zeros24 212)) w.heap.size 0 dk).drewN k) := by
      have h := run_convert_bytes_back (P := Tryz.prog) ((putRow (fun (b : UInt8) => Value.int .u8 (b.toNat : Int)) (w.alloc (.cells Lib.zeros24 212)) w.heap.size 0 dk).drewN k) 91 9 5 ⟨w.heap.size, 0, none⟩ 24 (Lib.decDigits u) Tryz.underlying91 Tryz.underlying5 Tryz.underlying9 (fun j hj => by
        rw [Lib.row_is_numeral hF j hj, Lib.add_plain, World.cell?_drewN]
        exact cell?_putRow (fun (b : UInt8) => Value.int .u8 (b.toNat : Int)) _ w.heap.size 0 _ dk HH0.out (by rw [hF.size, Array.size_replicate]) j (by rw [hF.size]; rw [Lib.decDigits_length] at hj; exact hj))
      rw [Lib.decDigits_length] at h
      exact h
    go_wp2
    go_ret
    obtain ⟨os, eo⟩ := fin_pos0 w (.cells Lib.zeros24 212) dk k
    exact ⟨rfl, by rw [eo]; exact below_grown _ _ _⟩
theorem tens_text (u : Nat) (hu : u ≤ 4294967295) (w : World) (htab : PowTab w) :
    Calls Tryz.prog 25 #[.int .u32 (u : Int)] w fun e w' => e = .returned (.string ⟨(Lib.decDigits u).toArray⟩) ∧ Below w.heap.size w w' := by
  have c1 : (u : Int) ≤ 4294967295 := by omega
  have H : Hid (Calls Tryz.prog 68 #[.int .u64 (u : Int), .int .i64 10] w fun e w' => e = .returned (.string ⟨(Lib.decDigits u).toArray⟩) ∧ Below w.heap.size w w') := fmtUint_in u hu w htab
  go_enter Tryz.func25, Tryz.ntmps25
  go_wp2_with (first | (go_at_call 41; go_in) | (go_at_call 68; refine H.out.mono ?_; rintro e w' ⟨rfl, hb⟩))
  go_ret
  exact ⟨rfl, hb⟩
theorem minus_text (n : Int) (h0 : -2147483648 ≤ n) (h1 : n ≤ 2147483647) (w : World) (htab : PowTab w) :
    Calls Tryz.prog 75 #[.int .i32 n] w fun e w' => e = .returned (.string ⟨(Lib.itoa n).toArray⟩) ∧ Below w.heap.size w w' := by
  go_enter Tryz.func75, Tryz.ntmps75
  go_wp2_with (first | (go_at_call 100; refine (Tryz.strconv_FormatInt_10 n (by omega) (by omega) _ htab).mono ?_; rintro e w' ⟨rfl, k, os, rfl⟩))
  go_ret
  exact ⟨rfl, below_grown _ _ _⟩
end Go.Proofs.YtncnogndopgknaaGreatDoor
namespace Go.Proofs.YtncnogndopgknaaGreatDoor
open Go.RowKit
structure TB (W : World) : Prop where
  f : Forms W
  t : Tab W
  c : CNames W
  p : PowTab W
  z : 8 < W.heap.size
theorem PowTab.on {W w : World} (h : PowTab W) (hb : Below W.heap.size W w) : PowTab w := Lib.tabBelow_of_tabIs h w hb
theorem TB.on {W w : World} (h : TB W) (hb : Below W.heap.size W w) : TB w := ⟨h.f.below hb (by have := h.z; omega), h.t.below hb (by have := h.z; omega), h.c.below hb (by have := h.z; omega), h.p.on hb, by have := hb.size; have := h.z; omega⟩
theorem TB.fn {W : World} (h : TB W) : FNames W := fun n hn => (h.f n hn).1

theorem regText_any (W : World) (hp : PowTab W) (n : Nat) (hn : n ≤ 14) : Calls Tryz.prog 74 #[.int .i64 (n : Int)] W fun e w' => e = .returned (.string ⟨(114 :: Lib.decDigits n).toArray⟩) ∧ Below W.heap.size W w' := by
  have HT := hid (tens_text n (by omega) W hp)
  have x2 := bapp 114 (Lib.decDigits n)
  have hz := dec_len n (by omega)
  have c1 : (n : Int) ≤ 14 := by omega
  generalize Lib.decDigits n = t at *
  go_enter Tryz.func74, Tryz.ntmps74
  go_wp2_with (go_at_call 25; refine HT.out.mono ?_; rintro e w1 ⟨rfl, hb1⟩)
  go_ret
  exact ⟨rfl, hb1⟩
theorem byteArr (s : ByteArray) : s = ⟨s.data.toList.toArray⟩ := by cases s; simp
set_option maxHeartbeats 1000000 in
theorem opText_any (W : World) (hT : TB W) (i : Ins) (hi : Ok6 i) (l : Nat) (h : letter l) (L : Int) (hL : L = (l : Int)) (lab : List UInt8) (hlab : lab.length ≤ 20) :
    Calls Tryz.prog 53 #[i.v, .int .u8 L, .string ⟨lab.toArray⟩] W fun e w' => e = .returned (.string ⟨(A.opnd i l lab).toArray⟩) ∧ Below W.heap.size W w' := by
  subst hL
  have HT : Hid (∀ x, Below W.heap.size W x → TB x) := hid (fun x hx => hT.on hx)
  clear hT
  obtain ⟨op, cond, a, b, c, imm⟩ := i
  obtain ⟨⟨o0, o1⟩, ⟨a0, a1⟩, ⟨b0, b1⟩, ⟨c0, c1⟩, ⟨k0, k1⟩, ⟨m0, m1⟩⟩ := hi
  simp only at o0 o1 a0 a1 b0 b1 c0 c1 k0 k1 m0 m1
  simp only [Ins.v]
  rcases h with rfl | rfl | rfl | rfl | rfl | rfl | rfl
  · obtain ⟨a, rfl⟩ : ∃ n : Nat, a = (n : Int) := ⟨a.toNat, by omega⟩
    go_enter Tryz.func53, Tryz.ntmps53
    go_wp2_with (go_at_call 74; refine (regText_any _ (HT.out _ (below_one _ _)).p a (by omega)).mono ?_; rintro e w1 ⟨rfl, hb1⟩)
    go_ret
    exact ⟨rfl, (below_one _ _).trans (hb1.mono (below_one _ _).size)⟩
  · obtain ⟨b, rfl⟩ : ∃ n : Nat, b = (n : Int) := ⟨b.toNat, by omega⟩
    go_enter Tryz.func53, Tryz.ntmps53
    go_wp2_with (go_at_call 74; refine (regText_any _ (HT.out _ (below_one _ _)).p b (by omega)).mono ?_; rintro e w1 ⟨rfl, hb1⟩)
    go_ret
    exact ⟨rfl, (below_one _ _).trans (hb1.mono (below_one _ _).size)⟩
  · obtain ⟨c, rfl⟩ : ∃ n : Nat, c = (n : Int) := ⟨c.toNat, by omega⟩
    go_enter Tryz.func53, Tryz.ntmps53
    go_wp2_with (go_at_call 74; refine (regText_any _ (HT.out _ (below_one _ _)).p c (by omega)).mono ?_; rintro e w1 ⟨rfl, hb1⟩)
    go_ret
    exact ⟨rfl, (below_one _ _).trans (hb1.mono (below_one _ _).size)⟩
  · have HR : Hid (cndI cond = ⟨(A.opnd ⟨op, cond, a, b, c, imm⟩ 107 lab).toArray⟩) := hid (byteArr _)
    go_enter Tryz.func53, Tryz.ntmps53
    go_wp2_with (go_at_call 27; refine (cname_any _ (HT.out _ (below_one _ _)).c cond).mono ?_; rintro e w1 ⟨rfl, rfl⟩)
    go_ret
    exact ⟨congrArg (fun x => Ending.returned (.string x)) HR.out, below_one _ _⟩
  · go_enter Tryz.func53, Tryz.ntmps53
    go_wp2_with (go_at_call 75; refine (minus_text imm (by omega) (by omega) _ (HT.out _ (below_one _ _)).p).mono ?_; rintro e w1 ⟨rfl, hb1⟩)
    go_ret
    exact ⟨rfl, (below_one _ _).trans (hb1.mono (below_one _ _).size)⟩
  · go_enter Tryz.func53, Tryz.ntmps53
    go_wp2_with (go_at_call 75; refine (minus_text imm (by omega) (by omega) _ (HT.out _ (below_one _ _)).p).mono ?_; rintro e w1 ⟨rfl, hb1⟩)
    go_ret
    exact ⟨rfl, (below_one _ _).trans (hb1.mono (below_one _ _).size)⟩
  · cases lab with
    | nil =>
      go_enter Tryz.func53, Tryz.ntmps53
      go_wp2_with (go_at_call 75; refine (minus_text imm (by omega) (by omega) _ (HT.out _ (below_one _ _)).p).mono ?_; rintro e w1 ⟨rfl, hb1⟩)
      go_ret
      exact ⟨rfl, (below_one _ _).trans (hb1.mono (below_one _ _).size)⟩
    | cons x t =>
      have q : (x :: t).isEmpty = false := rfl
      have HR : Hid (x :: t = A.opnd ⟨op, cond, a, b, c, imm⟩ 111 (x :: t)) := hid (by simp [A.opnd])
      generalize x :: t = y at *
      go_enter Tryz.func53, Tryz.ntmps53
      go_wp2_with fail
      go_ret
      exact ⟨ret_str HR.out, below_one _ _⟩
end Go.Proofs.YtncnogndopgknaaGreatDoor
