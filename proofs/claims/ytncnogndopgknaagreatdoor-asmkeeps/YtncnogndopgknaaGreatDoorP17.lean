import Derived.Test.YtncnogndopgknaaGreatDoorP16
namespace Go.Proofs.YtncnogndopgknaaGreatDoor
open Go.RowKit
def kdC (k : S.Kd) : List Value := [.string ⟨k.name.toArray⟩, .string ⟨k.shape.toArray⟩, .int .i64 (k.least : Int), .int .i64 (k.op : Int)]
theorem size188 : (Tryz.prog.info? 188).map (·.size) = some 4 := by kernel_rfl
def KdPost (o : Option S.Kd) (x : Ending) : Prop := ∃ (a b : ByteArray) (n p : Int), x = .returned (.tuple #[.agg #[.string a, .string b, .int .i64 n, .int .i64 p], .bool o.isSome]) ∧ ∀ k, o = some k → a = ⟨k.name.toArray⟩ ∧ b = ⟨k.shape.toArray⟩ ∧ n = (k.least : Int) ∧ p = (k.op : Int)
theorem kindOf_any (W : World) (hT : TM W) (s : List UInt8) : Calls Tryz.prog 88 #[.string ⟨s.toArray⟩] W fun x w' => KdPost (S.kindOf s) x ∧ Below W.heap.size W w' := by
  have HT : Hid (∀ x, Below W.heap.size W x → TM x) := hid (fun x hx => hT.on hx)
  clear hT
  by_cases h1 : s = S.wordN
  · subst h1
    go_enter Tryz.func88, Tryz.ntmps88
    go_wp2_with fail
    exact ret_st2 (e := 188) rfl rfl W.heap.size [.string ⟨S.wordN.toArray⟩, .string ⟨#[120]⟩, .int .i64 1, .int .i64 0] rfl (new_at _ _) Tryz.underlying188 rfl size188 ⟨⟨_, _, _, _, rfl, fun k h => by cases h; exact ⟨rfl, rfl, rfl, rfl⟩⟩, below_one _ _⟩
  · by_cases h2 : s = S.liN
    · subst h2
      go_enter Tryz.func88, Tryz.ntmps88
      go_wp2_with fail
      exact ret_st2 (e := 188) rfl rfl W.heap.size [.string ⟨S.liN.toArray⟩, .string ⟨#[97, 120]⟩, .int .i64 2, .int .i64 0] rfl (new_at _ _) Tryz.underlying188 rfl size188 ⟨⟨_, _, _, _, rfl, fun k h => by cases h; exact ⟨rfl, rfl, rfl, rfl⟩⟩, below_one _ _⟩
    · by_cases h3 : s = S.zeroN
      · subst h3
        go_enter Tryz.func88, Tryz.ntmps88
        go_wp2_with fail
        exact ret_st2 (e := 188) rfl rfl W.heap.size [.string ⟨S.zeroN.toArray⟩, .string ⟨#[110]⟩, .int .i64 0, .int .i64 0] rfl (new_at _ _) Tryz.underlying188 rfl size188 ⟨⟨_, _, _, _, rfl, fun k h => by cases h; exact ⟨rfl, rfl, rfl, rfl⟩⟩, below_one _ _⟩
      · have HR : Hid (S.kindOf s = (S.opOf s).map fun n => ⟨s, shapeT.getD n [], 1, n⟩) := hid (by unfold S.kindOf; rw [if_neg h1, if_neg h2, if_neg h3])
        rw [HR.out]
        have q1 : (s == [119, 111, 114, 100]) = false := by simpa [S.wordN] using h1
        have q2 : (s == [108, 105]) = false := by simpa [S.liN] using h2
        have q3 : (s == [122, 101, 114, 111]) = false := by simpa [S.zeroN] using h3
        have H119 := hid (opOf_any W (HT.out W (Below.refl _ _)) s)
        clear h1 h2 h3 HR
        have HSh : Hid (∀ x (k : Int), Below W.heap.size W x → Calls Tryz.prog 47 #[.int .i64 k] x fun e w' => e = .returned (.string (shpI k)) ∧ x = w') := hid (fun x k hx => shape_any x (HT.out x hx).f k)
        have H119b : Hid (∀ o, Calls Tryz.prog 119 #[.string ⟨s.toArray⟩] (W.alloc o) fun x W' => ((S.opOf s = none ∧ x = .returned (.tuple #[.int .i64 0, .int .i64 50])) ∨ ∃ k, S.opOf s = some k ∧ k < 25 ∧ x = .returned (.tuple #[.int .i64 (k : Int), .int .i64 0])) ∧ (W.alloc o) = W') := hid (fun o => opOf_any _ (HT.out _ (below_one _ _)) s)
        clear H119
        go_enter Tryz.func88, Tryz.ntmps88
        go_wp2_with fail
        refine (H119b.out _).mono ?_
        rintro e w' ⟨⟨h0, rfl⟩ | ⟨k, h0, hk, rfl⟩, rfl⟩
        · go_wp2_with (go_at_call 47; refine (HSh.out _ 0 (below_one _ _)).mono ?_; rintro e w' ⟨rfl, rfl⟩)
          exact ret_st2 (e := 188) rfl rfl W.heap.size [.string ⟨s.toArray⟩, .string (shpI 0), .int .i64 1, .int .i64 0] rfl (new_at _ _) Tryz.underlying188 rfl size188 ⟨by rw [h0]; exact ⟨_, _, _, _, rfl, fun k h => by cases h⟩, below_one _ _⟩
        · have HK : Hid (shpI (k : Int) = ⟨(shapeT.getD k []).toArray⟩) := hid (by
            unfold shpI
            split
            · rfl
            · rename_i hh
              have : k = 0 := by omega
              subst this
              rfl)
          go_wp2_with (go_at_call 47; refine (HSh.out _ (k : Int) (below_one _ _)).mono ?_; rintro e w' ⟨rfl, rfl⟩)
          exact ret_st2 (e := 188) rfl rfl W.heap.size [.string ⟨s.toArray⟩, .string (shpI (k : Int)), .int .i64 1, .int .i64 (k : Int)] rfl (new_at _ _) Tryz.underlying188 rfl size188 ⟨by rw [h0]; exact ⟨_, _, _, _, rfl, fun k' h => by cases h; exact ⟨rfl, HK.out, rfl, rfl⟩⟩, below_one _ _⟩
theorem ret_ui {a b : Int} (h : a = b) : Ending.returned (.tuple #[.int .u32 a, .int .i64 0]) = .returned (.tuple #[.int .u32 b, .int .i64 0]) := by rw [h]
def MnPost (o : Option Nat) (x : Ending) : Prop := match o with | some v => x = .returned (.tuple #[.int .u32 (v : Int), .int .i64 0]) | none => x = .returned (.tuple #[.int .u32 0, .int .i64 65])
theorem meaning_any (W : World) (g : Nat) (base l target place : Nat) (hb : base < 4294967296) (L : Int) (hL : L = (l : Int)) (ht : target ≤ 2048) (hp : place ≤ 2048) (hc : W.cell? ⟨g, 0, none⟩ = some (.int .u32 (base : Int))) :
    Calls Tryz.prog 124 #[.pointer (some ⟨g, 0, none⟩), .int .u8 L, .int .i64 (target : Int), .int .i64 (place : Int)] W fun x w' => MnPost (S.meaning base l target place) x ∧ W = w' := by
  subst hL
  have t1 : (target : Int) ≤ 2048 := by omega
  have p1 : (place : Int) ≤ 2048 := by omega
  by_cases hl : l = 111
  · subst hl
    have HR : Hid (S.meaning base 111 target place = some (S.u32 ((target : Int) - place - 1))) := hid (by unfold S.meaning; rw [if_pos rfl, if_neg (by omega)])
    rw [HR.out]
    clear HR
    go_enter Tryz.func124, Tryz.ntmps124
    go_wp2_with fail
    go_ret2
    exact ⟨ret_ui (by unfold S.u32; omega), rfl⟩
  · have HR : Hid (S.meaning base l target place = some ((base + 4 * target) % 4294967296)) := hid (by unfold S.meaning; rw [if_neg hl])
    rw [HR.out]
    have e1 : ((l : Int) == 111) = false := by simp; omega
    have e2 : ((l : Int) != 111) = true := by simp; omega
    have b1 : (base : Int) < 4294967296 := by omega
    clear HR hl
    go_enter Tryz.func124, Tryz.ntmps124
    go_wp2_with fail
    go_ret2
    exact ⟨ret_ui (by omega), rfl⟩
theorem half_any (W : World) (hT : TM W) (op r n : Nat) (hr : r < 4294967296) (hn : n < 65536) :
    Calls Tryz.prog 121 #[.int .i64 (op : Int), .int .u32 (r : Int), .int .u32 (n : Int)] W fun x w' => x = .returned (.int .u32 (S.half op r n : Int)) ∧ Below W.heap.size W w' := by
  have hi : -2147483648 ≤ S.i32 n ∧ S.i32 n < 2147483648 := by unfold S.i32; split <;> omega
  have HE := hid (encode_any W hT.f hT.t hT.z ⟨op, 0, r, 0, 0, S.i32 n⟩ hi.1 hi.2)
  have hb := enc_bounds ⟨op, 0, r, 0, 0, S.i32 n⟩
  have HR : Hid (enc ⟨op, 0, r, 0, 0, S.i32 n⟩ = (S.half op r n : Int)) := hid (by unfold S.half; omega)
  have HI : Hid (S.i32 n = if n < 2147483648 then (n : Int) else (n : Int) - 4294967296) := hid rfl
  simp only [Ins.v] at HE
  generalize chk ⟨op, 0, r, 0, 0, S.i32 n⟩ = ck at *
  generalize enc ⟨op, 0, r, 0, 0, S.i32 n⟩ = en at *
  have r1 : (r : Int) < 4294967296 := by omega
  clear hT hb hi
  have n1 : (n : Int) < 65536 := by omega
  rw [HI.out, if_pos (by omega)] at HE
  clear hn
  go_enter Tryz.func121, Tryz.ntmps121
  go_wp2_with (go_at_call 28; refine HE.out.mono ?_; rintro e w' ⟨rfl, hb1⟩)
  go_ret
  exact ⟨ret_int HR.out, hb1⟩
end Go.Proofs.YtncnogndopgknaaGreatDoor
