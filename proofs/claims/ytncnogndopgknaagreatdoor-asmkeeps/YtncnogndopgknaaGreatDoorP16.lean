import Derived.Test.YtncnogndopgknaaGreatDoorP14
import Derived.Test.YtncnogndopgknaaGreatDoorP09
namespace Go.Proofs.YtncnogndopgknaaGreatDoor
open Go.RowKit
structure TM (W : World) : Prop where
  f : Forms W
  t : Tab W
  c : CNames W
  z : 5 < W.heap.size
theorem CNames.below {W w : World} {B : Nat} (h : CNames W) (hb : Below B W w) (hB : 0 < B) : CNames w := fun n hn => (hb.cell (p := ⟨0, n, none⟩) hB).trans (h n hn)
theorem TM.on {W w : World} (h : TM W) (hb : Below W.heap.size W w) : TM w := ⟨h.f.below hb (by have := h.z; omega), h.t.below hb (by have := h.z; omega), h.c.below hb (by have := h.z; omega), by have := hb.size; have := h.z; omega⟩
theorem TM.fn {W : World} (h : TM W) : FNames W := fun n hn => (h.f n hn).1
namespace S
theorem find1_fnd (T : List (List UInt8)) (lo : Nat) (s : List UInt8) : ∀ hi r e, Fnd (fun n => ⟨(T.getD n []).toArray⟩) lo hi ⟨s.toArray⟩ r e → (find1 (fun n => T.getD n []) lo hi s = none ∧ r = 0 ∧ e = 50) ∨ ∃ k, find1 (fun n => T.getD n []) lo hi s = some k ∧ k < hi ∧ r = (k : Int) ∧ e = 0 := by
  have key : ∀ n, ((⟨(T.getD n []).toArray⟩ : ByteArray) = ⟨s.toArray⟩) ↔ T.getD n [] = s := fun n => by
    constructor
    · intro h
      have := congrArg (fun b : ByteArray => b.data.toList) h
      simpa using this
    · intro h; rw [h]
  have none_of : ∀ hi, (∀ j : Nat, lo ≤ j → j < hi → T.getD j [] ≠ s) → find1 (fun n => T.getD n []) lo hi s = none := by
    intro hi
    induction hi with
    | zero => intro _; rfl
    | succ n ih =>
      intro h
      rw [find1, ih (fun j a b => h j a (by omega))]
      rw [if_neg (fun hh => h n hh.1 (by omega) hh.2)]
  have some_of : ∀ hi k, k < hi → lo ≤ k → T.getD k [] = s → (∀ j : Nat, lo ≤ j → j < k → T.getD j [] ≠ s) → find1 (fun n => T.getD n []) lo hi s = some k := by
    intro hi
    induction hi with
    | zero => intro k hk; omega
    | succ n ih =>
      intro k hk h1 h2 h3
      by_cases hkn : k = n
      · subst hkn
        rw [find1, none_of k h3, if_pos ⟨h1, h2⟩]
      · rw [find1, ih k (by omega) h1 h2 h3]
  intro hi r e h
  rcases h with ⟨k, h1, h2, h3, h4, rfl, rfl⟩ | ⟨h4, rfl, rfl⟩
  · exact .inr ⟨k, some_of hi k h2 h1 ((key k).1 h3) (fun j a b c => h4 j a b ((key j).2 c)), h2, rfl, rfl⟩
  · exact .inl ⟨none_of hi (fun j a b c => h4 j a b ((key j).2 c)), rfl, rfl⟩
end S
theorem opOf_any (W : World) (hT : TM W) (s : List UInt8) : Calls Tryz.prog 119 #[.string ⟨s.toArray⟩] W fun x W' => ((S.opOf s = none ∧ x = .returned (.tuple #[.int .i64 0, .int .i64 50])) ∨ ∃ k, S.opOf s = some k ∧ k < 25 ∧ x = .returned (.tuple #[.int .i64 (k : Int), .int .i64 0])) ∧ W = W' := by
  obtain ⟨r, e, h⟩ := fnd_ex nam 1 25 ⟨s.toArray⟩
  refine (named_any W hT.fn ⟨s.toArray⟩ r e h).mono ?_
  rintro x w' ⟨rfl, rfl⟩
  rcases S.find1_fnd nameT 1 s 25 r e h with ⟨h1, rfl, rfl⟩ | ⟨k, h1, h2, rfl, rfl⟩
  · exact ⟨.inl ⟨h1, rfl⟩, rfl⟩
  · exact ⟨.inr ⟨k, h1, h2, rfl⟩, rfl⟩
theorem condOf_any (W : World) (hT : TM W) (s : List UInt8) : Calls Tryz.prog 160 #[.string ⟨s.toArray⟩] W fun x W' => ((S.condOf s = none ∧ x = .returned (.tuple #[.int .i64 0, .int .i64 50])) ∨ ∃ k, S.condOf s = some k ∧ k < 7 ∧ x = .returned (.tuple #[.int .i64 (k : Int), .int .i64 0])) ∧ W = W' := by
  obtain ⟨r, e, h⟩ := fnd_ex cnd 0 7 ⟨s.toArray⟩
  refine (cnamed_any W hT.c ⟨s.toArray⟩ r e h).mono ?_
  rintro x w' ⟨rfl, rfl⟩
  rcases S.find1_fnd condT 0 s 7 r e h with ⟨h1, rfl, rfl⟩ | ⟨k, h1, h2, rfl, rfl⟩
  · exact ⟨.inl ⟨h1, rfl⟩, rfl⟩
  · exact ⟨.inr ⟨k, h1, h2, rfl⟩, rfl⟩
def letter6 (l : Nat) : Prop := l = 97 ∨ l = 98 ∨ l = 99 ∨ l = 107 ∨ l = 117 ∨ l = 115 ∨ l = 111 ∨ l = 110 ∨ l = 120
theorem readNumber_any (W : World) (hT : TM W) (l : Nat) (hl : letter6 l) (L : Int) (hL : L = (l : Int)) (s : List UInt8) (hs : s.length ≤ 1000000000) : Calls Tryz.prog 144 #[.int .u8 L, .string ⟨s.toArray⟩] W fun x w' => NumPost (S.readNumber l s) x ∧ W = w' := by
  subst hL
  have HR := hid (register_any W s hs)
  have HC := hid (condOf_any W hT s)
  have HU : Hid (∀ (m : Nat) (M : Int), M = (m : Int) → Calls Tryz.prog 161 #[.string ⟨s.toArray⟩, .int .u32 M] W fun x w' => NumPost (S.upTo s m) x ∧ W = w') := hid (fun m M h => upTo_any W s hs m M h)
  have HB : Hid (∀ lo hi : Int, -2147483648 ≤ lo → hi ≤ 2147483647 → Calls Tryz.prog 162 #[.string ⟨s.toArray⟩, .int .i32 lo, .int .i32 hi] W fun x w' => NumPost (S.between s lo hi) x ∧ W = w') := hid (fun lo hi a b => between_any W s hs lo hi a b)
  clear hT
  rcases hl with rfl | rfl | rfl | rfl | rfl | rfl | rfl | rfl | rfl
  · go_enter Tryz.func144, Tryz.ntmps144
    go_wp2_with (go_at_call 159; refine HR.out.mono ?_; rintro e w' ⟨⟨n, rfl, hn⟩, rfl⟩)
    go_ret2
    exact ⟨⟨n, rfl, hn⟩, rfl⟩
  · go_enter Tryz.func144, Tryz.ntmps144
    go_wp2_with (go_at_call 159; refine HR.out.mono ?_; rintro e w' ⟨⟨n, rfl, hn⟩, rfl⟩)
    go_ret2
    exact ⟨⟨n, rfl, hn⟩, rfl⟩
  · go_enter Tryz.func144, Tryz.ntmps144
    go_wp2_with (go_at_call 159; refine HR.out.mono ?_; rintro e w' ⟨⟨n, rfl, hn⟩, rfl⟩)
    go_ret2
    exact ⟨⟨n, rfl, hn⟩, rfl⟩
  · have HX : Hid (S.readNumber 107 s = S.condOf s) := hid rfl
    rw [HX.out]
    go_enter Tryz.func144, Tryz.ntmps144
    go_wp2_with fail
    refine HC.out.mono ?_
    rintro e w' ⟨⟨h0, rfl⟩ | ⟨k, h0, hk, rfl⟩, rfl⟩
    · go_wp2_with fail
      go_ret2
      exact ⟨⟨_, by rw [h0]; rfl, fun v h => by rw [h0] at h; cases h⟩, rfl⟩
    · have k1 : (k : Int) < 7 := by omega
      go_wp2_with fail
      go_ret2
      exact ⟨⟨(k : Int), by rw [h0]; rfl, fun v h => by rw [h0] at h; injection h; omega⟩, rfl⟩
  · go_enter Tryz.func144, Tryz.ntmps144
    go_wp2_with (go_at_call 161; refine (HU.out 65535 _ rfl).mono ?_; rintro e w' ⟨⟨n, rfl, hn⟩, rfl⟩)
    go_ret2
    exact ⟨⟨n, rfl, hn⟩, rfl⟩
  · go_enter Tryz.func144, Tryz.ntmps144
    go_wp2_with (go_at_call 162; refine (HB.out (-32768) 32767 (by decide) (by decide)).mono ?_; rintro e w' ⟨⟨n, rfl, hn⟩, rfl⟩)
    go_ret2
    exact ⟨⟨n, rfl, hn⟩, rfl⟩
  · go_enter Tryz.func144, Tryz.ntmps144
    go_wp2_with (go_at_call 162; refine (HB.out (-32768) 32767 (by decide) (by decide)).mono ?_; rintro e w' ⟨⟨n, rfl, hn⟩, rfl⟩)
    go_ret2
    exact ⟨⟨n, rfl, hn⟩, rfl⟩
  · go_enter Tryz.func144, Tryz.ntmps144
    go_wp2_with (go_at_call 161; refine (HU.out 2048 _ rfl).mono ?_; rintro e w' ⟨⟨n, rfl, hn⟩, rfl⟩)
    go_ret2
    exact ⟨⟨n, rfl, hn⟩, rfl⟩
  · have HX : Hid (S.readNumber 120 s = match S.upTo s 4294967295 with | some n => some n | none => S.between s (-2147483648) 2147483647) := hid rfl
    rw [HX.out]
    have HU1 := hid (HU.out 4294967295 _ rfl)
    have HB1 := hid (HB.out (-2147483648) 2147483647 (by decide) (by decide))
    clear HU HB HX
    generalize S.between s (-2147483648) 2147483647 = r at *
    cases hu : S.upTo s 4294967295 with
    | none =>
      rw [hu] at HU1
      go_enter Tryz.func144, Tryz.ntmps144
      go_wp2_with (first | (go_at_call 161; refine HU1.out.mono ?_; rintro e w' ⟨⟨n, rfl, hn⟩, rfl⟩) | (go_at_call 162; refine HB1.out.mono ?_; rintro e w' ⟨⟨n2, rfl, hn2⟩, rfl⟩))
      go_ret2
      exact ⟨⟨n2, rfl, hn2⟩, rfl⟩
    | some v =>
      rw [hu] at HU1
      go_enter Tryz.func144, Tryz.ntmps144
      go_wp2_with (first | (go_at_call 161; refine HU1.out.mono ?_; rintro e w' ⟨⟨n, rfl, hn⟩, rfl⟩))
      go_ret2
      exact ⟨⟨_, rfl, fun u h => by cases h; rfl⟩, rfl⟩
def wdV (w : T.Wd) : Value := .agg #[.string ⟨w.text.toArray⟩, .bool w.quoted, .int .i64 (w.col : Int)]
def opC (o : S.Opn) : List Value := [.int .u32 (o.val : Int), .string ⟨o.lab.toArray⟩, .int .i64 (o.col : Int)]
theorem size197 : (Tryz.prog.info? 197).map (·.size) = some 3 := by kernel_rfl
def OpPost (o : Option S.Opn) (x : Ending) : Prop := ∃ (n : Int) (s : ByteArray) (k : Int), x = .returned (.tuple #[.agg #[.int .u32 n, .string s, .int .i64 k], .bool o.isSome]) ∧ ∀ u, o = some u → n = (u.val : Int) ∧ s = ⟨u.lab.toArray⟩ ∧ k = (u.col : Int)
theorem readOperand_any (W : World) (hT : TM W) (l : Nat) (hl : letter6 l) (L : Int) (hL : L = (l : Int)) (w : T.Wd) (hs : w.text.length ≤ 1000000000) : Calls Tryz.prog 120 #[.int .u8 L, wdV w] W fun x w' => OpPost (S.readOperand l w) x ∧ Below W.heap.size W w' := by
  subst hL
  obtain ⟨t, q, c⟩ := w
  simp only [wdV] at *
  have HT : Hid (∀ x, Below W.heap.size W x → TM x) := hid (fun x hx => hT.on hx)
  have H143 : Hid (∀ x, Calls Tryz.prog 143 #[.int .u8 (l : Int)] x fun e w' => e = .returned (.bool (decide (l = 111 ∨ l = 120))) ∧ x = w') := hid (fun x => mayBe_label x l _ rfl)
  have H87 : Hid (∀ x, Calls Tryz.prog 87 #[.string ⟨t.toArray⟩] x fun e w' => e = .returned (.int .i64 (if T.name t then 0 else 42)) ∧ x = w') := hid (fun x => name_any x ⟨t.toArray⟩ (by simpa [ByteArray.size] using hs))
  have H144 : Hid (∀ x, Below W.heap.size W x → Calls Tryz.prog 144 #[.int .u8 (l : Int), .string ⟨t.toArray⟩] x fun e w' => NumPost (S.readNumber l t) e ∧ x = w') := hid (fun x hx => readNumber_any x (HT.out x hx) l hl _ rfl t hs)
  clear hT
  have HZ : Hid (∀ (o p : Obj), Below W.heap.size W ((W.alloc o).alloc p)) := hid (fun o p => below_two W o p)
  cases q with
  | true =>
    go_enter Tryz.func120, Tryz.ntmps120
    go_wp2_with fail
    exact ret_st2 rfl rfl (W.heap.size + 1) [.int .u32 0, .string ⟨#[]⟩, .int .i64 0] rfl (new_at2 _ _ _) Tryz.underlying197 rfl size197 ⟨⟨_, _, _, rfl, fun u h => by cases h⟩, HZ.out _ _⟩
  | false =>
    by_cases hm : (l = 111 ∨ l = 120) ∧ T.name t = true
    · rw [decide_eq_true hm.1] at H143
      rw [if_pos hm.2] at H87
      have HR : Hid (S.readOperand l ⟨t, false, c⟩ = some ⟨0, t, c⟩) := hid (by unfold S.readOperand; simp only [Bool.false_eq_true, if_false]; rw [if_pos hm])
      rw [HR.out]
      clear hm
      go_enter Tryz.func120, Tryz.ntmps120
      go_wp2_with (first | (go_at_call 143; refine (H143.out _).mono ?_; rintro e w' ⟨rfl, rfl⟩) | (go_at_call 87; refine (H87.out _).mono ?_; rintro e w' ⟨rfl, rfl⟩))
      exact ret_st2 (e := 197) rfl rfl (W.heap.size + 1) [.int .u32 0, .string ⟨t.toArray⟩, .int .i64 (c : Int)] rfl (new_at2 _ _ _) Tryz.underlying197 rfl size197 ⟨⟨_, _, _, rfl, fun u h => by cases h; exact ⟨rfl, rfl, rfl⟩⟩, HZ.out _ _⟩
    · have HR : Hid (S.readOperand l ⟨t, false, c⟩ = (S.readNumber l t).map fun v => ⟨v, [], 0⟩) := hid (by unfold S.readOperand; simp only [Bool.false_eq_true, if_false]; rw [if_neg hm])
      rw [HR.out]
      generalize S.readNumber l t = r at *
      have HIS : Hid (∀ (n : Int) (b : ByteArray) (k : Int), Ending.returned (.tuple #[.agg #[.int .u32 n, .string b, .int .i64 k], .bool r.isSome]) = .returned (.tuple #[.agg #[.int .u32 n, .string b, .int .i64 k], .bool (r.map fun v => (⟨v, [], 0⟩ : S.Opn)).isSome])) := hid (fun n b k => by cases r <;> rfl)
      by_cases hm1 : l = 111 ∨ l = 120
      · rw [decide_eq_true hm1] at H143
        rw [if_neg (fun h => hm ⟨hm1, h⟩)] at H87
        clear hm hm1
        go_enter Tryz.func120, Tryz.ntmps120
        go_wp2_with (first | (go_at_call 143; refine (H143.out _).mono ?_; rintro e w' ⟨rfl, rfl⟩) | (go_at_call 87; refine (H87.out _).mono ?_; rintro e w' ⟨rfl, rfl⟩) | (go_at_call 144; refine (H144.out _ (HZ.out _ _)).mono ?_; rintro e w' ⟨⟨n, rfl, hn⟩, rfl⟩))
        exact ret_st2 (e := 197) rfl rfl (W.heap.size + 1) [.int .u32 n, .string ⟨#[]⟩, .int .i64 0] rfl (new_at2 _ _ _) Tryz.underlying197 rfl size197 ⟨⟨n, _, _, HIS.out _ _ _, fun u h => by cases r with | none => cases h | some v => (cases h; exact ⟨hn v rfl, rfl, rfl⟩)⟩, HZ.out _ _⟩
      · rw [decide_eq_false hm1] at H143
        clear hm hm1
        go_enter Tryz.func120, Tryz.ntmps120
        go_wp2_with (first | (go_at_call 143; refine (H143.out _).mono ?_; rintro e w' ⟨rfl, rfl⟩) | (go_at_call 144; refine (H144.out _ (HZ.out _ _)).mono ?_; rintro e w' ⟨⟨n, rfl, hn⟩, rfl⟩))
        exact ret_st2 (e := 197) rfl rfl (W.heap.size + 1) [.int .u32 n, .string ⟨#[]⟩, .int .i64 0] rfl (new_at2 _ _ _) Tryz.underlying197 rfl size197 ⟨⟨n, _, _, HIS.out _ _ _, fun u h => by cases r with | none => cases h | some v => (cases h; exact ⟨hn v rfl, rfl, rfl⟩)⟩, HZ.out _ _⟩
end Go.Proofs.YtncnogndopgknaaGreatDoor
