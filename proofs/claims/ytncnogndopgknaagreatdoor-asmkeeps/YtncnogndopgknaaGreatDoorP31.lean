import Derived.Test.YtncnogndopgknaaGreatDoorP30
import Derived.Test.YtncnogndopgknaaGreatDoorP01
namespace Go.Proofs.YtncnogndopgknaaGreatDoor
open Go.RowKit
def UAt (w : World) (ao : Option Addr) (xs : List Nat) : Prop := xs = [] ∨ ∃ b o, ao = some ⟨b, o, none⟩ ∧ b < w.heap.size ∧ ∀ i (h : i < xs.length), w.cell? ⟨b, o + i, none⟩ = some (.int .u32 (xs[i] : Int))
theorem UAt.on {W w : World} {ao : Option Addr} {l : List Nat} (h : UAt W ao l) (hb : Below W.heap.size W w) : UAt w ao l := by
  rcases h with h0 | ⟨b, o, e, hlt, hc⟩
  · exact .inl h0
  · exact .inr ⟨b, o, e, Nat.lt_of_lt_of_le hlt hb.size, fun i hi => by rw [hb.cell (p := ⟨b, o + i, none⟩) hlt]; exact hc i hi⟩
theorem own_at {w : World} {B : Nat} {ao : Option Addr} {c : Nat} {xs : List Nat} (h : w.ownsRow B 22 1 (.slice ao xs.length c) xs.length (u32s xs)) : UAt w ao xs := by
  rcases h.2 with ⟨_, h0⟩ | ⟨g, cap, cur, h1, h2, h3, _⟩
  · exact .inl (List.eq_nil_of_length_eq_zero h0)
  · injection h1 with h1
    refine .inr ⟨g, 0, h1, (Array.getElem?_eq_some_iff.1 h3).1, fun i hi => ?_⟩
    have := h.cells (g := g) (by rw [h1]; rfl) i (.int .u32 (xs[i] : Int)) (by simp [u32s, hi])
    rw [Addr.add_mid] at this
    exact this
set_option maxRecDepth 40000 in
set_option maxHeartbeats 2000000 in
theorem same_any (w : World) (xs : List Nat) (hx : xs.length ≤ 2048) (ao bo : Option Addr) (c d : Nat) (ha : UAt w ao xs) (hb : UAt w bo xs) :
    Calls Tryz.prog 10 #[.slice ao xs.length c, .slice bo xs.length d] w fun x w' => x = .returned (.bool true) ∧ Below w.heap.size w w' := by
  obtain ⟨n, hn⟩ : ∃ n, xs.length = n := ⟨_, rfl⟩
  have HN : Hid (xs.length = n) := hn
  have n1 : (n : Int) ≤ 2048 := by omega
  have HA : Hid (UAt w ao xs) := ha
  have HB : Hid (UAt w bo xs) := hb
  rw [hn]
  clear hn hx ha hb
  go_enter Tryz.func10, Tryz.ntmps10
  go_wp2_with fail
  go_loopw [5] (fun v wr => ∃ (q : Nat), q ≤ n ∧ v = .int .i64 q ∧ Hid (Below w.heap.size w wr)) (fun v _ => n - (intOf v).toNat)
  case atStart => exact ⟨0, Nat.zero_le _, rfl, hid (Below.refl _ _)⟩
  case round =>
    obtain ⟨q, hq, rfl, HQ⟩ := hrel
    by_cases hlt : q < n
    · have c1 : (q : Int) < (n : Int) := by omega
      have hqx : q < xs.length := by rw [HN.out]; exact hlt
      rcases HA.out.on HQ.out with h0 | ⟨b1, o1, rfl, hb1, hc1⟩
      · rw [h0] at hqx; simp at hqx
      rcases HB.out.on HQ.out with h0 | ⟨b2, o2, rfl, hb2, hc2⟩
      · rw [h0] at hqx; simp at hqx
      have k1 := hc1 q hqx
      have k2 := hc2 q hqx
      generalize xs[q] = u at *
      have HK : Hid (∀ x, Below wr.heap.size wr x → x.cell? ⟨b1, o1 + q, none⟩ = some (.int .u32 (u : Int)) ∧ x.cell? ⟨b2, o2 + q, none⟩ = some (.int .u32 (u : Int))) := hid (fun x hx => ⟨by rw [hx.cell (p := ⟨b1, o1 + q, none⟩) hb1]; exact k1, by rw [hx.cell (p := ⟨b2, o2 + q, none⟩) hb2]; exact k2⟩)
      clear hc1 hc2 hqx
      go_wp2_with fail
      refine wp_region_held_drew (S := fun x => Below wr.heap.size wr x) (by kernel_rfl) ((Below.refl _ _).drew) (fun hHeld => ?_)
      refine tk 0 ⟨some 17, .move (.tmp 0), 24, "law.go:23", #[], none⟩ (.slice (some ⟨b1, o1, none⟩) n c) ?_
      simp only [Act.put, List.setIfInBounds_toArray, List.set_cons_zero, List.set_cons_succ]
      refine tk 1 ⟨some 18, .move (.tmp 5), 3, "law.go:23", #[], none⟩ (.int .i64 (q : Int)) ?_
      simp only [Act.put, List.setIfInBounds_toArray, List.set_cons_zero, List.set_cons_succ]
      refine tk 2 ⟨some 19, .indexAddr 24 (.tmp 17) (.tmp 18), 0, "law.go:23", #[⟨0, .data⟩, ⟨1, .data⟩], none⟩ (.pointer (some ⟨b1, o1 + q, none⟩)) ?_
      simp only [Act.put, List.setIfInBounds_toArray, List.set_cons_zero, List.set_cons_succ]
      refine tk 3 ⟨some 20, .load 22 (.tmp 19), 22, "law.go:23", #[⟨2, .data⟩], none⟩ (.int .u32 (u : Int)) ?_ (hy := Or.inl ⟨by rfl, by intro w hSw; have hcc := (HK.out w hSw).1; go_simp⟩)
      simp only [Act.put, List.setIfInBounds_toArray, List.set_cons_zero, List.set_cons_succ]
      refine tk 4 ⟨some 21, .move (.tmp 1), 24, "law.go:23", #[], none⟩ (.slice (some ⟨b2, o2, none⟩) n d) ?_
      simp only [Act.put, List.setIfInBounds_toArray, List.set_cons_zero, List.set_cons_succ]
      refine tk 5 ⟨some 22, .move (.tmp 5), 3, "law.go:23", #[], none⟩ (.int .i64 (q : Int)) ?_
      simp only [Act.put, List.setIfInBounds_toArray, List.set_cons_zero, List.set_cons_succ]
      refine tk 6 ⟨some 23, .indexAddr 24 (.tmp 21) (.tmp 22), 0, "law.go:23", #[⟨4, .data⟩, ⟨5, .data⟩], none⟩ (.pointer (some ⟨b2, o2 + q, none⟩)) ?_
      simp only [Act.put, List.setIfInBounds_toArray, List.set_cons_zero, List.set_cons_succ]
      refine tk 7 ⟨some 24, .load 22 (.tmp 23), 22, "law.go:23", #[⟨6, .data⟩], none⟩ (.int .u32 (u : Int)) ?_ (hy := Or.inl ⟨by rfl, by intro w hSw; have hcc := (HK.out w hSw).2; go_simp⟩)
      simp only [Act.put, List.setIfInBounds_toArray, List.set_cons_zero, List.set_cons_succ]
      refine tk 8 ⟨some 25, .binOp .neq 22 (.tmp 20) (.tmp 24) 22, 4, "law.go:23", #[⟨3, .data⟩, ⟨7, .data⟩], none⟩ (.bool false) ?_
      simp only [Act.put, List.setIfInBounds_toArray, List.set_cons_zero, List.set_cons_succ]
      refine wpAnyH_done (by kernel_rfl) ?_ _
      clear hHeld
      have HQ2 : Hid (Below w.heap.size w wr.drew) := hid (below_on HQ.out (Below.refl _ _).drew)
      generalize wr.drew = w3 at *
      go_wp2_with fail
      go_roundw
      case measure => simp [intOf] <;> omega
      case rel => exact ⟨q + 1, by omega, by go_num, HQ2⟩
    · have hqe : q = n := by omega
      subst hqe
      go_wp2_with fail
      go_ret
      exact ⟨rfl, HQ.out⟩
end Go.Proofs.YtncnogndopgknaaGreatDoor
namespace Go.Proofs.YtncnogndopgknaaGreatDoor
open Go.RowKit
structure AW (W : World) : Prop where
  t : TM W
  e : ErrT W
  z : 7 < W.heap.size
  m : ∃ m : Int, W.cell? ⟨7, 0, none⟩ = some (.int .i64 m)
theorem AW.on {W w : World} (h : AW W) (hb : Below W.heap.size W w) : AW w :=
  ⟨h.t.on hb, h.e.on hb, Nat.lt_of_lt_of_le h.z hb.size, let ⟨m, hm⟩ := h.m; ⟨m, by rw [hb.cell (p := ⟨7, 0, none⟩) h.z]; exact hm⟩⟩
theorem asm_call (W : World) (h : AW W) (s : ByteArray) (base : Nat) (hbase : base < 4294967296) : Calls Tryz.prog 9 #[.string s, .int .u32 (base : Int)] W fun x w' => AmPost W (S.asm s.data.toList base) x w' := by
  obtain ⟨m, hm⟩ := h.m
  exact assemble_any W h.t h.e m h.z hm s base hbase
theorem cel_at {w : World} {g : Nat} {xs : List Nat} (h : Cel w g 22 (u32s xs)) : UAt w (some ⟨g, 0, none⟩) xs :=
  .inr ⟨g, 0, rfl, h.lt, fun i hi => by rw [h.cell, Nat.zero_add]; simp [u32s, hi]⟩
namespace S
def okB (b : Nat) : (Int × Nat × Nat) ⊕ St → Prop
  | .inl f => f.2.1 ≤ b
  | .inr st => ∀ t ∈ st.lat, t.line ≤ b
end S
set_option maxRecDepth 40000 in
set_option maxHeartbeats 2000000 in
theorem first_any (W : World) (h : AW W) : Calls Tryz.prog 8 #[] W fun x w' => x = .returned (.bool true) ∧ Below W.heap.size W w' := by
  have H9 := hid (asm_call W h ⟨#[108, 105, 32, 114, 50, 32, 101, 110, 100, 10, 120, 58, 32, 98, 32, 97, 108, 32, 120, 10, 119, 111, 114, 100, 32, 101, 110, 100, 10, 101, 110, 100, 58]⟩ 4096 (by decide))
  have e0 : S.asm (⟨#[108, 105, 32, 114, 50, 32, 101, 110, 100, 10, 120, 58, 32, 98, 32, 97, 108, 32, 120, 10, 119, 111, 114, 100, 32, 101, 110, 100, 10, 101, 110, 100, 58]⟩ : ByteArray).data.toList 4096 = .inr ([75501584, 142606336, 1409351679, 4112], [([120], 2), ([101, 110, 100], 4)]) := S.ex_asm
  rw [e0] at H9
  clear h e0
  go_enter Tryz.func8, Tryz.ntmps8
  go_wp2_with fail
  refine H9.out.mono ?_
  rintro e w1 ⟨v, rfl, hown, hb1⟩
  obtain ⟨av, cv, rfl⟩ := own_form hown
  have HU : Hid (UAt w1 av [75501584, 142606336, 1409351679, 4112] ∧ Below W.heap.size W w1) := hid ⟨own_at hown, hb1⟩
  clear hown hb1 H9
  simp only [List.length_cons, List.length_nil, Nat.zero_add, Nat.reduceAdd]
  go_wp2_with fail
  have HB2 : Hid (Below w1.heap.size w1 ((w1.alloc (Obj.cells #[Value.int .i64 0, Value.int .i64 0, Value.int .i64 0] 27)).alloc (Obj.cells #[Value.int .u32 75501584, Value.int .u32 142606336, Value.int .u32 1409351679, Value.int .u32 4112] 22))) := hid (below_two _ _ _)
  have HC2 : Hid (Cel ((w1.alloc (Obj.cells #[Value.int .i64 0, Value.int .i64 0, Value.int .i64 0] 27)).alloc (Obj.cells #[Value.int .u32 75501584, Value.int .u32 142606336, Value.int .u32 1409351679, Value.int .u32 4112] 22)) (w1.heap.size + 1) 22 (u32s [75501584, 142606336, 1409351679, 4112])) := hid (new_at2 _ _ _)
  refine (same_any _ [75501584, 142606336, 1409351679, 4112] (by decide) av (some ⟨w1.heap.size + 1, 0, none⟩) cv 4 (HU.out.1.on HB2.out) (cel_at HC2.out)).mono ?_
  rintro e w2 ⟨rfl, hb2⟩
  have HB3 : Hid (Below W.heap.size W w2) := hid (below_on (HU.out.2.trans (HB2.out.mono HU.out.2.size)) hb2)
  clear HB2 HC2 hb2
  go_wp2_with fail
  go_ret
  exact ⟨rfl, HB3.out⟩
end Go.Proofs.YtncnogndopgknaaGreatDoor
