import Derived.Test.YtncnogndopgknaaGreatDoorP18
import Derived.Test.YtncnogndopgknaaGreatDoorP01
import Derived.OwnWalk
namespace Go.Proofs.YtncnogndopgknaaGreatDoor
open Go.RowKit
def u32s (l : List Nat) : List Value := l.map fun (u : Nat) => .int .u32 (u : Int)
theorem Tryz.info22 : (Tryz.prog.info? 22).map (fun i => (i.zero, i.size, i.bytes)) = some (some (.int .u32 0), 1, 4) := by kernel_rfl
theorem cel_of_own {w : World} {B g n : Nat} {e : TypeId} {xs : List Value} (h : w.ownsRow B e 1 (.slice (some ⟨g, 0, none⟩) n n) n xs) : Cel w g e xs ∧ B ≤ g := by
  rcases h.2 with ⟨h0, _⟩ | ⟨g', cap, cur, h1, h2, h3, h4, h5, h6, h7⟩
  · cases h0
  · injection h1 with a1 a2 a3
    injection a1 with a1
    injection a1 with a1
    subst a1 a3
    rw [Nat.mul_one] at h6 h7
    have hx : xs = cur.toList := by rw [← h7, List.take_of_length_le (by simp; omega)]
    refine ⟨?_, h2⟩
    unfold Cel
    rw [h3, hx]
theorem made_list (z : Value) (n : Nat) : (madeCells #[z] (n * 1)).toList = List.replicate n z := by
  rw [List.eq_replicate_iff]
  refine ⟨by simp [madeCells], fun v hv => ?_⟩
  simp only [madeCells, Array.toList_map, List.mem_map] at hv
  obtain ⟨j, _, rfl⟩ := hv
  simp [Nat.mod_one]
theorem bl_grown {W w w' : World} (h : Below W.heap.size W w) (hg : w.grownBy w' none) : Below W.heap.size W w' := h.grown hg h.size (fun g hg => by cases hg)
namespace S
structure KOk (k : Kd) : Prop where
  op : k.op < 25
  four : (k.name = wordN ∧ k.shape = [120]) ∨ (k.name = liN ∧ k.shape = [97, 120]) ∨ (k.name = zeroN ∧ k.shape = [110]) ∨ (k.name ≠ wordN ∧ k.name ≠ liN ∧ k.name ≠ zeroN ∧ k.shape = shapeT.getD k.op [])
theorem shape_ok (n : Nat) (h : n < 25) : (shapeT.getD n []).length ≤ 3 ∧ ∀ i (hi : i < (shapeT.getD n []).length), letter (shapeT.getD n [])[i].toNat := by
  have : ∀ n < 25, (shapeT.getD n []).length ≤ 3 ∧ ∀ x ∈ shapeT.getD n [], x.toNat = 97 ∨ x.toNat = 98 ∨ x.toNat = 99 ∨ x.toNat = 107 ∨ x.toNat = 117 ∨ x.toNat = 115 ∨ x.toNat = 111 := by decide +kernel
  exact ⟨(this n h).1, fun i hi => (this n h).2 _ (List.getElem_mem hi)⟩
theorem kindOf_ok {s : List UInt8} {k : Kd} (h : kindOf s = some k) : KOk k := by
  unfold kindOf at h
  split at h
  · rename_i h1
    cases h; exact ⟨Nat.zero_lt_succ _, .inl ⟨h1, rfl⟩⟩
  · split at h
    · rename_i h1
      cases h; exact ⟨Nat.zero_lt_succ _, .inr (.inl ⟨h1, rfl⟩)⟩
    · split at h
      · rename_i h1
        cases h; exact ⟨Nat.zero_lt_succ _, .inr (.inr (.inl ⟨h1, rfl⟩))⟩
      · rename_i h1 h2 h3
        cases ho : opOf s with
        | none => rw [ho] at h; cases h
        | some n =>
          rw [ho] at h
          cases h
          refine ⟨?_, .inr (.inr (.inr ⟨h1, h2, h3, rfl⟩))⟩
          have : ∀ hi k, find1 (fun n => nameT.getD n []) 1 hi s = some k → k < hi := by
            intro hi
            induction hi with
            | zero => intro k hk; cases hk
            | succ m ih =>
              intro k hk
              unfold find1 at hk
              split at hk
              · rename_i k' hk'
                cases hk
                have := ih _ hk'
                omega
              · split at hk
                · cases hk; omega
                · cases hk
          exact this 25 n ho
structure OsOk (k : Kd) (os : List Opn) : Prop where
  len : k.shape.length = os.length
  val : ∀ o ∈ os, o.val < 4294967296
  zero : k.name = zeroN → ∀ o ∈ os, o.val ≤ 2048
end S
theorem mine_new (w : World) (l : List Nat) (C : Array Value) (hC : C = (u32s l).toArray) : Cel (w.alloc (.cells C 22)) w.heap.size 22 (u32s l) := by subst hC; exact Cel.new _ _ _
set_option maxRecDepth 40000 in
set_option maxHeartbeats 2000000 in
theorem words_any6 (W : World) (hT : TM W) (k : S.Kd) (hk : S.KOk k) (ao : Option Addr) (n c : Nat) (os : List S.Opn) (hn : os.length = n) (ho : S.OsOk k os) (hat : OpsAt W ao os) :
    Calls Tryz.prog 91 #[kdV k, .slice ao n c] W fun x w' => (∃ g, x = .returned (.slice (some ⟨g, 0, none⟩) (S.words k os).length (S.words k os).length) ∧ W.heap.size ≤ g ∧ Cel w' g 22 (u32s (S.words k os))) ∧ Below W.heap.size W w' := by
  obtain ⟨i0, hi, hz0, hz1, hz2⟩ := info_parts Tryz.info22
  have HT : Hid (∀ x, Below W.heap.size W x → TM x) := hid (fun x hx => hT.on hx)
  clear hT
  rcases hk.four with ⟨e1, e2⟩ | ⟨e1, e2⟩ | ⟨e1, e2⟩ | ⟨e1, e2, e3, e4⟩
  · -- word
    have hl1 : os.length = 1 := by rw [← ho.len, e2]; rfl
    obtain ⟨o0, rfl⟩ : ∃ o0, os = [o0] := by
      match os, hl1 with
      | [o0], _ => exact ⟨o0, rfl⟩
    obtain rfl : n = 1 := by simpa using hn.symm
    have HR : Hid (S.words k [o0] = [o0.val]) := hid (by unfold S.words; rw [if_pos e1]; rfl)
    rw [HR.out]
    rcases hat with h0 | ⟨b, o, rfl, hb, hc⟩
    · cases h0
    have d0 : W.cell? ⟨b, o, none⟩ = some (.int .u32 (o0.val : Int)) := by have := hc 0 (by simp) 0 _ rfl; simpa using this
    have d1 : ∀ ob, (W.alloc ob).cell? ⟨b, o, none⟩ = some (.int .u32 (o0.val : Int)) := fun ob => by rw [(below_one W ob).cell (p := ⟨b, o, none⟩) hb]; exact d0
    obtain ⟨nm, sh, le, op⟩ := k
    simp only at e1 e2
    subst e1 e2
    clear hc ho hk HT
    generalize o0.val = v at *
    simp only [kdV, kdC]
    go_enter Tryz.func91, Tryz.ntmps91
    go_wp2_with fail
    go_ret
    exact ⟨⟨W.heap.size + 1, rfl, by omega, new_at2 _ _ _⟩, below_two _ _ _⟩
  · -- li
    have hl1 : os.length = 2 := by rw [← ho.len, e2]; rfl
    obtain ⟨o0, o1, rfl⟩ : ∃ o0 o1, os = [o0, o1] := by
      match os, hl1 with
      | [o0, o1], _ => exact ⟨o0, o1, rfl⟩
    obtain rfl : n = 2 := by simpa using hn.symm
    have v0 := ho.val o0 (by simp)
    have v1 := ho.val o1 (by simp)
    have HR : Hid (S.words k [o0, o1] = [S.half 1 o0.val (o1.val % 65536), S.half 2 o0.val (o1.val / 65536)]) := hid (by unfold S.words; rw [if_neg (by rw [e1]; decide), if_pos e1]; rfl)
    rw [HR.out]
    rcases hat with h0 | ⟨b, o, rfl, hb, hc⟩
    · cases h0
    have HU0 : Hid (∀ x, Below W.heap.size W x → x.cell? ⟨b, o, none⟩ = some (.int .u32 (o0.val : Int))) := hid (fun x hx => by rw [hx.cell (p := ⟨b, o, none⟩) hb]; have := hc 0 (by simp) 0 _ rfl; simpa using this)
    have HU1 : Hid (∀ x, Below W.heap.size W x → x.cell? ⟨b, o + 3, none⟩ = some (.int .u32 (o1.val : Int))) := hid (fun x hx => by rw [hx.cell (p := ⟨b, o + 3, none⟩) hb]; have := hc 1 (by simp) 0 _ rfl; simpa using this)
    have HF0 : Hid (∀ x, Below W.heap.size W x → Calls Tryz.prog 46 #[.int .u32 (o1.val : Int), .int .i64 0, .int .i64 16] x fun e w' => e = .returned (.int .u32 ((o1.val % 65536 : Nat) : Int)) ∧ Below x.heap.size x w') := hid (fun x hx => (field_yes x (HT.out x hx).t (o1.val : Int) 0 16 (by omega) (by omega) (by decide) (by decide) (by decide)).mono (by
      rintro e w' ⟨rfl, q, rfl⟩
      exact ⟨ret_int (by simp only [M.Fld]; simp only [Int.reducePow, Int.reduceToNat]; omega), below_drewN (Below.refl _ _) q⟩))
    have HF1 : Hid (∀ x, Below W.heap.size W x → Calls Tryz.prog 46 #[.int .u32 (o1.val : Int), .int .i64 16, .int .i64 16] x fun e w' => e = .returned (.int .u32 ((o1.val / 65536 : Nat) : Int)) ∧ Below x.heap.size x w') := hid (fun x hx => (field_yes x (HT.out x hx).t (o1.val : Int) 16 16 (by omega) (by omega) (by decide) (by decide) (by decide)).mono (by
      rintro e w' ⟨rfl, q, rfl⟩
      exact ⟨ret_int (by simp only [M.Fld]; simp only [Int.reducePow, Int.reduceToNat]; omega), below_drewN (Below.refl _ _) q⟩))
    have HH0 : Hid (∀ x, Below W.heap.size W x → Calls Tryz.prog 121 #[.int .i64 1, .int .u32 (o0.val : Int), .int .u32 ((o1.val % 65536 : Nat) : Int)] x fun e w' => e = .returned (.int .u32 (S.half 1 o0.val (o1.val % 65536) : Int)) ∧ Below x.heap.size x w') := hid (fun x hx => half_any x (HT.out x hx) 1 o0.val _ v0 (by omega))
    have HH1 : Hid (∀ x, Below W.heap.size W x → Calls Tryz.prog 121 #[.int .i64 2, .int .u32 (o0.val : Int), .int .u32 ((o1.val / 65536 : Nat) : Int)] x fun e w' => e = .returned (.int .u32 (S.half 2 o0.val (o1.val / 65536) : Int)) ∧ Below x.heap.size x w') := hid (fun x hx => half_any x (HT.out x hx) 2 o0.val _ v0 (by omega))
    obtain ⟨nm, sh, le, op⟩ := k
    simp only at e1 e2
    subst e1 e2
    clear hc ho hk HT HR v0 v1
    generalize S.half 1 o0.val (o1.val % 65536) = r0 at *
    generalize S.half 2 o0.val (o1.val / 65536) = r1 at *
    generalize o1.val % 65536 = x0 at *
    generalize o1.val / 65536 = x1 at *
    generalize o0.val = y0 at *
    generalize o1.val = y1 at *
    simp only [kdV, kdC]
    go_enter Tryz.func91, Tryz.ntmps91
    go_wp2_with fail
    refine wp_region_held_drew (S := fun x => Below W.heap.size W x) (by kernel_rfl) (below_on (below_one _ _) (Below.refl _ _).drew) (fun hHeld => ?_)
    refine tk 0 ⟨some 18, .move (.tmp 1), 192, "statement.go:51", #[], none⟩ (.slice (some ⟨b, o, none⟩) 2 c) ?_
    simp only [Act.put, List.setIfInBounds_toArray, List.set_cons_zero, List.set_cons_succ]
    refine tk 1 ⟨some 19, .indexAddr 192 (.tmp 18) (.const (.int .i64 0)), 0, "statement.go:51", #[⟨0, .data⟩], none⟩ (.pointer (some ⟨b, o, none⟩)) ?_
    simp only [Act.put, List.setIfInBounds_toArray, List.set_cons_zero, List.set_cons_succ]
    refine tk 2 ⟨some 20, .fieldAddr 197 (.tmp 19) 0, 0, "statement.go:51", #[⟨1, .data⟩], none⟩ (.pointer (some ⟨b, o, none⟩)) ?_
    simp only [Act.put, List.setIfInBounds_toArray, List.set_cons_zero, List.set_cons_succ]
    refine tk 3 ⟨some 21, .load 22 (.tmp 20), 22, "statement.go:51", #[⟨2, .data⟩], none⟩ (.int .u32 (y0 : Int)) ?_ (hy := Or.inl ⟨by rfl, by intro w hSw; have hcc := HU0.out w hSw; go_simp⟩)
    simp only [Act.put, List.setIfInBounds_toArray, List.set_cons_zero, List.set_cons_succ]
    refine tk 4 ⟨some 22, .move (.tmp 1), 192, "statement.go:51", #[{ on := 8, ground := .gcOnly Departure.lateStores }], none⟩ (.slice (some ⟨b, o, none⟩) 2 c) ?_
    simp only [Act.put, List.setIfInBounds_toArray, List.set_cons_zero, List.set_cons_succ]
    refine tk 5 ⟨some 23, .indexAddr 192 (.tmp 22) (.const (.int .i64 1)), 0, "statement.go:51", #[⟨4, .data⟩, { on := 8, ground := .gcOnly Departure.lateStores }], none⟩ (.pointer (some ⟨b, o + 3, none⟩)) ?_
    simp only [Act.put, List.setIfInBounds_toArray, List.set_cons_zero, List.set_cons_succ]
    refine tk 6 ⟨some 24, .fieldAddr 197 (.tmp 23) 0, 0, "statement.go:51", #[⟨5, .data⟩, { on := 8, ground := .gcOnly Departure.lateStores }], none⟩ (.pointer (some ⟨b, o + 3, none⟩)) ?_
    simp only [Act.put, List.setIfInBounds_toArray, List.set_cons_zero, List.set_cons_succ]
    refine tk 7 ⟨some 25, .load 22 (.tmp 24), 22, "statement.go:51", #[⟨6, .data⟩, { on := 8, ground := .gcOnly Departure.lateStores }], none⟩ (.int .u32 (y1 : Int)) ?_ (hy := Or.inl ⟨by rfl, by intro w hSw; have hcc := HU1.out w hSw; go_simp⟩)
    simp only [Act.put, List.setIfInBounds_toArray, List.set_cons_zero, List.set_cons_succ]
    refine wpAnyH_ready (rs := [8]) (by kernel_rfl) (by simp) (AllReadyH.cons (o := ⟨some 5, .assign (.tmp 21), 22, "statement.go:51", #[⟨3, .data⟩, ⟨0, .phase⟩, ⟨1, .phase⟩, ⟨2, .phase⟩, ⟨3, .phase⟩, { on := 4, ground := .textOnly Departure.lateStores }, { on := 5, ground := .textOnly Departure.lateStores }, { on := 6, ground := .textOnly Departure.lateStores }, { on := 7, ground := .textOnly Departure.lateStores }], none⟩) rfl (fun KQ hK => ?_) AllReadyH.nil)
    go_simp
    refine hK.out _ _ (below_on (below_one _ _) (Below.refl _ _).drew) (fun hHeld => ?_)
    clear hK KQ
    try simp only [Act.put, List.setIfInBounds_toArray, List.set_cons_zero, List.set_cons_succ]
    refine wpAnyH_ready (rs := [9]) (by kernel_rfl) (by simp) (AllReadyH.cons (o := ⟨some 6, .assign (.tmp 25), 22, "statement.go:51", #[⟨7, .data⟩, ⟨8, .chain⟩, ⟨0, .phase⟩, ⟨1, .phase⟩, ⟨2, .phase⟩, ⟨3, .phase⟩, ⟨4, .phase⟩, ⟨5, .phase⟩, ⟨6, .phase⟩, ⟨7, .phase⟩, ⟨8, .phase⟩], none⟩) rfl (fun KQ hK => ?_) AllReadyH.nil)
    go_simp
    refine hK.out _ _ (below_on (below_one _ _) (Below.refl _ _).drew) (fun hHeld => ?_)
    clear hK KQ
    try simp only [Act.put, List.setIfInBounds_toArray, List.set_cons_zero, List.set_cons_succ]
    refine wpAnyH_done (by kernel_rfl) ?_ _
    clear hHeld
    generalize hY : (W.alloc (Obj.cells #[Value.string { data := S.liN.toArray }, Value.string { data := [97, 120].toArray }, Value.int IntKind.i64 ↑le, Value.int IntKind.i64 ↑op] 188)).drew = Y at *
    have hbY : Below W.heap.size W Y := by rw [← hY]; exact below_on (below_one _ _) (Below.refl _ _).drew
    clear hY
    go_wp2_with fail
    refine (HF0.out _ hbY).mono ?_
    rintro e w1 ⟨rfl, hb1⟩
    have hB1 := below_on hbY hb1
    go_wp2_with fail
    refine (HH0.out _ hB1).mono ?_
    rintro e w2 ⟨rfl, hb2⟩
    have hB2 := below_on hB1 hb2
    go_wp2_with fail
    refine (HF1.out _ hB2).mono ?_
    rintro e w3 ⟨rfl, hb3⟩
    have hB3 := below_on hB2 hb3
    go_wp2_with fail
    refine (HH1.out _ hB3).mono ?_
    rintro e w4 ⟨rfl, hb4⟩
    have hB4 := below_on hB3 hb4
    clear hb1 hb2 hb3 hb4 hB1 hB2 hB3
    go_wp2_with fail
    go_ret
    exact ⟨⟨_, rfl, hB4.size, mine_new _ [r0, r1] _ rfl⟩, below_on hB4 (below_one _ _)⟩
  · -- zero
    have hl1 : os.length = 1 := by rw [← ho.len, e2]; rfl
    obtain ⟨o0, rfl⟩ : ∃ o0, os = [o0] := by
      match os, hl1 with
      | [o0], _ => exact ⟨o0, rfl⟩
    obtain rfl : n = 1 := by simpa using hn.symm
    have hz := ho.zero e1 o0 (by simp)
    have HR : Hid (S.words k [o0] = List.replicate o0.val 0) := hid (by unfold S.words; rw [if_neg (by rw [e1]; decide), if_neg (by rw [e1]; decide), if_pos e1]; rfl)
    rw [HR.out]
    rcases hat with h0 | ⟨b, o, rfl, hb, hc⟩
    · cases h0
    have d0 : W.cell? ⟨b, o, none⟩ = some (.int .u32 (o0.val : Int)) := by have := hc 0 (by simp) 0 _ rfl; simpa using this
    have d1 : ∀ ob, (W.alloc ob).cell? ⟨b, o, none⟩ = some (.int .u32 (o0.val : Int)) := fun ob => by rw [(below_one W ob).cell (p := ⟨b, o, none⟩) hb]; exact d0
    obtain ⟨nm, sh, le, op⟩ := k
    simp only at e1 e2
    subst e1 e2
    clear hc ho hk HT HR
    generalize o0.val = v at *
    have v1 : (v : Int) ≤ 2048 := by omega
    simp only [kdV, kdC]
    go_enter Tryz.func91, Tryz.ntmps91
    go_wp2_with (at_make; refine wpList_make_full _ rfl _ _ 24 rfl (W.heap.size) 22 i0 (.int .u32 0) 1 Tryz.underlying24 hi hz0 hz1 .u32 .u32 _ _ v rfl rfl rfl rfl (by rw [hz2]; omega) (by unfold maxLen; omega) (below_one _ _).size ?_; intro w1 ho1 hg1)
    go_ret
    have hcc := cel_of_own ho1
    rw [show (Value.int .u32 0).cells = #[.int .u32 0] from rfl, made_list] at hcc
    rw [List.length_replicate]
    refine ⟨⟨W.heap.size + 1, rfl, by omega, ?_⟩, bl_grown (below_one _ _) hg1⟩
    rw [show u32s (List.replicate v 0) = List.replicate v (.int .u32 0) by simp [u32s]]
    have hsz : (W.alloc (Obj.cells #[Value.string { data := S.zeroN.toArray }, Value.string { data := [110].toArray }, Value.int IntKind.i64 ↑le, Value.int IntKind.i64 ↑op] 188)).heap.size = W.heap.size + 1 := by simp
    rw [← hsz]
    exact hcc.1
  · -- an instruction
    have hsl := S.shape_ok k.op hk.op
    rw [← e4] at hsl
    have HI : Hid (∀ x, Below W.heap.size W x → Calls Tryz.prog 122 #[kdV k, .slice ao n c] x fun y w' => y = .returned (.int .u32 ((enc (S.insOf k os)).toNat : Int)) ∧ Below x.heap.size x w') := hid (fun x hx => instruction_any x (HT.out x hx) k ao n c os hn (by rw [ho.len, hn]) (by rw [← hn, ← ho.len]; exact hsl.1) hsl.2 ho.val (hat.on hx))
    have HR : Hid (S.words k os = [(enc (S.insOf k os)).toNat]) := hid (by unfold S.words; rw [if_neg e1, if_neg e2, if_neg e3])
    rw [HR.out]
    generalize (enc (S.insOf k os)).toNat = v at *
    clear hsl hat ho hk HT HR e4
    obtain ⟨nm, sh, le, op⟩ := k
    simp only at e1 e2 e3
    have q1 : (nm == [119, 111, 114, 100]) = false := by simpa [S.wordN] using e1
    have q2 : (nm == [108, 105]) = false := by simpa [S.liN] using e2
    have q3 : (nm == [122, 101, 114, 111]) = false := by simpa [S.zeroN] using e3
    simp only [kdV, kdC] at HI ⊢
    clear e1 e2 e3
    go_enter Tryz.func91, Tryz.ntmps91
    go_wp2_with (go_at_call 122; refine (HI.out _ (below_one _ _)).mono ?_; rintro e w' ⟨rfl, hb1⟩)
    go_ret
    exact ⟨⟨_, rfl, (below_on (below_one _ _) hb1).size, mine_new _ [v] _ rfl⟩, below_on (below_on (below_one _ _) hb1) (below_one _ _)⟩
end Go.Proofs.YtncnogndopgknaaGreatDoor
