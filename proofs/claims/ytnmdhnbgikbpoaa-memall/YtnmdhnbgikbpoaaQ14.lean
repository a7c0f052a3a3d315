/- The law MemAll 6: its beginning. -/
import Derived.Test.YtnmdhnbgikbpoaaQ13
namespace Go.Proofs.Ytnmdhnbgikbpoaa
open Go.RowKit
def ben0 : List Value := [.pointer none, .pointer none, .pointer none, .pointer none, .pointer none, .pointer none, .pointer none, .pointer none, .slice none 0 0]
/-- The bench while it is set up: its nine cells, the first n memories. -/
structure Hd (W wr : World) (gb : Nat) (cs : List Value) (f : Nat → Fp) (r : Nat → Rf) (m : Nat → MS) (n : Nat) : Prop where
  cel : Cel wr gb 68 cs
  pb : Pb W wr f r m n
  below : Below W.heap.size W wr
  hgb : W.heap.size ≤ gb
theorem Hd.start (W : World) (f : Nat → Fp) (r : Nat → Rf) (m : Nat → MS) : Hd W (W.alloc (.cells ben0.toArray 68)) W.heap.size ben0 f r m 0 :=
  ⟨Cel.new _ _ _, Pb.start _ _ _ _ _, below_one _ _, Nat.le_refl _⟩
section
variable {W wr w' : World} {f : Nat → Fp} {r : Nat → Rf} {m : Nat → MS} {n : Nat} {gb : Nat} {cs cs' : List Value} (h : Hd W wr gb cs f r m n)
include h
theorem Hd.bel (hb : ButL [gb] wr w') : Below W.heap.size W w' :=
  h.below.trans (hb.below (fun k hk => by rw [List.mem_singleton] at hk; subst hk; exact h.hgb) h.below.size)
theorem Hd.keep (hb : ButL [gb] wr w') (hc : Cel w' gb 68 cs') : Hd W w' gb cs' f r m n := ⟨hc, h.pb.keep h.cel hb, h.bel hb, h.hgb⟩
theorem Hd.put (hb : ButL [gb] wr w') {fn : Fp} {rn : Rf} {mn : MS} (hp : Pair wr w' fn rn mn) (hc : Cel w' gb 68 cs') (i n' : Nat) (hn : ∀ j, j < n' → j ≠ i → j < n) : Hd W w' gb cs' (upd f i fn) (upd r i rn) (upd m i mn) n' :=
  ⟨hc, h.pb.put h.cel hb h.below.size hp i n' hn, h.bel hb, h.hgb⟩
end
def SC (gb : Nat) (BC : List Value) (x : World) : Prop := Cel x gb 68 BC
section
variable {gb : Nat} {f : Nat → Fp} {r : Nat → Rf} {vL : Value} {x : World} (h : SC gb (benC f r vL) x)
include h
theorem SC.cm (i : Nat) (hi : i < 4) : x.cell? ⟨gb, i, none⟩ = some (.pointer (some ⟨(f i).gm, 0, none⟩)) := by
  rw [Cel.cell h i]
  match i, hi with
  | 0, _ => rfl
  | 1, _ => rfl
  | 2, _ => rfl
  | 3, _ => rfl
theorem SC.cr (i : Nat) (hi : i < 4) : x.cell? ⟨gb, 4 + i, none⟩ = some (.pointer (some ⟨(r i).g, 0, none⟩)) := by
  rw [Cel.cell h (4 + i)]
  match i, hi with
  | 0, _ => rfl
  | 1, _ => rfl
  | 2, _ => rfl
  | 3, _ => rfl
end
def ben1 (f : Nat → Fp) (r : Nat → Rf) : List Value := [ptr (f 0).gm, .pointer none, .pointer none, .pointer none, ptr (r 0).g, .pointer none, .pointer none, .pointer none, .slice none 0 0]
def ben2 (f : Nat → Fp) (r : Nat → Rf) : List Value := [ptr (f 0).gm, ptr (f 1).gm, .pointer none, .pointer none, ptr (r 0).g, ptr (r 1).g, .pointer none, .pointer none, .slice none 0 0]
def ben3 (f : Nat → Fp) (r : Nat → Rf) : List Value := [ptr (f 0).gm, ptr (f 1).gm, ptr (f 2).gm, .pointer none, ptr (r 0).g, ptr (r 1).g, ptr (r 2).g, .pointer none, .slice none 0 0]
theorem size72' : (Try.prog.info? 72).map (·.size) = some 10 := by kernel_rfl
theorem under72' : Try.prog.underlying 72 = some (.struct (Try.prog.fieldsOf 72)) := by kernel_rfl
attribute [-simp] Try.isAgg72
set_option maxRecDepth 40000 in
set_option maxHeartbeats 16000000 in
theorem memall_any (W : World) (s n : Int) (so : Option Addr) (k c gs o : Nat) (Qf : Nat → Oq) (hso : 0 < k → so = some ⟨gs, o, none⟩ ∧ gs < W.heap.size) (hq : ∀ j, j < k → OqOk W (Qf j) ∧ W.rangeAt gs (o + j * 10) (Qf j).cs) (hk : (k : Int) * 96 ≤ 140737488351232) :
    Calls Try.prog 6 #[.int .i64 s, .int .i64 n, .slice so k c] W fun x w' => x = .returned (.bool true) ∧ Below W.heap.size W w' := by
  have HH0 := hid (fun f r m => Hd.start W f r m)
  have HSO := hid hso
  have HQF := hid hq
  clear hso hq
  go_enter Try.func6, Try.ntmps6
  go_wp2_with fail
  change Calls Try.prog 28 _ (W.alloc (.cells ben0.toArray 68)) _
  have HGB : ∃ gb, gb = W.heap.size := ⟨_, rfl⟩
  obtain ⟨gb, hG⟩ := HGB
  rw [← hG] at HH0 ⊢
  generalize hX : W.alloc _ = X at *
  clear hX hG
  refine (fresh_raw (cs := ben0) (HH0.out (fun _ => ⟨0, 0, 0, []⟩) (fun _ => ⟨0, 0, 0, []⟩) (fun _ => ⟨0, [], 0⟩)).cel rfl 0 (by omega) 2 1).mono ?_
  rintro x w1 ⟨rfl, hb, ⟨no, _⟩ | ⟨_, f0, r0, m0, hp, hc⟩⟩
  · exact absurd (by decide) no
  have H1 : ∃ f r m, Hid (Hd W w1 gb (ben1 f r) f r m 1) := ⟨_, _, _, hid ((HH0.out (fun _ => f0) (fun _ => r0) (fun _ => m0)).put (cs' := ben1 (upd (fun _ => f0) 0 f0) (upd (fun _ => r0) 0 r0)) hb hp hc 0 1 (by omega))⟩
  clear HH0 hb hp hc f0 r0 m0
  obtain ⟨f, r, m, H1⟩ := H1
  go_wp2_with fail
  refine (fresh_raw (cs := ben1 f r) H1.out.cel rfl 1 (by omega) 2 1).mono ?_
  rintro x w2 ⟨rfl, hb, ⟨no, _⟩ | ⟨_, f0, r0, m0, hp, hc⟩⟩
  · exact absurd (by decide) no
  have H2 : ∃ f r m, Hid (Hd W w2 gb (ben2 f r) f r m 2) := ⟨_, _, _, hid (H1.out.put (cs' := ben2 (upd f 1 f0) (upd r 1 r0)) hb hp hc 1 2 (by omega))⟩
  clear H1 hb hp hc f0 r0 m0
  clear f r m
  obtain ⟨f, r, m, H2⟩ := H2
  go_wp2_with fail
  refine (fresh_raw (cs := ben2 f r) H2.out.cel rfl 1 (by omega) s n).mono ?_
  rintro x w3 ⟨rfl, hb, hor⟩
  have H3 : ∃ f r m, Hid (Hd W w3 gb (ben2 f r) f r m 2) := by
    rcases hor with ⟨_, hc⟩ | ⟨_, f0, r0, m0, hp, hc⟩
    · exact ⟨_, _, _, hid (H2.out.keep hb hc)⟩
    · exact ⟨_, _, _, hid (H2.out.put (cs' := ben2 (upd f 1 f0) (upd r 1 r0)) hb hp hc 1 2 (by omega))⟩
  clear H2 hb hor
  clear f r m
  obtain ⟨f, r, m, H3⟩ := H3
  go_wp2_with fail
  refine (clone_raw (cs := ben2 f r) H3.out.cel rfl 2 0 (by omega) (by omega) (by omega) (f 0) (r 0) (m 0) (H3.out.pb.mem 0 (by omega)) (H3.out.pb.rmem 0 (by omega)) (H3.out.pb.pos 0 (by omega)) rfl rfl).mono ?_
  rintro x w4 ⟨rfl, hb, f0, r0, hp, hc⟩
  have H4 : ∃ f r m, Hid (Hd W w4 gb (ben3 f r) f r m 3) := ⟨_, _, _, hid (H3.out.put (cs' := ben3 (upd f 2 f0) (upd r 2 r0)) hb hp hc 2 3 (by omega))⟩
  clear H3 hb hp hc f0 r0
  clear f r m
  obtain ⟨f, r, m, H4⟩ := H4
  go_wp2_with fail
  refine (clone_raw (cs := ben3 f r) H4.out.cel rfl 3 1 (by omega) (by omega) (by omega) (f 1) (r 1) (m 1) (H4.out.pb.mem 1 (by omega)) (H4.out.pb.rmem 1 (by omega)) (H4.out.pb.pos 1 (by omega)) rfl rfl).mono ?_
  rintro x w5 ⟨rfl, hb, f0, r0, hp, hc⟩
  have H5 : ∃ f r m, Hid (Bn W w5 gb f r m m (.slice none 0 0) []) := by
    have a := H4.out.put (cs' := benC (upd f 3 f0) (upd r 3 r0) (.slice none 0 0)) hb hp hc 3 4 (by omega)
    exact ⟨_, _, _, hid (a.pb.bn a.below a.hgb a.cel)⟩
  clear H4 hb hp hc f0 r0
  clear f r m
  obtain ⟨f, r, m, H5⟩ := H5
  go_wp2_with fail
  go_loopw [8] (fun i wr => ∃ j : Nat, j ≤ k ∧ i = .int .i64 (j : Int) ∧ ∃ f r m vL lv, Hid (Bn W wr gb f r m m vL lv ∧ lv.length ≤ 4 * j ∧ lv.length % 4 = 0)) (fun i _ => k - (intOf i).toNat)
  case atStart => exact ⟨0, Nat.zero_le _, rfl, f, r, m, _, _, hid ⟨H5.out, by simp, by simp⟩⟩
  case round =>
    clear H5
    clear f r m
    obtain ⟨j, hj, rfl, f, r, m, vL, lv, HB⟩ := hrel
    by_cases hlt : j < k
    · have c1 : (j : Int) < (k : Int) := by omega
      obtain ⟨hso, hgl⟩ := HSO.out (by omega)
      subst hso
      obtain ⟨hok, hrg⟩ := HQF.out j hlt
      have HOK := hid hok
      have HRG : Hid (∀ x, Below W.heap.size W x → x.rangeAt gs (o + j * 10) (Qf j).cs) := hid fun x hb i v hv => (hb.cell (p := ⟨gs, o + j * 10 + i, none⟩) hgl).trans (hrg i v hv)
      clear hok hrg
      generalize Qf j = q at *
      obtain ⟨i, ei⟩ : ∃ i : Nat, q.m % 4 = (i : Int) := ⟨(q.m % 4).toNat, by omega⟩
      have hi : i < 4 := by omega
      have i4 : (i : Int) < 4 := by omega
      have EI := hid ei
      clear ei
      have HD := hid (HB.out.1.on (Below.refl _ _).drew)
      have HLV := hid HB.out.2
      have HNN : Hid ((lv.length + 4) * 24 ≤ 140737488355328) := hid (by have := HB.out.2.1; omega)
      have HJ := hid hlt
      clear HB
      go_wp2_with fail
      refine wp_region_held_drew (S := fun x => x.rangeAt gs (o + j * 10) q.cs) (by kernel_rfl) (HRG.out _ HD.out.below) (fun hHeld => ?_)
      refine wpAnyH_take (i := 0) (oi := { dst := some 45, op := Op.move (Operand.tmp 7), type := 62, pos := "law.go:214", after := #[], guard := none }) (v := .pointer (some ⟨gb, 0, none⟩)) rfl (by kernel_rfl) (by kernel_rfl) (by kernel_rfl) (fun _ _ _ h => h) (Or.inl ⟨by rfl, by intro w hSw; go_simp⟩) (by assumption) ?_
      simp only [Act.put, List.setIfInBounds_toArray, List.set_cons_zero, List.set_cons_succ]
      refine wpAnyH_take (i := 1) (oi := { dst := some 46, op := Op.move (Operand.tmp 2), type := 61, pos := "law.go:214", after := #[], guard := none }) (v := .slice (some ⟨gs, o, none⟩) k c) rfl (by kernel_rfl) (by kernel_rfl) (by kernel_rfl) (fun _ _ _ h => h) (Or.inl ⟨by rfl, by intro w hSw; go_simp⟩) (by assumption) ?_
      simp only [Act.put, List.setIfInBounds_toArray, List.set_cons_zero, List.set_cons_succ]
      refine wpAnyH_take (i := 2) (oi := { dst := some 47, op := Op.move (Operand.tmp 8), type := 3, pos := "law.go:214", after := #[], guard := none }) (v := .int .i64 (j : Int)) rfl (by kernel_rfl) (by kernel_rfl) (by kernel_rfl) (fun _ _ _ h => h) (Or.inl ⟨by rfl, by intro w hSw; go_simp⟩) (by assumption) ?_
      simp only [Act.put, List.setIfInBounds_toArray, List.set_cons_zero, List.set_cons_succ]
      refine wpAnyH_take (i := 3) (oi := { dst := some 48, op := Op.indexAddr 61 (Operand.tmp 46) (Operand.tmp 47), type := 0, pos := "law.go:214", after := #[{ on := 1, ground := Ground.data }, { on := 2, ground := Ground.data }], guard := none }) (v := .pointer (some ⟨gs, o + j * 10, none⟩)) rfl (by kernel_rfl) (by kernel_rfl) (by kernel_rfl) (fun _ _ _ h => h) (Or.inl ⟨by rfl, by intro w hSw; go_simp⟩) (by assumption) ?_
      simp only [Act.put, List.setIfInBounds_toArray, List.set_cons_zero, List.set_cons_succ]
      refine wpAnyH_take (i := 4) (oi := { dst := some 49, op := Op.load 72 (Operand.tmp 48), type := 72, pos := "law.go:214", after := #[{ on := 3, ground := Ground.data }], guard := none }) (v := .agg q.cs.toArray) rfl (by kernel_rfl) (by kernel_rfl) (by kernel_rfl) (fun _ _ _ h => h) (yieldsIf_load_mid (by rfl) 72 _ rfl gs (o + j * 10) rfl q.cs _ (fun w hSw => hSw) under72' rfl (by rw [size72']; rfl)) (by assumption) ?_
      simp only [Act.put, List.setIfInBounds_toArray, List.set_cons_zero, List.set_cons_succ]
      refine wpAnyH_ready (rs := [5]) (by kernel_rfl) (by simp) (AllReadyH.cons (o := { dst := some 50, op := Op.call { callee := Callee.value (Operand.func 29), args := #[Operand.tmp 45, Operand.tmp 49], argTypes := #[62, 72] }, type := 4, pos := "law.go:214", after := #[{ on := 0, ground := Ground.data }, { on := 4, ground := Ground.data }], guard := none }) rfl (fun KQ hK => ?_) AllReadyH.nil)
      go_simp
      refine (step_any lays_any HD.out HLV.out.2 HNN.out q HOK.out).mono ?_
      rintro x w2 ⟨rfl, f2, r2, m2, vL2, lv2, hb2, hl2, h42⟩
      have HB2 := hid hb2
      have HL2 := hid (And.intro hl2 h42)
      clear hb2 hl2 h42
      go_wp2_with fail
      refine hK.out _ _ (HRG.out _ HB2.out.below) (fun hHeld => ?_)
      clear hK KQ
      try simp only [Act.put, List.setIfInBounds_toArray, List.set_cons_zero, List.set_cons_succ]
      refine wpAnyH_take (i := 6) (oi := { dst := some 51, op := Op.unOp UnOp.not 4 (Operand.tmp 50), type := 4, pos := "law.go:214", after := #[{ on := 5, ground := Ground.data }], guard := none }) (v := .bool false) rfl (by kernel_rfl) (by kernel_rfl) (by kernel_rfl) (fun _ _ _ h => h) (Or.inl ⟨by rfl, by intro w hSw; go_simp⟩) (by assumption) ?_
      simp only [Act.put, List.setIfInBounds_toArray, List.set_cons_zero, List.set_cons_succ]
      refine wpAnyH_take (i := 7) (oi := { dst := some 52, op := Op.move (Operand.tmp 51), type := 4, pos := "law.go:214", after := #[{ on := 6, ground := Ground.data }, { on := 5, ground := Ground.chain }], guard := none }) (v := .bool false) rfl (by kernel_rfl) (by kernel_rfl) (by kernel_rfl) (fun _ _ _ h => h) (Or.inl ⟨by rfl, by intro w hSw; go_simp⟩) (by assumption) ?_
      simp only [Act.put, List.setIfInBounds_toArray, List.set_cons_zero, List.set_cons_succ]
      refine wpAnyH_take (i := 8) (oi := { dst := some 53, op := Op.move (Operand.tmp 7), type := 62, pos := "law.go:214", after := #[{ on := 7, ground := Ground.guard }], guard := some (7, false) }) (v := .pointer (some ⟨gb, 0, none⟩)) rfl (by kernel_rfl) (by kernel_rfl) (by kernel_rfl) (fun _ _ _ h => h) (Or.inl ⟨by rfl, by intro w hSw; go_simp⟩) (by assumption) ?_
      simp only [Act.put, List.setIfInBounds_toArray, List.set_cons_zero, List.set_cons_succ]
      refine wpAnyH_take (i := 9) (oi := { dst := some 54, op := Op.move (Operand.tmp 2), type := 61, pos := "law.go:214", after := #[{ on := 7, ground := Ground.guard }], guard := some (7, false) }) (v := .slice (some ⟨gs, o, none⟩) k c) rfl (by kernel_rfl) (by kernel_rfl) (by kernel_rfl) (fun _ _ _ h => h) (Or.inl ⟨by rfl, by intro w hSw; go_simp⟩) (by assumption) ?_
      simp only [Act.put, List.setIfInBounds_toArray, List.set_cons_zero, List.set_cons_succ]
      refine wpAnyH_take (i := 10) (oi := { dst := some 55, op := Op.move (Operand.tmp 8), type := 3, pos := "law.go:214", after := #[{ on := 7, ground := Ground.guard }], guard := some (7, false) }) (v := .int .i64 (j : Int)) rfl (by kernel_rfl) (by kernel_rfl) (by kernel_rfl) (fun _ _ _ h => h) (Or.inl ⟨by rfl, by intro w hSw; go_simp⟩) (by assumption) ?_
      simp only [Act.put, List.setIfInBounds_toArray, List.set_cons_zero, List.set_cons_succ]
      refine wpAnyH_take (i := 11) (oi := { dst := some 56, op := Op.indexAddr 61 (Operand.tmp 54) (Operand.tmp 55), type := 0, pos := "law.go:214", after := #[{ on := 9, ground := Ground.data }, { on := 10, ground := Ground.data }, { on := 7, ground := Ground.guard }], guard := some (7, false) }) (v := .pointer (some ⟨gs, o + j * 10, none⟩)) rfl (by kernel_rfl) (by kernel_rfl) (by kernel_rfl) (fun _ _ _ h => h) (Or.inl ⟨by rfl, by intro w hSw; go_simp⟩) (by assumption) ?_
      simp only [Act.put, List.setIfInBounds_toArray, List.set_cons_zero, List.set_cons_succ]
      refine wpAnyH_take (i := 12) (oi := { dst := some 57, op := Op.fieldAddr 72 (Operand.tmp 56) 1, type := 0, pos := "law.go:214", after := #[{ on := 11, ground := Ground.data }, { on := 7, ground := Ground.guard }], guard := some (7, false) }) (v := .pointer (some ⟨gs, o + j * 10 + 1, none⟩)) rfl (by kernel_rfl) (by kernel_rfl) (by kernel_rfl) (fun _ _ _ h => h) (Or.inl ⟨by rfl, by intro w hSw; go_simp⟩) (by assumption) ?_
      simp only [Act.put, List.setIfInBounds_toArray, List.set_cons_zero, List.set_cons_succ]
      refine wpAnyH_take (i := 13) (oi := { dst := some 58, op := Op.load 3 (Operand.tmp 57), type := 3, pos := "law.go:214", after := #[{ on := 12, ground := Ground.data }, { on := 7, ground := Ground.guard }], guard := some (7, false) }) (v := .int .i64 q.m) rfl (by kernel_rfl) (by kernel_rfl) (by kernel_rfl) (fun _ _ _ h => h) (Or.inl ⟨by rfl, by intro w hSw; have y := hSw 1 (.int .i64 q.m) rfl; go_simp⟩) (by assumption) ?_
      simp only [Act.put, List.setIfInBounds_toArray, List.set_cons_zero, List.set_cons_succ]
      refine wpAnyH_take (i := 15) (oi := { dst := some 60, op := Op.nilCheck (Operand.tmp 53), type := 0, pos := "law.go:214", after := #[{ on := 8, ground := Ground.data }, { on := 7, ground := Ground.guard }], guard := some (7, false) }) (v := .pointer (some ⟨gb, 0, none⟩)) rfl (by kernel_rfl) (by kernel_rfl) (by kernel_rfl) (fun _ _ _ h => h) (Or.inl ⟨by rfl, by intro w hSw; go_simp⟩) (by assumption) ?_
      simp only [Act.put, List.setIfInBounds_toArray, List.set_cons_zero, List.set_cons_succ]
      refine wpAnyH_take (i := 16) (oi := { dst := some 61, op := Op.fieldAddr 68 (Operand.tmp 60) 0, type := 0, pos := "law.go:214", after := #[{ on := 15, ground := Ground.data }, { on := 7, ground := Ground.guard }], guard := some (7, false) }) (v := .pointer (some ⟨gb, 0, none⟩)) rfl (by kernel_rfl) (by kernel_rfl) (by kernel_rfl) (fun _ _ _ h => h) (Or.inl ⟨by rfl, by intro w hSw; go_simp⟩) (by assumption) ?_
      simp only [Act.put, List.setIfInBounds_toArray, List.set_cons_zero, List.set_cons_succ]
      refine wpAnyH_take (i := 20) (oi := { dst := some 65, op := Op.move (Operand.tmp 7), type := 62, pos := "law.go:214", after := #[{ on := 7, ground := Ground.guard }], guard := some (7, false) }) (v := .pointer (some ⟨gb, 0, none⟩)) rfl (by kernel_rfl) (by kernel_rfl) (by kernel_rfl) (fun _ _ _ h => h) (Or.inl ⟨by rfl, by intro w hSw; go_simp⟩) (by assumption) ?_
      simp only [Act.put, List.setIfInBounds_toArray, List.set_cons_zero, List.set_cons_succ]
      refine wpAnyH_take (i := 21) (oi := { dst := some 66, op := Op.move (Operand.tmp 2), type := 61, pos := "law.go:214", after := #[{ on := 7, ground := Ground.guard }], guard := some (7, false) }) (v := .slice (some ⟨gs, o, none⟩) k c) rfl (by kernel_rfl) (by kernel_rfl) (by kernel_rfl) (fun _ _ _ h => h) (Or.inl ⟨by rfl, by intro w hSw; go_simp⟩) (by assumption) ?_
      simp only [Act.put, List.setIfInBounds_toArray, List.set_cons_zero, List.set_cons_succ]
      refine wpAnyH_take (i := 22) (oi := { dst := some 67, op := Op.move (Operand.tmp 8), type := 3, pos := "law.go:214", after := #[{ on := 7, ground := Ground.guard }], guard := some (7, false) }) (v := .int .i64 (j : Int)) rfl (by kernel_rfl) (by kernel_rfl) (by kernel_rfl) (fun _ _ _ h => h) (Or.inl ⟨by rfl, by intro w hSw; go_simp⟩) (by assumption) ?_
      simp only [Act.put, List.setIfInBounds_toArray, List.set_cons_zero, List.set_cons_succ]
      refine wpAnyH_take (i := 23) (oi := { dst := some 68, op := Op.indexAddr 61 (Operand.tmp 66) (Operand.tmp 67), type := 0, pos := "law.go:214", after := #[{ on := 21, ground := Ground.data }, { on := 22, ground := Ground.data }, { on := 7, ground := Ground.guard }], guard := some (7, false) }) (v := .pointer (some ⟨gs, o + j * 10, none⟩)) rfl (by kernel_rfl) (by kernel_rfl) (by kernel_rfl) (fun _ _ _ h => h) (Or.inl ⟨by rfl, by intro w hSw; go_simp⟩) (by assumption) ?_
      simp only [Act.put, List.setIfInBounds_toArray, List.set_cons_zero, List.set_cons_succ]
      refine wpAnyH_take (i := 24) (oi := { dst := some 69, op := Op.fieldAddr 72 (Operand.tmp 68) 1, type := 0, pos := "law.go:214", after := #[{ on := 23, ground := Ground.data }, { on := 7, ground := Ground.guard }], guard := some (7, false) }) (v := .pointer (some ⟨gs, o + j * 10 + 1, none⟩)) rfl (by kernel_rfl) (by kernel_rfl) (by kernel_rfl) (fun _ _ _ h => h) (Or.inl ⟨by rfl, by intro w hSw; go_simp⟩) (by assumption) ?_
      simp only [Act.put, List.setIfInBounds_toArray, List.set_cons_zero, List.set_cons_succ]
      refine wpAnyH_take (i := 25) (oi := { dst := some 70, op := Op.load 3 (Operand.tmp 69), type := 3, pos := "law.go:214", after := #[{ on := 24, ground := Ground.data }, { on := 7, ground := Ground.guard }], guard := some (7, false) }) (v := .int .i64 q.m) rfl (by kernel_rfl) (by kernel_rfl) (by kernel_rfl) (fun _ _ _ h => h) (Or.inl ⟨by rfl, by intro w hSw; have y := hSw 1 (.int .i64 q.m) rfl; go_simp⟩) (by assumption) ?_
      simp only [Act.put, List.setIfInBounds_toArray, List.set_cons_zero, List.set_cons_succ]
      refine wpAnyH_take (i := 27) (oi := { dst := some 72, op := Op.nilCheck (Operand.tmp 65), type := 0, pos := "law.go:214", after := #[{ on := 20, ground := Ground.data }, { on := 7, ground := Ground.guard }], guard := some (7, false) }) (v := .pointer (some ⟨gb, 0, none⟩)) rfl (by kernel_rfl) (by kernel_rfl) (by kernel_rfl) (fun _ _ _ h => h) (Or.inl ⟨by rfl, by intro w hSw; go_simp⟩) (by assumption) ?_
      simp only [Act.put, List.setIfInBounds_toArray, List.set_cons_zero, List.set_cons_succ]
      refine wpAnyH_take (i := 28) (oi := { dst := some 73, op := Op.fieldAddr 68 (Operand.tmp 72) 1, type := 0, pos := "law.go:214", after := #[{ on := 27, ground := Ground.data }, { on := 7, ground := Ground.guard }], guard := some (7, false) }) (v := .pointer (some ⟨gb, 4, none⟩)) rfl (by kernel_rfl) (by kernel_rfl) (by kernel_rfl) (fun _ _ _ h => h) (Or.inl ⟨by rfl, by intro w hSw; go_simp⟩) (by assumption) ?_
      simp only [Act.put, List.setIfInBounds_toArray, List.set_cons_zero, List.set_cons_succ]
      refine wpAnyH_ready (rs := [14]) (by kernel_rfl) (by simp) (AllReadyH.cons (o := { dst := some 59, op := Op.call { callee := Callee.value (Operand.func 30), args := #[Operand.tmp 58], argTypes := #[3] }, type := 3, pos := "law.go:214", after := #[{ on := 13, ground := Ground.data }, { on := 7, ground := Ground.chain }, { on := 7, ground := Ground.guard }], guard := some (7, false) }) rfl (fun KQ hK => ?_) AllReadyH.nil)
      go_simp
      refine (slot_any _ _).mono ?_
      rintro x wk ⟨rfl, rfl⟩
      rw [EI.out]
      go_wp2_with fail
      refine hK.out _ _ (HRG.out _ HB2.out.below) (fun hHeld => ?_)
      clear hK KQ
      try simp only [Act.put, List.setIfInBounds_toArray, List.set_cons_zero, List.set_cons_succ]
      refine wpAnyH_take (i := 17) (oi := { dst := some 62, op := Op.indexAddr 63 (Operand.tmp 61) (Operand.tmp 59), type := 0, pos := "law.go:214", after := #[{ on := 16, ground := Ground.data }, { on := 14, ground := Ground.data }, { on := 7, ground := Ground.guard }], guard := some (7, false) }) (v := .pointer (some ⟨gb, i, none⟩)) rfl (by kernel_rfl) (by kernel_rfl) (by kernel_rfl) (fun _ _ _ h => h) (Or.inl ⟨by rfl, by intro w hSw; go_simp⟩) (by assumption) ?_
      simp only [Act.put, List.setIfInBounds_toArray, List.set_cons_zero, List.set_cons_succ]
      refine wpAnyH_ready (rs := [18]) (by kernel_rfl) (by simp) (AllReadyH.cons (o := { dst := some 63, op := Op.load 25 (Operand.tmp 62), type := 25, pos := "law.go:214", after := #[{ on := 17, ground := Ground.data }, { on := 7, ground := Ground.guard }], guard := some (7, false) }) rfl (fun KQ hK => ?_) AllReadyH.nil)
      have hcc := SC.cm (gb := gb) (f := f2) (r := r2) (vL := vL2) HB2.out.cel i hi
      go_simp
      refine hK.out _ _ (HRG.out _ HB2.out.below) (fun hHeld => ?_)
      clear hK KQ
      try simp only [Act.put, List.setIfInBounds_toArray, List.set_cons_zero, List.set_cons_succ]
      refine wpAnyH_ready (rs := [19]) (by kernel_rfl) (by simp) (AllReadyH.cons (o := { dst := some 64, op := Op.call { callee := Callee.value (Operand.func 19), args := #[Operand.tmp 63], argTypes := #[25] }, type := 2, pos := "law.go:214", after := #[{ on := 18, ground := Ground.data }, { on := 14, ground := Ground.chain }, { on := 7, ground := Ground.guard }], guard := some (7, false) }) rfl (fun KQ hK => ?_) AllReadyH.nil)
      go_simp
      refine (meter_any _ (f2 i) (m2 i) (HB2.out.mem i hi)).mono ?_
      rintro x wk ⟨rfl, rfl⟩
      go_wp2_with fail
      refine hK.out _ _ (HRG.out _ HB2.out.below) (fun hHeld => ?_)
      clear hK KQ
      try simp only [Act.put, List.setIfInBounds_toArray, List.set_cons_zero, List.set_cons_succ]
      refine wpAnyH_ready (rs := [26]) (by kernel_rfl) (by simp) (AllReadyH.cons (o := { dst := some 71, op := Op.call { callee := Callee.value (Operand.func 30), args := #[Operand.tmp 70], argTypes := #[3] }, type := 3, pos := "law.go:214", after := #[{ on := 25, ground := Ground.data }, { on := 19, ground := Ground.chain }, { on := 7, ground := Ground.guard }], guard := some (7, false) }) rfl (fun KQ hK => ?_) AllReadyH.nil)
      go_simp
      refine (slot_any _ _).mono ?_
      rintro x wk ⟨rfl, rfl⟩
      rw [EI.out]
      go_wp2_with fail
      refine hK.out _ _ (HRG.out _ HB2.out.below) (fun hHeld => ?_)
      clear hK KQ
      try simp only [Act.put, List.setIfInBounds_toArray, List.set_cons_zero, List.set_cons_succ]
      refine wpAnyH_take (i := 29) (oi := { dst := some 74, op := Op.indexAddr 65 (Operand.tmp 73) (Operand.tmp 71), type := 0, pos := "law.go:214", after := #[{ on := 28, ground := Ground.data }, { on := 26, ground := Ground.data }, { on := 7, ground := Ground.guard }], guard := some (7, false) }) (v := .pointer (some ⟨gb, 4 + i, none⟩)) rfl (by kernel_rfl) (by kernel_rfl) (by kernel_rfl) (fun _ _ _ h => h) (Or.inl ⟨by rfl, by intro w hSw; go_simp⟩) (by assumption) ?_
      simp only [Act.put, List.setIfInBounds_toArray, List.set_cons_zero, List.set_cons_succ]
      refine wpAnyH_ready (rs := [30]) (by kernel_rfl) (by simp) (AllReadyH.cons (o := { dst := some 75, op := Op.load 64 (Operand.tmp 74), type := 64, pos := "law.go:214", after := #[{ on := 29, ground := Ground.data }, { on := 7, ground := Ground.guard }], guard := some (7, false) }) rfl (fun KQ hK => ?_) AllReadyH.nil)
      have hcr := SC.cr (gb := gb) (f := f2) (r := r2) (vL := vL2) HB2.out.cel i hi
      go_simp
      refine hK.out _ _ (HRG.out _ HB2.out.below) (fun hHeld => ?_)
      clear hK KQ
      try simp only [Act.put, List.setIfInBounds_toArray, List.set_cons_zero, List.set_cons_succ]
      refine wpAnyH_ready (rs := [31]) (by kernel_rfl) (by simp) (AllReadyH.cons (o := { dst := some 76, op := Op.call { callee := Callee.value (Operand.func 31), args := #[Operand.tmp 75], argTypes := #[64] }, type := 2, pos := "law.go:214", after := #[{ on := 30, ground := Ground.data }, { on := 26, ground := Ground.chain }, { on := 7, ground := Ground.guard }], guard := some (7, false) }) rfl (fun KQ hK => ?_) AllReadyH.nil)
      go_simp
      refine (rmeter_any _ (r2 i) (m2 i) (HB2.out.rmem i hi)).mono ?_
      rintro x wk ⟨rfl, rfl⟩
      go_wp2_with fail
      refine hK.out _ _ (HRG.out _ HB2.out.below) (fun hHeld => ?_)
      clear hK KQ
      try simp only [Act.put, List.setIfInBounds_toArray, List.set_cons_zero, List.set_cons_succ]
      refine wpAnyH_take (i := 32) (oi := { dst := some 77, op := Op.binOp BinOp.neq 2 (Operand.tmp 64) (Operand.tmp 76) 2, type := 4, pos := "law.go:214", after := #[{ on := 19, ground := Ground.data }, { on := 31, ground := Ground.data }, { on := 7, ground := Ground.guard }], guard := some (7, false) }) (v := .bool false) rfl (by kernel_rfl) (by kernel_rfl) (by kernel_rfl) (fun _ _ _ h => h) (Or.inl ⟨by rfl, by intro w hSw; go_simp⟩) (by assumption) ?_
      simp only [Act.put, List.setIfInBounds_toArray, List.set_cons_zero, List.set_cons_succ]
      refine wpAnyH_take (i := 33) (oi := { dst := some 78, op := Op.pick (Operand.tmp 52) (Operand.const (Value.bool true)) (Operand.tmp 77), type := 4, pos := "law.go:214", after := #[{ on := 7, ground := Ground.data }, { on := 32, ground := Ground.data }], guard := none }) (v := .bool false) rfl (by kernel_rfl) (by kernel_rfl) (by kernel_rfl) (fun _ _ _ h => h) (Or.inl ⟨by rfl, by intro w hSw; go_simp⟩) (by assumption) ?_
      simp only [Act.put, List.setIfInBounds_toArray, List.set_cons_zero, List.set_cons_succ]
      refine wpAnyH_done (by kernel_rfl) ?_ _
      clear hHeld
      go_wp2_with fail
      go_roundw
      case measure => simp [intOf] <;> omega
      case rel => exact ⟨j + 1, by have := HJ.out; omega, by go_num, f2, r2, m2, vL2, lv2, hid ⟨HB2.out, by have := HL2.out.1; have := HLV.out.1; omega, HL2.out.2⟩⟩
    · obtain rfl : j = k := by omega
      go_wp2_with fail
      go_loopw [9] (fun i wr => ∃ a : Nat, a ≤ 4 ∧ i = .int .i64 (a : Int) ∧ Hid (Bn W wr gb f r m m vL lv)) (fun i _ => 4 - (intOf i).toNat)
      case atStart => exact ⟨0, Nat.zero_le _, rfl, hid HB.out.1⟩
      case round =>
        obtain ⟨i, h4, rfl, HC⟩ := hrel
        by_cases hi : i < 4
        · have i4 : (i : Int) < 4 := by omega
          go_wp2_with fail
          refine wp_region_held_drew (S := SC gb (benC f r vL)) (by kernel_rfl) (HC.out.on (Below.refl _ _).drew).cel (fun hHeld => ?_)
          refine wpAnyH_take (i := 0) (oi := { dst := some 83, op := Op.move (Operand.tmp 7), type := 62, pos := "law.go:219", after := #[], guard := none }) (v := .pointer (some ⟨gb, 0, none⟩)) rfl (by kernel_rfl) (by kernel_rfl) (by kernel_rfl) (fun _ _ _ h => h) (Or.inl ⟨by rfl, by intro w hSw; go_simp⟩) (by assumption) ?_
          simp only [Act.put, List.setIfInBounds_toArray, List.set_cons_zero, List.set_cons_succ]
          refine wpAnyH_take (i := 1) (oi := { dst := some 84, op := Op.move (Operand.tmp 9), type := 3, pos := "law.go:219", after := #[], guard := none }) (v := .int .i64 (i : Int)) rfl (by kernel_rfl) (by kernel_rfl) (by kernel_rfl) (fun _ _ _ h => h) (Or.inl ⟨by rfl, by intro w hSw; go_simp⟩) (by assumption) ?_
          simp only [Act.put, List.setIfInBounds_toArray, List.set_cons_zero, List.set_cons_succ]
          refine wpAnyH_take (i := 2) (oi := { dst := some 85, op := Op.nilCheck (Operand.tmp 83), type := 0, pos := "law.go:219", after := #[{ on := 0, ground := Ground.data }], guard := none }) (v := .pointer (some ⟨gb, 0, none⟩)) rfl (by kernel_rfl) (by kernel_rfl) (by kernel_rfl) (fun _ _ _ h => h) (Or.inl ⟨by rfl, by intro w hSw; go_simp⟩) (by assumption) ?_
          simp only [Act.put, List.setIfInBounds_toArray, List.set_cons_zero, List.set_cons_succ]
          refine wpAnyH_take (i := 3) (oi := { dst := some 86, op := Op.fieldAddr 68 (Operand.tmp 85) 0, type := 0, pos := "law.go:219", after := #[{ on := 2, ground := Ground.data }], guard := none }) (v := .pointer (some ⟨gb, 0, none⟩)) rfl (by kernel_rfl) (by kernel_rfl) (by kernel_rfl) (fun _ _ _ h => h) (Or.inl ⟨by rfl, by intro w hSw; go_simp⟩) (by assumption) ?_
          simp only [Act.put, List.setIfInBounds_toArray, List.set_cons_zero, List.set_cons_succ]
          refine wpAnyH_take (i := 4) (oi := { dst := some 87, op := Op.indexAddr 63 (Operand.tmp 86) (Operand.tmp 84), type := 0, pos := "law.go:219", after := #[{ on := 3, ground := Ground.data }, { on := 1, ground := Ground.data }], guard := none }) (v := .pointer (some ⟨gb, i, none⟩)) rfl (by kernel_rfl) (by kernel_rfl) (by kernel_rfl) (fun _ _ _ h => h) (Or.inl ⟨by rfl, by intro w hSw; go_simp⟩) (by assumption) ?_
          simp only [Act.put, List.setIfInBounds_toArray, List.set_cons_zero, List.set_cons_succ]
          refine wpAnyH_take (i := 5) (oi := { dst := some 88, op := Op.load 25 (Operand.tmp 87), type := 25, pos := "law.go:219", after := #[{ on := 4, ground := Ground.data }], guard := none }) (v := .pointer (some ⟨(f i).gm, 0, none⟩)) rfl (by kernel_rfl) (by kernel_rfl) (by kernel_rfl) (fun _ _ _ h => h) (Or.inl ⟨by rfl, by intro w hSw; have hcc := SC.cm hSw i hi; go_simp⟩) (by assumption) ?_
          simp only [Act.put, List.setIfInBounds_toArray, List.set_cons_zero, List.set_cons_succ]
          refine wpAnyH_take (i := 7) (oi := { dst := some 90, op := Op.move (Operand.tmp 7), type := 62, pos := "law.go:219", after := #[], guard := none }) (v := .pointer (some ⟨gb, 0, none⟩)) rfl (by kernel_rfl) (by kernel_rfl) (by kernel_rfl) (fun _ _ _ h => h) (Or.inl ⟨by rfl, by intro w hSw; go_simp⟩) (by assumption) ?_
          simp only [Act.put, List.setIfInBounds_toArray, List.set_cons_zero, List.set_cons_succ]
          refine wpAnyH_take (i := 8) (oi := { dst := some 91, op := Op.move (Operand.tmp 9), type := 3, pos := "law.go:219", after := #[], guard := none }) (v := .int .i64 (i : Int)) rfl (by kernel_rfl) (by kernel_rfl) (by kernel_rfl) (fun _ _ _ h => h) (Or.inl ⟨by rfl, by intro w hSw; go_simp⟩) (by assumption) ?_
          simp only [Act.put, List.setIfInBounds_toArray, List.set_cons_zero, List.set_cons_succ]
          refine wpAnyH_take (i := 9) (oi := { dst := some 92, op := Op.nilCheck (Operand.tmp 90), type := 0, pos := "law.go:219", after := #[{ on := 7, ground := Ground.data }], guard := none }) (v := .pointer (some ⟨gb, 0, none⟩)) rfl (by kernel_rfl) (by kernel_rfl) (by kernel_rfl) (fun _ _ _ h => h) (Or.inl ⟨by rfl, by intro w hSw; go_simp⟩) (by assumption) ?_
          simp only [Act.put, List.setIfInBounds_toArray, List.set_cons_zero, List.set_cons_succ]
          refine wpAnyH_take (i := 10) (oi := { dst := some 93, op := Op.fieldAddr 68 (Operand.tmp 92) 1, type := 0, pos := "law.go:219", after := #[{ on := 9, ground := Ground.data }], guard := none }) (v := .pointer (some ⟨gb, 4, none⟩)) rfl (by kernel_rfl) (by kernel_rfl) (by kernel_rfl) (fun _ _ _ h => h) (Or.inl ⟨by rfl, by intro w hSw; go_simp⟩) (by assumption) ?_
          simp only [Act.put, List.setIfInBounds_toArray, List.set_cons_zero, List.set_cons_succ]
          refine wpAnyH_take (i := 11) (oi := { dst := some 94, op := Op.indexAddr 65 (Operand.tmp 93) (Operand.tmp 91), type := 0, pos := "law.go:219", after := #[{ on := 10, ground := Ground.data }, { on := 8, ground := Ground.data }], guard := none }) (v := .pointer (some ⟨gb, 4 + i, none⟩)) rfl (by kernel_rfl) (by kernel_rfl) (by kernel_rfl) (fun _ _ _ h => h) (Or.inl ⟨by rfl, by intro w hSw; go_simp⟩) (by assumption) ?_
          simp only [Act.put, List.setIfInBounds_toArray, List.set_cons_zero, List.set_cons_succ]
          refine wpAnyH_take (i := 12) (oi := { dst := some 95, op := Op.load 64 (Operand.tmp 94), type := 64, pos := "law.go:219", after := #[{ on := 11, ground := Ground.data }], guard := none }) (v := .pointer (some ⟨(r i).g, 0, none⟩)) rfl (by kernel_rfl) (by kernel_rfl) (by kernel_rfl) (fun _ _ _ h => h) (Or.inl ⟨by rfl, by intro w hSw; have hcc := SC.cr hSw i hi; go_simp⟩) (by assumption) ?_
          simp only [Act.put, List.setIfInBounds_toArray, List.set_cons_zero, List.set_cons_succ]
          refine wpAnyH_ready (rs := [6]) (by kernel_rfl) (by simp) (AllReadyH.cons (o := { dst := some 89, op := Op.call { callee := Callee.value (Operand.func 19), args := #[Operand.tmp 88], argTypes := #[25] }, type := 2, pos := "law.go:219", after := #[{ on := 5, ground := Ground.data }], guard := none }) rfl (fun KQ hK => ?_) AllReadyH.nil)
          go_simp
          refine (meter_any _ (f i) (m i) (HC.out.on (Below.refl _ _).drew |>.mem i hi)).mono ?_
          rintro x wA ⟨rfl, rfl⟩
          go_wp2_with fail
          refine hK.out _ _ (HC.out.on (Below.refl _ _).drew).cel (fun hHeld => ?_)
          clear hK KQ
          try simp only [Act.put, List.setIfInBounds_toArray, List.set_cons_zero, List.set_cons_succ]
          refine wpAnyH_ready (rs := [13]) (by kernel_rfl) (by simp) (AllReadyH.cons (o := { dst := some 96, op := Op.call { callee := Callee.value (Operand.func 31), args := #[Operand.tmp 95], argTypes := #[64] }, type := 2, pos := "law.go:219", after := #[{ on := 12, ground := Ground.data }, { on := 6, ground := Ground.chain }], guard := none }) rfl (fun KQ hK => ?_) AllReadyH.nil)
          go_simp
          refine (rmeter_any _ (r i) (m i) (HC.out.on (Below.refl _ _).drew |>.rmem i hi)).mono ?_
          rintro x wB ⟨rfl, rfl⟩
          go_wp2_with fail
          refine hK.out _ _ (HC.out.on (Below.refl _ _).drew).cel (fun hHeld => ?_)
          clear hK KQ
          try simp only [Act.put, List.setIfInBounds_toArray, List.set_cons_zero, List.set_cons_succ]
          refine wpAnyH_take (i := 14) (oi := { dst := some 97, op := Op.binOp BinOp.neq 2 (Operand.tmp 89) (Operand.tmp 96) 2, type := 4, pos := "law.go:219", after := #[{ on := 6, ground := Ground.data }, { on := 13, ground := Ground.data }], guard := none }) (v := .bool false) rfl (by kernel_rfl) (by kernel_rfl) (by kernel_rfl) (fun _ _ _ h => h) (Or.inl ⟨by rfl, by intro w hSw; go_simp⟩) (by assumption) ?_
          simp only [Act.put, List.setIfInBounds_toArray, List.set_cons_zero, List.set_cons_succ]
          refine wpAnyH_done (by kernel_rfl) ?_ _
          clear hHeld
          have HD := hid (HC.out.on (Below.refl _ _).drew)
          go_wp2_with fail
          go_roundw
          case measure => simp [intOf] <;> omega
          case rel => exact ⟨i + 1, by omega, by go_num, HD⟩
        · obtain rfl : i = 4 := by omega
          have HN := hid HB.out.2.1
          go_wp2_with fail
          refine (kept_any HC.out (by have := HN.out; omega)).mono ?_
          rintro x w9 ⟨rfl, rfl⟩
          go_wp2_with fail
          go_ret
          exact ⟨rfl, HC.out.below⟩
end Go.Proofs.Ytnmdhnbgikbpoaa
