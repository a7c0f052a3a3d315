import Derived.Test.YtgbpbfnpeeciaaaP09
import Derived.Deep.OwnRows
import Derived.Test.YtgbpbfnpeeciaaaP08
import Derived.Test.YtgbpbfnpeeciaaaP01
namespace Go.Proofs.Ytgbpbfnpeeciaaa
open Go.RowKit
def MS.zero (m : MS) (s : Bool) (p : Int) : MS := match m.at s p with
  | none => m
  | some k => { m.tick 1024 with P := m.P.set k zs }
def MS.perr (m : MS) (s : Bool) (p : Int) : Int := if (m.at s p).isSome then 0 else 5
theorem zero_any (w : World) (f : Fp) (m : MS) (h : Mem w f m) (s : Bool) (p : Int) :
    Calls Try.prog 94 #[ptr f.gm, fr s p] w fun x w' => x = .returned (.int .i64 (m.perr s p)) ∧ Mem w' f (m.zero s p) ∧ ButL f.w w w' := by
  have hX := h.on (below_one w (.cells #[.bool s, .int .i64 p] 47))
  have hB := hid (below_one w (.cells #[.bool s, .int .i64 p] 47))
  have HF := hid (find_any _ f m hX s p)
  have h1 := h.ns0
  have hlt : Hid (∀ k, m.at s p = some k → k < m.P.length) := fun k hk => MS.at_lt h1 hk
  have H := hid hX
  clear h hX h1
  unfold MS.zero MS.perr
  generalize hr : m.at s p = r at *
  cases r with
  | none =>
    simp only [fr, ptr, pv] at *
    go_enter Try.func94, Try.ntmps94
    go_wp2_with fail
    refine HF.out.mono ?_
    rintro x w1 ⟨rfl, hb1⟩
    have HB1 := hid (below_on hB.out hb1)
    have HM := hid (H.out.on hb1)
    clear hb1
    go_wp2_with fail
    go_ret
    exact ⟨rfl, HM.out, .of HB1.out⟩
  | some k =>
    have hk := hlt.out k rfl
    simp only [fr, ptr, pv] at *
    go_enter Try.func94, Try.ntmps94
    go_wp2_with fail
    refine HF.out.mono ?_
    rintro x w1 ⟨rfl, hb1⟩
    have HB1 := hid (below_on hB.out hb1)
    have HM := hid (H.out.on hb1)
    have c2 := HM.out.cm
    have f2 := HM.out.cel.free 2
    have HT := hid (HM.out.tick 1024)
    have HG := hid (HM.out.mem k hk)
    have HBT : Hid (ButL f.w w (w1.setCell ⟨f.gm, 2, none⟩ (.int .i64 (wrap64 (m.c + 1024))))) := hid ((ButL.of HB1.out).trans (.setCell _ _ _ _ (by simp [Fp.w])))
    clear hb1
    go_wp2_with (refine wpList_clear_pg rfl _ rfl (f.b k) 1024 (m.p k) rfl (HT.out.pg k hk) (HT.out.full k hk) ?_; intro w2 hc2 hb2 hs2; have HC2 := hid hc2; have HB2 := hid hb2; clear hc2 hb2)
    go_ret
    exact ⟨rfl, HT.out.page k hk zs zs_len HB2.out HC2.out, HBT.out.trans (HB2.out.mono (by intro g hg; rw [List.mem_singleton] at hg; subst hg; simp only [Fp.w, List.mem_cons]; exact .inr HG.out))⟩
theorem wpList_make_cel {ops : Array Oper} {rest : List Oper} {o : Oper} {a : Act} {w : World} {Q : Exit → Act → World → Prop} (hgd : o.guard = none) (l c : Operand) (t e : TypeId) (ho : o.op = Op.makeSlice t l c) (z : Value) (b : Nat)
    (hu : Try.prog.underlying t = some (.slice e)) (hinfo : (Try.prog.info? e).map (fun i => (i.zero, i.size, i.bytes)) = some (some z, 1, b)) (hz1 : z.cells = #[z]) (n : Nat) (L C : Int) (hl : a.eval l = .int .i64 L) (hc : a.eval c = .int .i64 C) (hL : L = (n : Int)) (hC : C = (n : Int))
    (hb : b * n ≤ 281474976710656) (hn : n ≤ 9223372036854775807)
    (h : ∀ w', Cel w' w.heap.size e (List.replicate n z) → Below w.heap.size w w' → w'.heap.size = w.heap.size + 1 → wpList Try.prog ops Q rest (a.put o.dst (.slice (some ⟨w.heap.size, 0, none⟩) n n)) w') :
    wpList Try.prog ops Q (o :: rest) a w := by
  obtain ⟨i, hi, hzz⟩ := Option.map_eq_some_iff.1 hinfo
  simp only [Prod.mk.injEq] at hzz
  obtain ⟨hz, hs, hbb⟩ := hzz
  subst hL hC
  refine wpList_make_row w hgd l c t ho e i z hu hi hz hs hz1 .i64 .i64 n hl hc (by rw [hbb]; exact hb) hn ?_
  have e1 : madeCells #[z] n = (List.replicate n z).toArray := by rw [← toList_madeCells_one]
  rw [e1]
  exact h _ (Cel.new _ _ _) (below_one _ _) (by simp)
theorem info32 : (Try.prog.info? 22).map (fun i => (i.zero, i.size, i.bytes)) = some (some (.int .u32 0), 1, 4) := by kernel_rfl
def MS.tk (m : MS) (s : Bool) (p n : Int) : MS := if (m.at s p).isSome then m.tick n else m
def PageIs (w w' : World) (m : MS) (s : Bool) (p : Int) (v : Value) : Prop := match m.at s p with
  | none => v = .slice none 0 0
  | some k => ∃ g, w.heap.size ≤ g ∧ v = .slice (some ⟨g, 0, none⟩) 1024 1024 ∧ Cel w' g 22 (u32s (m.p k))
def MS.bl (m : MS) (s : Bool) (p : Int) : Bool := match m.at s p with
  | none => false
  | some k => decide (m.p k = zs)
def MS.lerr (m : MS) (s : Bool) (p : Int) (L : List Int) : Int := match m.at s p with
  | none => 5
  | some _ => if L.length = 1024 then 0 else 2
def MS.lay (m : MS) (s : Bool) (p : Int) (L : List Int) : MS := match m.at s p with
  | none => m
  | some k => if L.length = 1024 then { m.tick 1024 with P := m.P.set k L } else m
end Go.Proofs.Ytgbpbfnpeeciaaa
namespace Go.Proofs.Ytgbpbfnpeeciaaa
open Go.RowKit
theorem wpList_alloc_pg {ops : Array Oper} {rest : List Oper} {o : Oper} {a : Act} {w : World} {Q : Exit → Act → World → Prop} (hgd : o.guard = none) (ho : o.op = .alloc 170)
    (h : ∀ w', Cel w' w.heap.size 170 (u32s zs) → Below w.heap.size w w' → w'.heap.size = w.heap.size + 1 → wpList Try.prog ops Q rest (a.put o.dst (.pointer (some ⟨w.heap.size, 0, none⟩))) w') : wpList Try.prog ops Q (o :: rest) a w := by
  refine wpList_plain hgd fun K hK => ?_
  have hi := info85
  obtain ⟨i, hi, hzz⟩ := Option.map_eq_some_iff.1 hi
  simp only [Prod.mk.injEq] at hzz
  have hz : ∀ w, (zeroValue 170).run Try.prog w = .ok (.agg (u32s zs).toArray) w := fun w => by simp [zeroValue, typeInfo, hi, hzz.1]
  have hn : (newVar 170 (.agg (u32s zs).toArray)).run Try.prog w = .ok ⟨w.heap.size, 0, none⟩ (w.alloc (.cells (u32s zs).toArray 170)) := by
    simp [newVar, newRow, Value.cells]
  unfold Oper.wp execOp
  simp only [ho, Instr.alloc, Sem.run_bind, Sem.run_pure, hz, hn, Result.andThen_ok]
  exact hK _ _ (h _ (Cel.new _ _ _) (below_one _ _) (by simp))
theorem under75 : Try.prog.underlying 125 = some (.slice 152) := by kernel_rfl
theorem info82 : (Try.prog.info? 152).map (fun i => (i.zero, i.size, i.bytes)) = some (some (.pointer none), 1, 8) := by kernel_rfl
structure ZP (w w' : World) (g : Nat) (bs : List Nat) (n : Nat) : Prop where
  below : Below w.heap.size w w'
  hg : w.heap.size ≤ g
  cel : Cel w' g 152 (bs.map ptr ++ List.replicate (n - bs.length) (.pointer none))
  le : bs.length ≤ n
  pages : ∀ b ∈ bs, w.heap.size ≤ b ∧ Cel w' b 170 (u32s zs)
  nodup : bs.Nodup
theorem ZP.on {w w' w2 : World} {g : Nat} {bs : List Nat} {n : Nat} (h : ZP w w' g bs n) (hb : Below w'.heap.size w' w2) : ZP w w2 g bs n :=
  ⟨below_on h.below hb, h.hg, h.cel.on hb, h.le, fun b hbs => ⟨(h.pages b hbs).1, (h.pages b hbs).2.on hb⟩, h.nodup⟩
theorem ZP.step {w w' w2 : World} {g : Nat} {bs : List Nat} {n : Nat} (h : ZP w w' g bs n) (hlt : bs.length < n) (hb : Below w'.heap.size w' w2) (hc : Cel w2 w'.heap.size 170 (u32s zs)) :
    ZP w (w2.setCell ⟨g, bs.length, none⟩ (.pointer (some ⟨w'.heap.size, 0, none⟩))) g (bs ++ [w'.heap.size]) n := by
  have h2 := h.on hb
  have hgl := h.cel.lt
  have hne : ∀ b, b ≠ g → ∀ t cs, Cel w2 b t cs → Cel (w2.setCell ⟨g, bs.length, none⟩ (.pointer (some ⟨w'.heap.size, 0, none⟩))) b t cs := fun b hbg t cs hcc => hcc.but (ButL.setCell (G := [g]) w2 g _ _ (by simp)) (by rw [List.mem_singleton]; exact hbg)
  refine ⟨h2.below.setCell (p := ⟨g, bs.length, none⟩) h.hg _, h.hg, ?_, by simp; omega, ?_, ?_⟩
  · have := h2.cel.setCell bs.length (.pointer (some ⟨w'.heap.size, 0, none⟩))
    have e : (bs.map ptr ++ List.replicate (n - bs.length) (Value.pointer none)).set bs.length (.pointer (some ⟨w'.heap.size, 0, none⟩)) = (bs ++ [w'.heap.size]).map ptr ++ List.replicate (n - (bs ++ [w'.heap.size]).length) (Value.pointer none) := by
      rw [List.set_append_right _ _ (by simp)]
      obtain ⟨k, hk⟩ : ∃ k, n - bs.length = k + 1 := ⟨n - bs.length - 1, by omega⟩
      have hk2 : n - (bs ++ [w'.heap.size]).length = k := by simp; omega
      rw [hk, hk2]
      simp [List.replicate_succ, ptr]
    rw [e] at this
    exact this
  · intro b hb'
    rw [List.mem_append, List.mem_singleton] at hb'
    rcases hb' with hb' | rfl
    · refine ⟨(h.pages b hb').1, hne b ?_ _ _ (h2.pages b hb').2⟩
      intro e; subst e
      exact absurd (h.cel.ty (h.pages _ hb').2) (by decide)
    · exact ⟨h.below.size, hne _ (by omega) _ _ hc⟩
  · rw [List.nodup_append]
    refine ⟨h.nodup, by simp, ?_⟩
    intro a ha b hb'
    rw [List.mem_singleton] at hb'
    subst hb'
    have := (h.pages a ha).2.lt
    omega
theorem zeroPages_any (w : World) (n : Nat) (hn : n ≤ 64) :
    Calls Try.prog 62 #[.int .i64 (n : Int)] w fun x w' => ∃ g bs, x = .returned (.slice (some ⟨g, 0, none⟩) n n) ∧ ZP w w' g bs n ∧ bs.length = n := by
  have n1 : (n : Int) ≤ 64 := by omega
  go_enter Try.func62, Try.ntmps62
  go_wp2_with (first | (at_make; refine wpList_make_cel rfl _ _ 125 152 rfl (.pointer none) 8 under75 info82 rfl n _ _ rfl rfl rfl rfl (by omega) (by omega) ?_))
  intro w1 hc1 hb1 hs1
  have HZ : Hid (ZP w w1 w.heap.size [] n) := hid ⟨hb1, Nat.le_refl _, by simpa using hc1, by simp, by simp, by simp⟩
  clear hc1 hb1 hs1
  generalize w.heap.size = g at *
  go_wp2_with fail
  go_loopw [4, 9] (fun _ v wr => ∃ bs : List Nat, v = .int .i64 (bs.length : Int) ∧ Hid (ZP w wr g bs n)) (fun _ v _ => n - (intOf v).toNat)
  case atStart => exact ⟨[], rfl, HZ⟩
  case round =>
    obtain ⟨bs, rfl, HQ⟩ := hrel
    have hle := HQ.out.le
    by_cases hlt : bs.length < n
    · have c1 : (bs.length : Int) < (n : Int) := by omega
      have q1 : (bs.length : Int) ≤ 64 := by omega
      have HG := hid HQ.out.cel
      go_wp2_with (first | (refine wpList_alloc_pg rfl rfl ?_))
      intro w2 hc2 hb2 hs2
      have HS := hid (HQ.out.step hlt hb2 hc2)
      have fz := (HG.out.on hb2).free bs.length
      have cz : w2.cell? ⟨g, bs.length, none⟩ = some (.pointer none) := by
        rw [(HG.out.on hb2).cell bs.length, List.getElem?_append_right (by simp)]
        simp [List.getElem?_replicate]; omega
      clear hc2 hb2 hs2
      go_wp2_with fail
      go_roundw
      case measure => simp [intOf] <;> omega
      case rel => exact ⟨bs ++ [wr.heap.size], by simp, HS⟩
    · have hqe : bs.length = n := by omega
      have c1 : ¬ (bs.length : Int) < (n : Int) := by omega
      go_wp2_with fail
      go_ret
      exact ⟨g, rfl, bs, HQ.out, hqe⟩
def MS.new (s n : Nat) : MS := ⟨s, List.replicate (s + n) zs, 0⟩
theorem rep_p (k n : Nat) (hk : k < n) : (List.replicate n zs).getD k [] = zs := by
  simp [List.getD_eq_getElem?_getD, hk]
theorem getD_mem {l : List Nat} {k : Nat} (hk : k < l.length) : l.getD k 0 ∈ l := by
  rw [List.getD_eq_getElem?_getD, List.getElem?_eq_getElem hk]; simp
theorem mem_of {w w1 w2 w3 : World} {g1 g2 gm : Nat} {bs1 bs2 : List Nat} {s n : Nat} (h1 : ZP w w1 g1 bs1 s) (h2 : ZP w1 w2 g2 bs2 n) (hs : bs1.length = s) (hn : bs2.length = n) (hm : s + n ≤ 128) (hb : Below w2.heap.size w2 w3) (hgm : w.heap.size ≤ gm) (c : Int)
    (hc : Cel w3 gm 127 [.slice (some ⟨g1, 0, none⟩) s s, .slice (some ⟨g2, 0, none⟩) n n, .int .i64 c]) (P : List (List Int)) (hP : P = List.replicate (s + n) zs) :
    Mem w3 ⟨gm, g1, g2, bs1 ++ bs2⟩ ⟨s, P, c⟩ ∧ (∀ k ∈ (⟨gm, g1, g2, bs1 ++ bs2⟩ : Fp).all, w.heap.size ≤ k) := by
  subst hP
  have h1' := (h1.on h2.below).on hb
  have h2' := h2.on hb
  refine ⟨⟨?_, ?_, ?_, ?_, ?_, ?_, ?_, ?_, ?_⟩, ?_⟩
  · simpa using hc
  · have := h1'.cel
    simpa [hs, List.take_left' hs] using this
  · have := h2'.cel
    simpa [hn, List.drop_left' hs] using this
  · simp [hs, hn]
  · simp
  · simpa using hm
  · intro k hk
    simp only [List.length_replicate] at hk
    have e : (⟨s, List.replicate (s + n) zs, c⟩ : MS).p k = zs := rep_p k (s + n) hk
    rw [e]
    have hmem := getD_mem (l := bs1 ++ bs2) (k := k) (by simp [hs, hn]; exact hk)
    have hb' : (⟨gm, g1, g2, bs1 ++ bs2⟩ : Fp).b k ∈ bs1 ++ bs2 := hmem
    rw [List.mem_append] at hb'
    rcases hb' with hb' | hb'
    · exact (h1'.pages _ hb').2
    · exact (h2'.pages _ hb').2
  · intro k hk
    simp only [List.length_replicate] at hk
    have e : (⟨s, List.replicate (s + n) zs, c⟩ : MS).p k = zs := rep_p k (s + n) hk
    rw [e, zs_len]
  · rw [List.nodup_append]
    refine ⟨h1.nodup, h2.nodup, ?_⟩
    intro a ha b hb' e
    subst e
    have := (h1.pages a ha).2.lt
    have := (h2.pages a hb').1
    omega
  · intro k hk
    have := h1.below.size
    simp only [Fp.all, List.mem_cons, List.mem_append] at hk
    rcases hk with rfl | rfl | rfl | hk | hk
    · exact hgm
    · exact h1.hg
    · have := h2.hg; omega
    · exact (h1.pages k hk).1
    · have := (h2.pages k hk).1; omega
structure NewMem (w w' : World) (f : Fp) (m : MS) : Prop where
  mem : Mem w' f m
  below : Below w.heap.size w w'
  new : ∀ k ∈ f.all, w.heap.size ≤ k
theorem new_any (w : World) (s n : Nat) (s1 : 1 ≤ s) (s2 : s ≤ 64) (n1 : 1 ≤ n) (n2 : n ≤ 64) :
    Calls Try.prog 29 #[.int .i64 (s : Int), .int .i64 (n : Int)] w fun x w' => ∃ f, x = .returned (.tuple #[ptr f.gm, .int .i64 0]) ∧ NewMem w w' f (MS.new s n) := by
  have H1 := hid (zeroPages_any w s s2)
  have a1 : (1 : Int) ≤ (s : Int) := by omega
  have a2 : (s : Int) ≤ 64 := by omega
  have a3 : (1 : Int) ≤ (n : Int) := by omega
  have a4 : (n : Int) ≤ 64 := by omega
  have HM : Hid (s + n ≤ 128) := hid (by omega)
  have HN : Hid (n ≤ 64) := n2
  clear s1 s2 n1 n2
  go_enter Try.func29, Try.ntmps29
  go_wp2_with fail
  refine H1.out.mono ?_
  rintro x w1 ⟨g1, bs1, rfl, hz1, hl1⟩
  have HZ1 := hid hz1
  have HL1 := hid hl1
  have H2 := hid (zeroPages_any w1 n HN.out)
  clear hz1 hl1 H1
  go_wp2_with fail
  refine H2.out.mono ?_
  rintro x w2 ⟨g2, bs2, rfl, hz2, hl2⟩
  have HZ2 := hid hz2
  have HL2 := hid hl2
  clear hz2 hl2 H2
  go_wp2_with fail
  go_ret2
  have h := mem_of HZ1.out HZ2.out HL1.out HL2.out HM.out (below_one w2 (.cells #[.slice (some ⟨g1, 0, none⟩) s s, .slice (some ⟨g2, 0, none⟩) n n, .int .i64 0] 127)) (gm := w2.heap.size) (by have := HZ1.out.below.size; have := HZ2.out.below.size; omega) 0 (Cel.new _ _ [.slice (some ⟨g1, 0, none⟩) s s, .slice (some ⟨g2, 0, none⟩) n n, .int .i64 0]) _ rfl
  exact ⟨⟨w2.heap.size, g1, g2, bs1 ++ bs2⟩, rfl, h.1, below_on (below_on HZ1.out.below HZ2.out.below) (below_one _ _), h.2⟩
end Go.Proofs.Ytgbpbfnpeeciaaa
namespace Go.Proofs.Ytgbpbfnpeeciaaa
open Go.RowKit
set_option maxHeartbeats 8000000
set_option maxRecDepth 100000
theorem wd_set (L : List Int) (i j : Nat) (v : Int) : wd (L.set i v) j = if i = j ∧ j < L.length then v else wd L j := by
  unfold wd
  simp only [List.getD_eq_getElem?_getD, List.getElem?_set]
  split
  · rename_i h
    subst h
    by_cases hl : i < L.length
    · simp [hl]
    · simp [hl]
  · rename_i h
    simp [h]
theorem MS.write_p (m : MS) (s : Bool) (p o v : Int) (k j : Nat) : wd ((m.write s p o v).p k) j = v ∨ wd ((m.write s p o v).p k) j = wd (m.p k) j := by
  unfold MS.write
  split
  · exact .inr rfl
  · rename_i q hq
    split
    · simp only [MS.p, List.getD_eq_getElem?_getD, List.getElem?_set]
      split
      · split
        · rename_i h1 h2
          subst h1
          simp only [Option.getD_some]
          rw [wd_set]
          split
          · exact .inl rfl
          · exact .inr rfl
        · rename_i h1 h2
          refine .inr ?_
          subst h1
          rw [List.getElem?_eq_none (by omega)]
      · exact .inr rfl
    · exact .inr rfl
theorem MS.U.write {m : MS} (h : m.U) (s : Bool) (p o v : Int) (h0 : 0 ≤ v) (h1 : v < 4294967296) : (m.write s p o v).U := fun k j => by
  rcases m.write_p s p o v k j with e | e <;> rw [e]
  · exact ⟨h0, h1⟩
  · exact h k j
theorem MS.U.new (s n : Nat) : (MS.new s n).U := fun k j => by
  unfold MS.new MS.p
  simp only [List.getD_eq_getElem?_getD, List.getElem?_replicate]
  have hz : wd zs j = 0 := by unfold wd zs; rw [List.getD_eq_getElem?_getD, List.getElem?_replicate]; split <;> rfl
  split
  · simp only [Option.getD_some]; rw [hz]; decide
  · simp [wd]
theorem NewMem.write {W w w' : World} {f : Fp} {m m' : MS} (h : NewMem W w f m) (hm : Mem w' f m') (hb : ButL f.w w w') : NewMem W w' f m' :=
  ⟨hm, h.below.trans (hb.below (fun k hk => h.new k (by simp only [Fp.w, Fp.all, List.mem_cons] at hk ⊢; rcases hk with hk | hk <;> simp [hk])) h.below.size), h.new⟩
theorem NewMem.on {W w w' : World} {f : Fp} {m : MS} (h : NewMem W w f m) (hb : Below w.heap.size w w') : NewMem W w' f m := ⟨h.mem.on hb, below_on h.below hb, h.new⟩
end Go.Proofs.Ytgbpbfnpeeciaaa
namespace Go.Proofs.Ytgbpbfnpeeciaaa
open Go.RowKit
theorem zeroPages_128 (w : World) (n : Nat) (hn : n ≤ 128) :
    Calls Try.prog 62 #[.int .i64 (n : Int)] w fun x w' => ∃ g bs, x = .returned (.slice (some ⟨g, 0, none⟩) n n) ∧ ZP w w' g bs n ∧ bs.length = n := by
  have n1 : (n : Int) ≤ 128 := by omega
  go_enter Try.func62, Try.ntmps62
  go_wp2_with (first | (at_make; refine wpList_make_cel rfl _ _ 125 152 rfl (.pointer none) 8 under75 info82 rfl n _ _ rfl rfl rfl rfl (by omega) (by omega) ?_))
  intro w1 hc1 hb1 hs1
  have HZ : Hid (ZP w w1 w.heap.size [] n) := hid ⟨hb1, Nat.le_refl _, by simpa using hc1, by simp, by simp, by simp⟩
  clear hc1 hb1 hs1
  generalize w.heap.size = g at *
  go_wp2_with fail
  go_loopw [4, 9] (fun _ v wr => ∃ bs : List Nat, v = .int .i64 (bs.length : Int) ∧ Hid (ZP w wr g bs n)) (fun _ v _ => n - (intOf v).toNat)
  case atStart => exact ⟨[], rfl, HZ⟩
  case round =>
    obtain ⟨bs, rfl, HQ⟩ := hrel
    have hle := HQ.out.le
    by_cases hlt : bs.length < n
    · have c1 : (bs.length : Int) < (n : Int) := by omega
      have q1 : (bs.length : Int) ≤ 128 := by omega
      have HG := hid HQ.out.cel
      go_wp2_with (first | (refine wpList_alloc_pg rfl rfl ?_))
      intro w2 hc2 hb2 hs2
      have HS := hid (HQ.out.step hlt hb2 hc2)
      have fz := (HG.out.on hb2).free bs.length
      have cz : w2.cell? ⟨g, bs.length, none⟩ = some (.pointer none) := by
        rw [(HG.out.on hb2).cell bs.length, List.getElem?_append_right (by simp)]
        simp [List.getElem?_replicate]; omega
      clear hc2 hb2 hs2
      go_wp2_with fail
      go_roundw
      case measure => simp [intOf] <;> omega
      case rel => exact ⟨bs ++ [wr.heap.size], by simp, HS⟩
    · have hqe : bs.length = n := by omega
      have c1 : ¬ (bs.length : Int) < (n : Int) := by omega
      go_wp2_with fail
      go_ret
      exact ⟨g, rfl, bs, HQ.out, hqe⟩
theorem wp_store_pg {o : Oper} {a : Act} {w : World} {K : Act → World → Prop} {Q : Exit → Act → World → Prop} (x y : Operand) (ho : o.op = .store 170 x y)
    (g : Nat) (L L0 : List Int) (hx : a.eval x = .pointer (some ⟨g, 0, none⟩)) (hy : a.eval y = pgV L) (hg : Cel w g 170 (u32s L0)) (h0 : L0.length = 1024) (hL : L.length = 1024)
    (h : ∀ w', Cel w' g 170 (u32s L) → ButL [g] w w' → w'.heap.size = w.heap.size → K (a.put o.dst undef) w') : o.wp Try.prog a w K Q := by
  have hs : (Instr.storeAt 170 (.pointer (some ⟨g, 0, none⟩)) (.agg (u32s L).toArray)).run Try.prog w = .ok () (w.setRow g (u32s L).toArray) := by
    simp only [Instr.storeAt, Instr.sureAddr, Sem.run_bind, Sem.run_pure, Result.andThen]
    exact run_storeVar_row w g 170 170 _ _ hg (by rw [size85, List.size_toArray, u32s_len, hL]) (by rw [List.size_toArray, List.size_toArray, u32s_len, u32s_len, h0, hL]) (u32s_all L)
  unfold Oper.wp execOp
  rw [pgV] at hy
  simp only [ho, hx, hy, Sem.run_bind, Sem.run_pure, hs, Result.andThen_ok]
  exact h _ (hg.set _) (.setRow _ _ _ (by simp)) (by simp)
structure CP (w w' : World) (g : Nat) (bs : List Nat) (Q : List (List Int)) : Prop where
  below : Below w.heap.size w w'
  hg : w.heap.size ≤ g
  cel : Cel w' g 152 (bs.map ptr)
  len : bs.length = Q.length
  pages : ∀ k, k < Q.length → w.heap.size ≤ bs.getD k 0 ∧ Cel w' (bs.getD k 0) 170 (u32s (Q.getD k []))
  full : ∀ k, k < Q.length → (Q.getD k []).length = 1024
  nodup : bs.Nodup
theorem CP.on {w w' w2 : World} {g : Nat} {bs : List Nat} {Q : List (List Int)} (h : CP w w' g bs Q) (hb : Below w'.heap.size w' w2) : CP w w2 g bs Q :=
  ⟨below_on h.below hb, h.hg, h.cel.on hb, h.len, fun k hk => ⟨(h.pages k hk).1, (h.pages k hk).2.on hb⟩, h.full, h.nodup⟩
theorem CP.start {w w' : World} {g : Nat} {bs : List Nat} {n : Nat} (h : ZP w w' g bs n) (hn : bs.length = n) : CP w w' g bs (List.replicate n zs) := by
  refine ⟨h.below, h.hg, ?_, by simp [hn], fun k hk => ?_, fun k hk => ?_, h.nodup⟩
  · have := h.cel; simpa [hn] using this
  · simp only [List.length_replicate] at hk
    rw [rep_p k n hk]
    exact h.pages _ (getD_mem (by omega))
  · simp only [List.length_replicate] at hk
    rw [rep_p k n hk, zs_len]
theorem getD_inj {bs : List Nat} (h : bs.Nodup) {j k : Nat} (hj : j < bs.length) (hk : k < bs.length) (he : bs.getD j 0 = bs.getD k 0) : j = k := by
  simp only [List.getD_eq_getElem?_getD, List.getElem?_eq_getElem hj, List.getElem?_eq_getElem hk, Option.getD_some] at he
  rcases Nat.lt_trichotomy j k with hlt | e | hlt
  · exact absurd he (List.pairwise_iff_getElem.1 h j k hj hk hlt)
  · exact e
  · exact absurd he.symm (List.pairwise_iff_getElem.1 h k j hk hj hlt)
theorem CP.set {w w' w2 : World} {g : Nat} {bs : List Nat} {Q : List (List Int)} (h : CP w w' g bs Q) (k : Nat) (hk : k < Q.length) (L : List Int) (hL : L.length = 1024) (hb : ButL [bs.getD k 0] w' w2) (hc : Cel w2 (bs.getD k 0) 170 (u32s L)) : CP w w2 g bs (Q.set k L) := by
  have hp := h.pages k hk
  refine ⟨h.below.trans (hb.below (fun x hx => by rw [List.mem_singleton] at hx; rw [hx]; exact hp.1) h.below.size), h.hg, h.cel.but hb (fun hm => by rw [List.mem_singleton] at hm; have := h.cel; rw [hm] at this; exact absurd (this.ty hp.2) (by decide)), by simp [h.len], fun j hj => ?_, fun j hj => ?_, h.nodup⟩
  · simp only [List.length_set] at hj
    by_cases e : j = k
    · subst e
      have e2 : (Q.set j L).getD j [] = L := by rw [List.getD_eq_getElem?_getD, List.getElem?_set_self hj]; rfl
      rw [e2]
      exact ⟨hp.1, hc⟩
    · have e2 : (Q.set k L).getD j [] = Q.getD j [] := by rw [List.getD_eq_getElem?_getD, List.getElem?_set_ne (Ne.symm e), ← List.getD_eq_getElem?_getD]
      rw [e2]
      refine ⟨(h.pages j hj).1, (h.pages j hj).2.but hb (fun hm => ?_)⟩
      rw [List.mem_singleton] at hm
      exact e (getD_inj h.nodup (by rw [h.len]; exact hj) (by rw [h.len]; exact hk) hm)
  · simp only [List.length_set] at hj
    by_cases e : j = k
    · subst e
      have e2 : (Q.set j L).getD j [] = L := by rw [List.getD_eq_getElem?_getD, List.getElem?_set_self hj]; rfl
      rw [e2, hL]
    · have e2 : (Q.set k L).getD j [] = Q.getD j [] := by rw [List.getD_eq_getElem?_getD, List.getElem?_set_ne (Ne.symm e), ← List.getD_eq_getElem?_getD]
      rw [e2]; exact h.full j hj
structure RP (w : World) (g : Nat) (bs : List Nat) (Q : List (List Int)) : Prop where
  cel : Cel w g 152 (bs.map ptr)
  len : bs.length = Q.length
  pages : ∀ k, k < Q.length → Cel w (bs.getD k 0) 170 (u32s (Q.getD k []))
  full : ∀ k, k < Q.length → (Q.getD k []).length = 1024
theorem RP.on {w w2 : World} {g : Nat} {bs : List Nat} {Q : List (List Int)} (h : RP w g bs Q) (hb : Below w.heap.size w w2) : RP w2 g bs Q :=
  ⟨h.cel.on hb, h.len, fun k hk => (h.pages k hk).on hb, h.full⟩
theorem RP.below' {w w2 : World} {g : Nat} {bs : List Nat} {Q : List (List Int)} (h : RP w g bs Q) (hb : Below w.heap.size w w2) : RP w2 g bs Q := h.on hb
theorem RP.at {w : World} {g : Nat} {bs : List Nat} {Q : List (List Int)} (h : RP w g bs Q) (k : Nat) (hk : k < Q.length) : w.cell? ⟨g, k, none⟩ = some (.pointer (some ⟨bs.getD k 0, 0, none⟩)) := by
  have := h.len
  rw [h.cel.cell k, List.getElem?_map, List.getElem?_eq_getElem (by omega)]
  simp [ptr, List.getD_eq_getElem?_getD, List.getElem?_eq_getElem (show k < bs.length by omega)]
theorem set_take (Q : List (List Int)) (i : Nat) (hi : i < Q.length) : (Q.take i ++ List.replicate (Q.length - i) zs).set i (Q.getD i []) = Q.take (i + 1) ++ List.replicate (Q.length - (i + 1)) zs := by
  have h1 : (Q.take i).length = i := by rw [List.length_take]; omega
  rw [List.set_append_right _ _ (by omega), h1, Nat.sub_self]
  obtain ⟨k, hk⟩ : ∃ k, Q.length - i = k + 1 := ⟨Q.length - i - 1, by omega⟩
  have hk2 : Q.length - (i + 1) = k := by omega
  rw [hk, hk2, List.replicate_succ, List.set_cons_zero, List.take_succ_eq_append_getElem hi, List.getD_eq_getElem?_getD, List.getElem?_eq_getElem hi]
  simp only [List.append_assoc, List.singleton_append, Option.getD_some]
set_option maxRecDepth 40000 in
set_option maxHeartbeats 4000000 in
theorem clonePages_any (w : World) (g : Nat) (bs : List Nat) (Q : List (List Int)) (h : RP w g bs Q) (hq : Q.length ≤ 128) (c : Nat) :
    Calls Try.prog 91 #[.slice (some ⟨g, 0, none⟩) Q.length c] w fun x w' => ∃ g' bs', x = .returned (.slice (some ⟨g', 0, none⟩) Q.length Q.length) ∧ CP w w' g' bs' Q := by
  have n1 : (Q.length : Int) ≤ 128 := by omega
  have HZ := hid (zeroPages_128 w Q.length hq)
  have H := hid h
  clear h
  go_enter Try.func91, Try.ntmps91
  go_wp2_with fail
  refine HZ.out.mono ?_
  rintro x w1 ⟨g', bs', rfl, hz, hl⟩
  have HC := hid (CP.start hz hl)
  clear hz hl HZ
  have e0 : List.replicate Q.length zs = Q.take 0 ++ List.replicate (Q.length - 0) zs := by simp
  rw [e0] at HC
  clear e0
  go_wp2_with fail
  go_loopw [4, 5, 11] (fun _ _ i wr => ∃ j : Nat, j ≤ Q.length ∧ i = .int .i64 (j : Int) ∧ Hid (CP w wr g' bs' (Q.take j ++ List.replicate (Q.length - j) zs))) (fun _ _ i _ => Q.length - (intOf i).toNat)
  case atStart => exact ⟨0, Nat.zero_le _, rfl, HC⟩
  case round =>
    obtain ⟨j, hj, rfl, HQ⟩ := hrel
    clear HC
    by_cases hlt : j < Q.length
    · have c1 : (j : Int) < (Q.length : Int) := by omega
      have j1 : (j : Int) ≤ 128 := by omega
      have HS := hid (set_take Q j hlt)
      have HRP := hid (H.out.below' HQ.out.below)
      have y0 := HRP.out.at j hlt
      have hlen : (Q.take j ++ List.replicate (Q.length - j) zs).length = Q.length := by simp; omega
      have HL := hid hlen
      have HCP : Hid (wr.cell? ⟨g', j, none⟩ = some (.pointer (some ⟨bs'.getD j 0, 0, none⟩))) := hid (RP.at ⟨HQ.out.cel, HQ.out.len, fun k hk => (HQ.out.pages k hk).2, HQ.out.full⟩ j (by omega))
      have HPN : Hid (w.heap.size ≤ bs'.getD j 0) := hid (HQ.out.pages j (by omega)).1
      have HPC := hid (HQ.out.pages j (by omega)).2
      have HPF := hid (HQ.out.full j (by omega))
      have HSC := hid (HRP.out.pages j hlt)
      have HSF := hid (HRP.out.full j hlt)
      have HSL : Hid (bs.getD j 0 < w.heap.size) := hid (H.out.pages j hlt).lt
      have HGL : Hid (g' ≠ bs'.getD j 0) := hid (fun e => by have h1 := HQ.out.cel; rw [e] at h1; exact absurd (h1.ty HPC.out) (by decide))
      clear hlen
      generalize hQ1 : (Q.take j ++ List.replicate (Q.length - j) zs) = Q1 at *
      clear hQ1
      generalize hQ2 : Q1.getD j [] = L0 at *
      clear hQ2
      generalize hL1 : Q.getD j [] = L1 at *
      generalize hpp : bs'.getD j 0 = p' at *
      generalize bs.getD j 0 = p at *
      clear hL1
      have HX : Hid (∀ x, ButL [p'] wr x → x.cell? ⟨g', j, none⟩ = some (.pointer (some ⟨p', 0, none⟩))) := hid (fun x hx => by rw [(HQ.out.cel.but hx (by rw [List.mem_singleton]; exact HGL.out)).cell j, ← HQ.out.cel.cell j]; exact HCP.out)
      go_wp2_with fail
      refine wp_region_held_drew (S := fun x => ButL [p'] wr x) (by kernel_rfl) (.of (Below.refl _ _).drew) (fun hHeld => ?_)
      refine tk 0 ⟨some 16, .move (.tmp 3), 125, "page.go:21", #[], none⟩ (.slice (some ⟨g', 0, none⟩) Q.length Q.length) ?_
      simp only [Act.put, List.setIfInBounds_toArray, List.set_cons_zero, List.set_cons_succ]
      refine tk 1 ⟨some 17, .move (.tmp 4), 3, "page.go:21", #[], none⟩ (.int .i64 (j : Int)) ?_
      simp only [Act.put, List.setIfInBounds_toArray, List.set_cons_zero, List.set_cons_succ]
      refine tk 2 ⟨some 18, .indexAddr 125 (.tmp 16) (.tmp 17), 0, "page.go:21", #[⟨0, .data⟩, ⟨1, .data⟩], none⟩ (.pointer (some ⟨g', j, none⟩)) ?_
      simp only [Act.put, List.setIfInBounds_toArray, List.set_cons_zero, List.set_cons_succ]
      refine tk 3 ⟨some 19, .load 152 (.tmp 18), 152, "page.go:21", #[⟨2, .data⟩], none⟩ (.pointer (some ⟨p', 0, none⟩)) ?_ (hy := Or.inl ⟨by rfl, by intro w hSw; have hcc := HX.out w hSw; go_simp⟩)
      simp only [Act.put, List.setIfInBounds_toArray, List.set_cons_zero, List.set_cons_succ]
      refine tk 4 ⟨some 20, .move (.tmp 5), 152, "page.go:21", #[], none⟩ (.pointer (some ⟨p, 0, none⟩)) ?_
      simp only [Act.put, List.setIfInBounds_toArray, List.set_cons_zero, List.set_cons_succ]
      refine tk 5 ⟨some 21, .nilCheck (.tmp 20), 0, "page.go:21", #[⟨4, .data⟩], none⟩ (.pointer (some ⟨p, 0, none⟩)) ?_
      simp only [Act.put, List.setIfInBounds_toArray, List.set_cons_zero, List.set_cons_succ]
      refine tk 6 ⟨some 22, .load 170 (.tmp 21), 170, "page.go:21", #[⟨5, .data⟩], none⟩ (pgV L1) ?_ (hy := yieldsIf_load_mid (by rfl) _ _ rfl _ _ rfl _ _ (fun w hSw => (HSC.out.but hSw (by rw [List.mem_singleton]; have := HSL.out; have := HPN.out; omega)).range) under85 rfl (by rw [size85, u32s_len, HSF.out]))
      simp only [Act.put, List.setIfInBounds_toArray, List.set_cons_zero, List.set_cons_succ]
      refine tk 7 ⟨some 23, .nilCheck (.tmp 19), 0, "page.go:21", #[⟨3, .data⟩, ⟨0, .phase⟩, ⟨1, .phase⟩, ⟨2, .phase⟩, ⟨3, .phase⟩, ⟨4, .phase⟩, ⟨5, .phase⟩, ⟨6, .phase⟩], none⟩ (.pointer (some ⟨p', 0, none⟩)) ?_
      simp only [Act.put, List.setIfInBounds_toArray, List.set_cons_zero, List.set_cons_succ]
      refine wpAnyH_ready (rs := [8]) (by kernel_rfl) (by simp) (AllReadyH.cons (o := ⟨none, .store 170 (.tmp 23) (.tmp 22), 0, "page.go:21", #[⟨7, .data⟩, ⟨6, .data⟩, ⟨0, .phase⟩, ⟨1, .phase⟩, ⟨2, .phase⟩, ⟨3, .phase⟩, ⟨4, .phase⟩, ⟨5, .phase⟩, ⟨6, .phase⟩], none⟩) rfl (fun KQ hK => ?_) AllReadyH.nil)
      rw [if_pos (by rfl)]
      refine wp_store_pg _ _ rfl p' L1 L0 rfl rfl (HPC.out.on (Below.refl _ _).drew) HPF.out HSF.out ?_
      intro w3 hc3 hb3 hs3
      have hS3 : ButL [p'] wr w3 := ButL.trans (.of (Below.refl _ _).drew) hb3
      refine hK.out _ _ hS3 (fun hHeld => ?_)
      clear hK KQ
      try simp only [Act.put]
      refine wpAnyH_done (by kernel_rfl) ?_ _
      clear hHeld
      have HN := hid (HQ.out.set j (by rw [HL.out]; exact hlt) L1 HSF.out (hpp ▸ hS3) (hpp ▸ hc3))
      rw [HS.out] at HN
      clear hc3 hb3 hs3 hS3 HX
      go_wp2_with fail
      go_roundw
      case measure => simp [intOf] <;> omega
      case rel => exact ⟨j + 1, by omega, by go_num, HN⟩
    · obtain rfl : j = Q.length := by omega
      have hh : Q.take Q.length ++ List.replicate (Q.length - Q.length) zs = Q := by simp
      rw [hh] at HQ
      go_wp2_with fail
      go_ret
      exact ⟨g', bs', rfl, HQ.out⟩
end Go.Proofs.Ytgbpbfnpeeciaaa
