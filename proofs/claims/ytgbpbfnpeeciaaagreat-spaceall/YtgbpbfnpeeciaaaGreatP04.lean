import Derived.Test.YtgbpbfnpeeciaaaGreatP03
import Derived.Deep.OwnRows
import Derived.OwnWalk
import Derived.Test.YtgbpbfnpeeciaaaGreatP01
namespace Go.Proofs.YtgbpbfnpeeciaaaGreat
open Go.RowKit
def MS.zero (m : MS) (s : Bool) (p : Int) : MS := match m.at s p with
  | none => m
  | some k => { m.tick 1024 with P := m.P.set k zs }
def MS.perr (m : MS) (s : Bool) (p : Int) : Int := if (m.at s p).isSome then 0 else 5
theorem zero_any (w : World) (f : Fp) (m : MS) (h : Mem w f m) (s : Bool) (p : Int) :
    Calls Tryz.prog 101 #[ptr f.gm, fr s p] w fun x w' => x = .returned (.int .i64 (m.perr s p)) ∧ Mem w' f (m.zero s p) ∧ ButL f.w w w' := by
  have hX := h.on (below_one w (.cells #[.bool s, .int .i64 p] 67))
  have hB := hid (below_one w (.cells #[.bool s, .int .i64 p] 67))
  have HF := hid (find_any _ f m hX s p)
  have h1 := h.ns0
  have hlt : Hid (∀ k, m.at s p = some k → k < m.P.length) := fun k hk => MS.at_lt h1 hk
  have H := hid hX
  clear h hX h1
  unfold MS.zero MS.perr
  generalize hr : m.at s p = r at *
  cases r with
  | none =>
    simp only [fr, ptr, pv] at *
    go_enter Tryz.func101, Tryz.ntmps101
    go_wp2_with fail
    refine HF.out.mono ?_
    rintro x w1 ⟨rfl, hb1⟩
    have HB1 := hid (below_on hB.out hb1)
    have HM := hid (H.out.on hb1)
    clear hb1
    go_wp2_with fail
    go_ret
    exact ⟨rfl, HM.out, .of HB1.out⟩
  | some k =>
    have hk := hlt.out k rfl
    simp only [fr, ptr, pv] at *
    go_enter Tryz.func101, Tryz.ntmps101
    go_wp2_with fail
    refine HF.out.mono ?_
    rintro x w1 ⟨rfl, hb1⟩
    have HB1 := hid (below_on hB.out hb1)
    have HM := hid (H.out.on hb1)
    have c2 := HM.out.cm
    have f2 := HM.out.cel.free 2
    have HT := hid (HM.out.tick 1024)
    have HG := hid (HM.out.mem k hk)
    have HBT : Hid (ButL f.w w (w1.setCell ⟨f.gm, 2, none⟩ (.int .i64 (wrap64 (m.c + 1024))))) := hid ((ButL.of HB1.out).trans (.setCell _ _ _ _ (by simp [Fp.w])))
    clear hb1
    go_wp2_with (refine wpList_clear_pg rfl _ rfl (f.b k) 1024 (m.p k) rfl (HT.out.pg k hk) (HT.out.full k hk) ?_; intro w2 hc2 hb2 hs2; have HC2 := hid hc2; have HB2 := hid hb2; clear hc2 hb2)
    go_ret
    exact ⟨rfl, HT.out.page k hk zs zs_len HB2.out HC2.out, HBT.out.trans (HB2.out.mono (by intro g hg; rw [List.mem_singleton] at hg; subst hg; simp only [Fp.w, List.mem_cons]; exact .inr HG.out))⟩
theorem wpList_make_cel {ops : Array Oper} {rest : List Oper} {o : Oper} {a : Act} {w : World} {Q : Exit → Act → World → Prop} (hgd : o.guard = none) (l c : Operand) (t e : TypeId) (ho : o.op = Op.makeSlice t l c) (z : Value) (b : Nat)
    (hu : Tryz.prog.underlying t = some (.slice e)) (hinfo : (Tryz.prog.info? e).map (fun i => (i.zero, i.size, i.bytes)) = some (some z, 1, b)) (hz1 : z.cells = #[z]) (n : Nat) (L C : Int) (hl : a.eval l = .int .i64 L) (hc : a.eval c = .int .i64 C) (hL : L = (n : Int)) (hC : C = (n : Int))
    (hb : b * n ≤ 281474976710656) (hn : n ≤ 9223372036854775807)
    (h : ∀ w', Cel w' w.heap.size e (List.replicate n z) → Below w.heap.size w w' → w'.heap.size = w.heap.size + 1 → wpList Tryz.prog ops Q rest (a.put o.dst (.slice (some ⟨w.heap.size, 0, none⟩) n n)) w') :
    wpList Tryz.prog ops Q (o :: rest) a w := by
  obtain ⟨i, hi, hzz⟩ := Option.map_eq_some_iff.1 hinfo
  simp only [Prod.mk.injEq] at hzz
  obtain ⟨hz, hs, hbb⟩ := hzz
  subst hL hC
  refine wpList_make_row w hgd l c t ho e i z hu hi hz hs hz1 .i64 .i64 n hl hc (by rw [hbb]; exact hb) hn ?_
  have e1 : madeCells #[z] n = (List.replicate n z).toArray := by rw [← toList_madeCells_one]
  rw [e1]
  exact h _ (Cel.new _ _ _) (below_one _ _) (by simp)
theorem info32 : (Tryz.prog.info? 29).map (fun i => (i.zero, i.size, i.bytes)) = some (some (.int .u32 0), 1, 4) := by kernel_rfl
def MS.tk (m : MS) (s : Bool) (p n : Int) : MS := if (m.at s p).isSome then m.tick n else m
def PageIs (w w' : World) (m : MS) (s : Bool) (p : Int) (v : Value) : Prop := match m.at s p with
  | none => v = .slice none 0 0
  | some k => ∃ g, w.heap.size ≤ g ∧ v = .slice (some ⟨g, 0, none⟩) 1024 1024 ∧ Cel w' g 29 (u32s (m.p k))
def MS.bl (m : MS) (s : Bool) (p : Int) : Bool := match m.at s p with
  | none => false
  | some k => decide (m.p k = zs)
def MS.lerr (m : MS) (s : Bool) (p : Int) (L : List Int) : Int := match m.at s p with
  | none => 5
  | some _ => if L.length = 1024 then 0 else 2
def MS.lay (m : MS) (s : Bool) (p : Int) (L : List Int) : MS := match m.at s p with
  | none => m
  | some k => if L.length = 1024 then { m.tick 1024 with P := m.P.set k L } else m
end Go.Proofs.YtgbpbfnpeeciaaaGreat
namespace Go.Proofs.YtgbpbfnpeeciaaaGreat
open Go.RowKit
theorem wpList_alloc_pg {ops : Array Oper} {rest : List Oper} {o : Oper} {a : Act} {w : World} {Q : Exit → Act → World → Prop} (hgd : o.guard = none) (ho : o.op = .alloc 183)
    (h : ∀ w', Cel w' w.heap.size 183 (u32s zs) → Below w.heap.size w w' → w'.heap.size = w.heap.size + 1 → wpList Tryz.prog ops Q rest (a.put o.dst (.pointer (some ⟨w.heap.size, 0, none⟩))) w') : wpList Tryz.prog ops Q (o :: rest) a w := by
  refine wpList_plain hgd fun K hK => ?_
  have hi := info85
  obtain ⟨i, hi, hzz⟩ := Option.map_eq_some_iff.1 hi
  simp only [Prod.mk.injEq] at hzz
  have hz : ∀ w, (zeroValue 183).run Tryz.prog w = .ok (.agg (u32s zs).toArray) w := fun w => by simp [zeroValue, typeInfo, hi, hzz.1]
  have hn : (newVar 183 (.agg (u32s zs).toArray)).run Tryz.prog w = .ok ⟨w.heap.size, 0, none⟩ (w.alloc (.cells (u32s zs).toArray 183)) := by
    simp [newVar, newRow, Value.cells]
  unfold Oper.wp execOp
  simp only [ho, Instr.alloc, Sem.run_bind, Sem.run_pure, hz, hn, Result.andThen_ok]
  exact hK _ _ (h _ (Cel.new _ _ _) (below_one _ _) (by simp))
theorem under75 : Tryz.prog.underlying 108 = some (.slice 181) := by kernel_rfl
theorem info82 : (Tryz.prog.info? 181).map (fun i => (i.zero, i.size, i.bytes)) = some (some (.pointer none), 1, 8) := by kernel_rfl
structure ZP (w w' : World) (g : Nat) (bs : List Nat) (n : Nat) : Prop where
  below : Below w.heap.size w w'
  hg : w.heap.size ≤ g
  cel : Cel w' g 181 (bs.map ptr ++ List.replicate (n - bs.length) (.pointer none))
  le : bs.length ≤ n
  pages : ∀ b ∈ bs, w.heap.size ≤ b ∧ Cel w' b 183 (u32s zs)
  nodup : bs.Nodup
theorem ZP.on {w w' w2 : World} {g : Nat} {bs : List Nat} {n : Nat} (h : ZP w w' g bs n) (hb : Below w'.heap.size w' w2) : ZP w w2 g bs n :=
  ⟨below_on h.below hb, h.hg, h.cel.on hb, h.le, fun b hbs => ⟨(h.pages b hbs).1, (h.pages b hbs).2.on hb⟩, h.nodup⟩
theorem ZP.step {w w' w2 : World} {g : Nat} {bs : List Nat} {n : Nat} (h : ZP w w' g bs n) (hlt : bs.length < n) (hb : Below w'.heap.size w' w2) (hc : Cel w2 w'.heap.size 183 (u32s zs)) :
    ZP w (w2.setCell ⟨g, bs.length, none⟩ (.pointer (some ⟨w'.heap.size, 0, none⟩))) g (bs ++ [w'.heap.size]) n := by
  have h2 := h.on hb
  have hgl := h.cel.lt
  have hne : ∀ b, b ≠ g → ∀ t cs, Cel w2 b t cs → Cel (w2.setCell ⟨g, bs.length, none⟩ (.pointer (some ⟨w'.heap.size, 0, none⟩))) b t cs := fun b hbg t cs hcc => hcc.but (ButL.setCell (G := [g]) w2 g _ _ (by simp)) (by rw [List.mem_singleton]; exact hbg)
  refine ⟨h2.below.setCell (p := ⟨g, bs.length, none⟩) h.hg _, h.hg, ?_, by simp; omega, ?_, ?_⟩
  · have := h2.cel.setCell bs.length (.pointer (some ⟨w'.heap.size, 0, none⟩))
    have e : (bs.map ptr ++ List.replicate (n - bs.length) (Value.pointer none)).set bs.length (.pointer (some ⟨w'.heap.size, 0, none⟩)) = (bs ++ [w'.heap.size]).map ptr ++ List.replicate (n - (bs ++ [w'.heap.size]).length) (Value.pointer none) := by
      rw [List.set_append_right _ _ (by simp)]
      obtain ⟨k, hk⟩ : ∃ k, n - bs.length = k + 1 := ⟨n - bs.length - 1, by omega⟩
      have hk2 : n - (bs ++ [w'.heap.size]).length = k := by simp; omega
      rw [hk, hk2]
      simp [List.replicate_succ, ptr]
    rw [e] at this
    exact this
  · intro b hb'
    rw [List.mem_append, List.mem_singleton] at hb'
    rcases hb' with hb' | rfl
    · refine ⟨(h.pages b hb').1, hne b ?_ _ _ (h2.pages b hb').2⟩
      intro e; subst e
      exact absurd (h.cel.ty (h.pages _ hb').2) (by decide)
    · exact ⟨h.below.size, hne _ (by omega) _ _ hc⟩
  · rw [List.nodup_append]
    refine ⟨h.nodup, by simp, ?_⟩
    intro a ha b hb'
    rw [List.mem_singleton] at hb'
    subst hb'
    have := (h.pages a ha).2.lt
    omega
theorem zeroPages_any (w : World) (n : Nat) (hn : n ≤ 64) :
    Calls Tryz.prog 52 #[.int .i64 (n : Int)] w fun x w' => ∃ g bs, x = .returned (.slice (some ⟨g, 0, none⟩) n n) ∧ ZP w w' g bs n ∧ bs.length = n := by
  have n1 : (n : Int) ≤ 64 := by omega
  go_enter Tryz.func52, Tryz.ntmps52
  go_wp2_with (first | (at_make; refine wpList_make_cel rfl _ _ 108 181 rfl (.pointer none) 8 under75 info82 rfl n _ _ rfl rfl rfl rfl (by omega) (by omega) ?_))
  intro w1 hc1 hb1 hs1
  have HZ : Hid (ZP w w1 w.heap.size [] n) := hid ⟨hb1, Nat.le_refl _, by simpa using hc1, by simp, by simp, by simp⟩
  clear hc1 hb1 hs1
  generalize w.heap.size = g at *
  go_wp2_with fail
  go_loopw [4, 9] (fun _ v wr => ∃ bs : List Nat, v = .int .i64 (bs.length : Int) ∧ Hid (ZP w wr g bs n)) (fun _ v _ => n - (intOf v).toNat)
  case atStart => exact ⟨[], rfl, HZ⟩
  case round =>
    obtain ⟨bs, rfl, HQ⟩ := hrel
    have hle := HQ.out.le
    by_cases hlt : bs.length < n
    · have c1 : (bs.length : Int) < (n : Int) := by omega
      have q1 : (bs.length : Int) ≤ 64 := by omega
      have HG := hid HQ.out.cel
      go_wp2_with (first | (refine wpList_alloc_pg rfl rfl ?_))
      intro w2 hc2 hb2 hs2
      have HS := hid (HQ.out.step hlt hb2 hc2)
      have fz := (HG.out.on hb2).free bs.length
      have cz : w2.cell? ⟨g, bs.length, none⟩ = some (.pointer none) := by
        rw [(HG.out.on hb2).cell bs.length, List.getElem?_append_right (by simp)]
        simp [List.getElem?_replicate]; omega
      clear hc2 hb2 hs2
      go_wp2_with fail
      go_roundw
      case measure => simp [intOf] <;> omega
      case rel => exact ⟨bs ++ [wr.heap.size], by simp, HS⟩
    · have hqe : bs.length = n := by omega
      have c1 : ¬ (bs.length : Int) < (n : Int) := by omega
      go_wp2_with fail
      go_ret
      exact ⟨g, rfl, bs, HQ.out, hqe⟩
def MS.new (s n : Nat) : MS := ⟨s, List.replicate (s + n) zs, 0⟩
theorem rep_p (k n : Nat) (hk : k < n) : (List.replicate n zs).getD k [] = zs := by
  simp [List.getD_eq_getElem?_getD, hk]
theorem getD_mem {l : List Nat} {k : Nat} (hk : k < l.length) : l.getD k 0 ∈ l := by
  rw [List.getD_eq_getElem?_getD, List.getElem?_eq_getElem hk]; simp
theorem mem_of {w w1 w2 w3 : World} {g1 g2 gm : Nat} {bs1 bs2 : List Nat} {s n : Nat} (h1 : ZP w w1 g1 bs1 s) (h2 : ZP w1 w2 g2 bs2 n) (hs : bs1.length = s) (hn : bs2.length = n) (hm : s + n ≤ 128) (hb : Below w2.heap.size w2 w3) (hgm : w.heap.size ≤ gm) (c : Int)
    (hc : Cel w3 gm 111 [.slice (some ⟨g1, 0, none⟩) s s, .slice (some ⟨g2, 0, none⟩) n n, .int .i64 c]) (P : List (List Int)) (hP : P = List.replicate (s + n) zs) :
    Mem w3 ⟨gm, g1, g2, bs1 ++ bs2⟩ ⟨s, P, c⟩ ∧ (∀ k ∈ (⟨gm, g1, g2, bs1 ++ bs2⟩ : Fp).all, w.heap.size ≤ k) := by
  subst hP
  have h1' := (h1.on h2.below).on hb
  have h2' := h2.on hb
  refine ⟨⟨?_, ?_, ?_, ?_, ?_, ?_, ?_, ?_, ?_⟩, ?_⟩
  · simpa using hc
  · have := h1'.cel
    simpa [hs, List.take_left' hs] using this
  · have := h2'.cel
    simpa [hn, List.drop_left' hs] using this
  · simp [hs, hn]
  · simp
  · simpa using hm
  · intro k hk
    simp only [List.length_replicate] at hk
    have e : (⟨s, List.replicate (s + n) zs, c⟩ : MS).p k = zs := rep_p k (s + n) hk
    rw [e]
    have hmem := getD_mem (l := bs1 ++ bs2) (k := k) (by simp [hs, hn]; exact hk)
    have hb' : (⟨gm, g1, g2, bs1 ++ bs2⟩ : Fp).b k ∈ bs1 ++ bs2 := hmem
    rw [List.mem_append] at hb'
    rcases hb' with hb' | hb'
    · exact (h1'.pages _ hb').2
    · exact (h2'.pages _ hb').2
  · intro k hk
    simp only [List.length_replicate] at hk
    have e : (⟨s, List.replicate (s + n) zs, c⟩ : MS).p k = zs := rep_p k (s + n) hk
    rw [e, zs_len]
  · rw [List.nodup_append]
    refine ⟨h1.nodup, h2.nodup, ?_⟩
    intro a ha b hb' e
    subst e
    have := (h1.pages a ha).2.lt
    have := (h2.pages a hb').1
    omega
  · intro k hk
    have := h1.below.size
    simp only [Fp.all, List.mem_cons, List.mem_append] at hk
    rcases hk with rfl | rfl | rfl | hk | hk
    · exact hgm
    · exact h1.hg
    · have := h2.hg; omega
    · exact (h1.pages k hk).1
    · have := (h2.pages k hk).1; omega
structure NewMem (w w' : World) (f : Fp) (m : MS) : Prop where
  mem : Mem w' f m
  below : Below w.heap.size w w'
  new : ∀ k ∈ f.all, w.heap.size ≤ k
theorem new_any (w : World) (s n : Nat) (s1 : 1 ≤ s) (s2 : s ≤ 64) (n1 : 1 ≤ n) (n2 : n ≤ 64) :
    Calls Tryz.prog 9 #[.int .i64 (s : Int), .int .i64 (n : Int)] w fun x w' => ∃ f, x = .returned (.tuple #[ptr f.gm, .int .i64 0]) ∧ NewMem w w' f (MS.new s n) := by
  have H1 := hid (zeroPages_any w s s2)
  have a1 : (1 : Int) ≤ (s : Int) := by omega
  have a2 : (s : Int) ≤ 64 := by omega
  have a3 : (1 : Int) ≤ (n : Int) := by omega
  have a4 : (n : Int) ≤ 64 := by omega
  have HM : Hid (s + n ≤ 128) := hid (by omega)
  have HN : Hid (n ≤ 64) := n2
  clear s1 s2 n1 n2
  go_enter Tryz.func9, Tryz.ntmps9
  go_wp2_with fail
  refine H1.out.mono ?_
  rintro x w1 ⟨g1, bs1, rfl, hz1, hl1⟩
  have HZ1 := hid hz1
  have HL1 := hid hl1
  have H2 := hid (zeroPages_any w1 n HN.out)
  clear hz1 hl1 H1
  go_wp2_with fail
  refine H2.out.mono ?_
  rintro x w2 ⟨g2, bs2, rfl, hz2, hl2⟩
  have HZ2 := hid hz2
  have HL2 := hid hl2
  clear hz2 hl2 H2
  go_wp2_with fail
  go_ret2
  have h := mem_of HZ1.out HZ2.out HL1.out HL2.out HM.out (below_one w2 (.cells #[.slice (some ⟨g1, 0, none⟩) s s, .slice (some ⟨g2, 0, none⟩) n n, .int .i64 0] 111)) (gm := w2.heap.size) (by have := HZ1.out.below.size; have := HZ2.out.below.size; omega) 0 (Cel.new _ _ [.slice (some ⟨g1, 0, none⟩) s s, .slice (some ⟨g2, 0, none⟩) n n, .int .i64 0]) _ rfl
  exact ⟨⟨w2.heap.size, g1, g2, bs1 ++ bs2⟩, rfl, h.1, below_on (below_on HZ1.out.below HZ2.out.below) (below_one _ _), h.2⟩
theorem new_no (w : World) (s n : Int) (h : ¬ (1 ≤ s ∧ s ≤ 64 ∧ 1 ≤ n ∧ n ≤ 64)) :
    Calls Tryz.prog 9 #[.int .i64 s, .int .i64 n] w fun x w' => x = .returned (.tuple #[.pointer none, .int .i64 1]) ∧ w' = w := by
  have h' : s < 1 ∨ (1 ≤ s ∧ 64 < s) ∨ (1 ≤ s ∧ s ≤ 64 ∧ n < 1) ∨ (1 ≤ s ∧ s ≤ 64 ∧ 1 ≤ n ∧ 64 < n) := by omega
  clear h
  go_enter Tryz.func9, Tryz.ntmps9
  rcases h' with h | ⟨h1, h2⟩ | ⟨h1, h2, h3⟩ | ⟨h1, h2, h3, h4⟩
  all_goals go_wp2_with fail
  all_goals go_ret2
  all_goals exact ⟨rfl, rfl⟩
end Go.Proofs.YtgbpbfnpeeciaaaGreat
namespace Go.Proofs.YtgbpbfnpeeciaaaGreat
open Go.RowKit
structure CP (w w' : World) (g : Nat) (bs : List Nat) (Q : List (List Int)) : Prop where
  below : Below w.heap.size w w'
  hg : w.heap.size ≤ g
  cel : Cel w' g 181 (bs.map ptr)
  len : bs.length = Q.length
  pages : ∀ k, k < Q.length → w.heap.size ≤ bs.getD k 0 ∧ Cel w' (bs.getD k 0) 183 (u32s (Q.getD k []))
  full : ∀ k, k < Q.length → (Q.getD k []).length = 1024
  nodup : bs.Nodup
theorem CP.on {w w' w2 : World} {g : Nat} {bs : List Nat} {Q : List (List Int)} (h : CP w w' g bs Q) (hb : Below w'.heap.size w' w2) : CP w w2 g bs Q :=
  ⟨below_on h.below hb, h.hg, h.cel.on hb, h.len, fun k hk => ⟨(h.pages k hk).1, (h.pages k hk).2.on hb⟩, h.full, h.nodup⟩
theorem CP.start {w w' : World} {g : Nat} {bs : List Nat} {n : Nat} (h : ZP w w' g bs n) (hn : bs.length = n) : CP w w' g bs (List.replicate n zs) := by
  refine ⟨h.below, h.hg, ?_, by simp [hn], fun k hk => ?_, fun k hk => ?_, h.nodup⟩
  · have := h.cel; simpa [hn] using this
  · simp only [List.length_replicate] at hk
    rw [rep_p k n hk]
    exact h.pages _ (getD_mem (by omega))
  · simp only [List.length_replicate] at hk
    rw [rep_p k n hk, zs_len]
theorem getD_inj {bs : List Nat} (h : bs.Nodup) {j k : Nat} (hj : j < bs.length) (hk : k < bs.length) (he : bs.getD j 0 = bs.getD k 0) : j = k := by
  simp only [List.getD_eq_getElem?_getD, List.getElem?_eq_getElem hj, List.getElem?_eq_getElem hk, Option.getD_some] at he
  rcases Nat.lt_trichotomy j k with hlt | e | hlt
  · exact absurd he (List.pairwise_iff_getElem.1 h j k hj hk hlt)
  · exact e
  · exact absurd he.symm (List.pairwise_iff_getElem.1 h k j hk hj hlt)
theorem CP.set {w w' w2 : World} {g : Nat} {bs : List Nat} {Q : List (List Int)} (h : CP w w' g bs Q) (k : Nat) (hk : k < Q.length) (L : List Int) (hL : L.length = 1024) (hb : ButL [bs.getD k 0] w' w2) (hc : Cel w2 (bs.getD k 0) 183 (u32s L)) : CP w w2 g bs (Q.set k L) := by
  have hp := h.pages k hk
  refine ⟨h.below.trans (hb.below (fun x hx => by rw [List.mem_singleton] at hx; rw [hx]; exact hp.1) h.below.size), h.hg, h.cel.but hb (fun hm => by rw [List.mem_singleton] at hm; have := h.cel; rw [hm] at this; exact absurd (this.ty hp.2) (by decide)), by simp [h.len], fun j hj => ?_, fun j hj => ?_, h.nodup⟩
  · simp only [List.length_set] at hj
    by_cases e : j = k
    · subst e
      have e2 : (Q.set j L).getD j [] = L := by rw [List.getD_eq_getElem?_getD, List.getElem?_set_self hj]; rfl
      rw [e2]
      exact ⟨hp.1, hc⟩
    · have e2 : (Q.set k L).getD j [] = Q.getD j [] := by rw [List.getD_eq_getElem?_getD, List.getElem?_set_ne (Ne.symm e), ← List.getD_eq_getElem?_getD]
      rw [e2]
      refine ⟨(h.pages j hj).1, (h.pages j hj).2.but hb (fun hm => ?_)⟩
      rw [List.mem_singleton] at hm
      exact e (getD_inj h.nodup (by rw [h.len]; exact hj) (by rw [h.len]; exact hk) hm)
  · simp only [List.length_set] at hj
    by_cases e : j = k
    · subst e
      have e2 : (Q.set j L).getD j [] = L := by rw [List.getD_eq_getElem?_getD, List.getElem?_set_self hj]; rfl
      rw [e2, hL]
    · have e2 : (Q.set k L).getD j [] = Q.getD j [] := by rw [List.getD_eq_getElem?_getD, List.getElem?_set_ne (Ne.symm e), ← List.getD_eq_getElem?_getD]
      rw [e2]; exact h.full j hj
structure RP (w : World) (g : Nat) (bs : List Nat) (Q : List (List Int)) : Prop where
  cel : Cel w g 181 (bs.map ptr)
  len : bs.length = Q.length
  pages : ∀ k, k < Q.length → Cel w (bs.getD k 0) 183 (u32s (Q.getD k []))
  full : ∀ k, k < Q.length → (Q.getD k []).length = 1024
theorem RP.on {w w2 : World} {g : Nat} {bs : List Nat} {Q : List (List Int)} (h : RP w g bs Q) (hb : Below w.heap.size w w2) : RP w2 g bs Q :=
  ⟨h.cel.on hb, h.len, fun k hk => (h.pages k hk).on hb, h.full⟩
theorem RP.at {w : World} {g : Nat} {bs : List Nat} {Q : List (List Int)} (h : RP w g bs Q) (k : Nat) (hk : k < Q.length) : w.cell? ⟨g, k, none⟩ = some (.pointer (some ⟨bs.getD k 0, 0, none⟩)) := by
  have := h.len
  rw [h.cel.cell k, List.getElem?_map, List.getElem?_eq_getElem (by omega)]
  simp [ptr, List.getD_eq_getElem?_getD, List.getElem?_eq_getElem (show k < bs.length by omega)]
end Go.Proofs.YtgbpbfnpeeciaaaGreat
namespace Go.Proofs.YtgbpbfnpeeciaaaGreat
open Go.RowKit
theorem getD_take {α : Type} (l : List α) (d : α) (n k : Nat) (h : k < n) : (l.take n).getD k d = l.getD k d := by
  rw [List.getD_eq_getElem?_getD, List.getElem?_take_of_lt h, ← List.getD_eq_getElem?_getD]
theorem Mem.rs {w : World} {f : Fp} {m : MS} (h : Mem w f m) : RP w f.gs (f.bs.take m.ns) (m.P.take m.ns) := by
  have := h.ns0
  refine ⟨h.sec, by rw [List.length_take, List.length_take, h.len], fun k hk => ?_, fun k hk => ?_⟩
  · rw [List.length_take] at hk
    rw [getD_take _ _ _ _ (by omega), getD_take _ _ _ _ (by omega)]
    exact h.pg k (by omega)
  · rw [List.length_take] at hk
    rw [getD_take _ _ _ _ (by omega)]
    exact h.full k (by omega)
theorem CP.from {w w0 w' : World} {g : Nat} {bs : List Nat} {Q : List (List Int)} (h : CP w0 w' g bs Q) (hb : Below w.heap.size w w0) : CP w w' g bs Q :=
  ⟨below_on hb h.below, Nat.le_trans hb.size h.hg, h.cel, h.len, fun k hk => ⟨Nat.le_trans hb.size (h.pages k hk).1, (h.pages k hk).2⟩, h.full, h.nodup⟩
set_option maxRecDepth 40000 in
set_option maxHeartbeats 4000000 in
def MS.same (m o : MS) : Bool := decide (m.P.take m.ns = o.P.take o.ns) && decide (m.P.drop m.ns = o.P.drop o.ns)
end Go.Proofs.YtgbpbfnpeeciaaaGreat
namespace Go.Proofs.YtgbpbfnpeeciaaaGreat
open Go.RowKit
structure Hl (W wr : World) (v : Value) (L : List Int) : Prop where
  own : wr.ownsRow W.heap.size 29 1 v L.length (u32s L)
  below : Below W.heap.size W wr
theorem Hl.start (W : World) : Hl W W (.slice none 0 0) [] := ⟨World.ownsRow_nil _ _ _ _, Below.refl _ _⟩
theorem Hl.on {W w w' : World} {v : Value} {L : List Int} (h : Hl W w v L) (hb : Below w.heap.size w w') : Hl W w' v L :=
  ⟨⟨h.own.1, h.own.2.imp id fun ⟨g, cap, cur, hv, hB, hg, r⟩ => ⟨g, cap, cur, hv, hB, (hb.block g (Array.getElem?_eq_some_iff.1 hg).1).trans hg, r⟩⟩, below_on h.below hb⟩
theorem Hl.form {W w : World} {v : Value} {L : List Int} (h : Hl W w v L) : ∃ ao c, v = .slice ao L.length c ∧ (0 < L.length → ∃ g, ao = some ⟨g, 0, none⟩ ∧ W.heap.size ≤ g ∧ g < w.heap.size ∧ (∃ cur, w.heap[g]? = some (.cells cur 29 (0, 0))) ∧ ∀ j u, (u32s L)[j]? = some u → w.cell? ⟨g, j, none⟩ = some u) := by
  rcases h.own.2 with ⟨hv, h0⟩ | ⟨g, cap, cur, hv, hB, hg, r⟩
  · exact ⟨none, 0, by rw [hv, h0], fun hp => by omega⟩
  · refine ⟨some ⟨g, 0, none⟩, cap, hv, fun _ => ⟨g, rfl, hB, (Array.getElem?_eq_some_iff.1 hg).1, ⟨cur, hg⟩, fun j u hu => ?_⟩⟩
    have := h.own.cells (g := g) (by rw [hv]; rfl) j u hu
    rwa [Addr.add_mid, Nat.zero_add] at this
theorem wpList_append_w {W w : World} {ops : Array Oper} {rest : List Oper} {o : Oper} {a : Act} {Q : Exit → Act → World → Prop} (hgd : o.guard = none) (s x : Operand)
    (ho : o.op = .call { callee := .builtin .append, args := #[s, x], argTypes := #[102, 102] }) (v : Value) (L : List Int) (hs : a.eval s = v) (H : Hl W w v L) (ad : Addr) (m c : Nat) (xs : List Int) (hx : a.eval x = .slice (some ad) m c) (hl : xs.length = m)
    (hsrc : ∀ j u, (u32s xs)[j]? = some u → w.cell? (ad.add j) = some u) (hbytes : (L.length + m) * 4 ≤ 140737488355328)
    (h : ∀ v' w', Hl W w' v' (L ++ xs) → w.grownBy w' v.ownBlock → wpList Tryz.prog ops Q rest (a.put o.dst v') w') : wpList Tryz.prog ops Q (o :: rest) a w := by
  obtain ⟨i, hi, hz, hsize, hby⟩ := info_parts info32
  obtain ⟨v', w', hr, h1, h2, _⟩ := run_append_own (P := Tryz.prog) w W.heap.size 102 o.type 29 i (.int .u32 0) 1 4 under24 hi hz hsize hby rfl (by decide) v L.length _ H.own ad m c (u32s xs) (by rw [u32s_len, hl, Nat.mul_one]) hsrc (u32s_one xs) (by unfold maxLen; omega) hbytes H.below.size
  have hH : Hl W w' v' (L ++ xs) := ⟨by
    have e : u32s (L ++ xs) = u32s L ++ u32s xs := by simp [u32s]
    rw [e, List.length_append, hl]; exact h1, H.below.grown h2 H.below.size (fun g hg => (H.own.lt g hg).1)⟩
  refine wpList_plain hgd fun K hK => ?_
  unfold Oper.wp execOp
  simp only [ho, resolve, invoke, builtin, Sem.run_bind, Sem.run_pure, Result.andThen_ok, List.map_toArray, List.map_cons, List.map_nil, hs, hx, hr]
  exact hK _ _ (h _ _ hH h2)
end Go.Proofs.YtgbpbfnpeeciaaaGreat
namespace Go.Proofs.YtgbpbfnpeeciaaaGreat
open Go.RowKit
def nilV : Value := .slice none 0 0
def blkOf : Value → Option Nat
  | .slice (some a) _ _ => some a.block
  | _ => none
structure Rf where
  g : Nat
  gp : Nat
  cap : Nat
  vs : List Value
def Rf.all (r : Rf) : List Nat := r.g :: r.gp :: r.vs.filterMap blkOf
def Rf.v (r : Rf) (k : Nat) : Value := r.vs.getD k nilV
def PgIs (w : World) (v : Value) (L : List Int) : Prop := L.length = 1024 ∧ ((v = .slice none 0 0 ∧ L = zs) ∨ ∃ b cap cur, v = .slice (some ⟨b, 0, none⟩) 1024 cap ∧ w.heap[b]? = some (.cells cur 29 (0, 0)) ∧ cur.toList.take 1024 = u32s L)
theorem PgIs.but {w w' : World} {G : List Nat} {v : Value} {L : List Int} (h : PgIs w v L) (hb : ButL G w w') (hn : ∀ b, blkOf v = some b → b ∉ G) : PgIs w' v L := by
  refine ⟨h.1, h.2.imp id ?_⟩
  rintro ⟨b, cap, cur, rfl, h1, h2⟩
  exact ⟨b, cap, cur, rfl, (hb.block b (Array.getElem?_eq_some_iff.1 h1).1 (hn b rfl)).trans h1, h2⟩
theorem PgIs.lt {w : World} {v : Value} {L : List Int} (h : PgIs w v L) {b : Nat} (hb : blkOf v = some b) : b < w.heap.size := by
  rcases h.2 with ⟨rfl, _⟩ | ⟨b', cap, cur, rfl, h1, _⟩
  · cases hb
  · simp only [blkOf, Option.some.injEq] at hb
    subst hb
    exact (Array.getElem?_eq_some_iff.1 h1).1
structure RMem (w : World) (r : Rf) (m : MS) : Prop where
  cel : Cel w r.g 114 [.slice (some ⟨r.gp, 0, none⟩) m.P.length r.cap, .int .i64 (m.ns : Int), .int .i64 m.c]
  pages : ∃ cur, w.heap[r.gp]? = some (.cells cur 102 (0, 0)) ∧ cur.toList.take m.P.length = r.vs
  len : r.vs.length = m.P.length
  ns0 : m.ns ≤ m.P.length
  most : m.P.length ≤ 128
  pg : ∀ k, k < m.P.length → PgIs w (r.v k) (m.p k)
  apart : ∀ j k, j < m.P.length → k < m.P.length → j ≠ k → ∀ b, blkOf (r.v j) = some b → blkOf (r.v k) ≠ some b
theorem Rf.mem_all {r : Rf} {k b : Nat} (hk : k < r.vs.length) (h : blkOf (r.v k) = some b) : b ∈ r.all := by
  have e : r.v k = r.vs[k] := by unfold Rf.v; rw [List.getD_eq_getElem?_getD, List.getElem?_eq_getElem hk]; rfl
  simp only [Rf.all, List.mem_cons, List.mem_filterMap]
  exact .inr (.inr ⟨r.vs[k], List.getElem_mem hk, e ▸ h⟩)
theorem Rf.all_mem {r : Rf} {b : Nat} (h : b ∈ r.all) : b = r.g ∨ b = r.gp ∨ ∃ k, k < r.vs.length ∧ blkOf (r.v k) = some b := by
  simp only [Rf.all, List.mem_cons, List.mem_filterMap] at h
  rcases h with h | h | ⟨v, hv, hb⟩
  · exact .inl h
  · exact .inr (.inl h)
  · obtain ⟨k, hk, rfl⟩ := List.mem_iff_getElem.1 hv
    refine .inr (.inr ⟨k, hk, ?_⟩)
    have e : r.v k = r.vs[k] := by unfold Rf.v; rw [List.getD_eq_getElem?_getD, List.getElem?_eq_getElem hk]; rfl
    rw [e]; exact hb
theorem RMem.frame {w w' : World} {r : Rf} {m : MS} {G : List Nat} (h : RMem w r m) (hb : ButL G w w') (hd : ∀ k ∈ r.all, k ∉ G) : RMem w' r m := by
  obtain ⟨cur, h1, h2⟩ := h.pages
  refine ⟨h.cel.but hb (hd _ (by simp [Rf.all])), ⟨cur, (hb.block _ (Array.getElem?_eq_some_iff.1 h1).1 (hd _ (by simp [Rf.all]))).trans h1, h2⟩, h.len, h.ns0, h.most, fun k hk => (h.pg k hk).but hb (fun b hbk => hd b (Rf.mem_all (by rw [h.len]; exact hk) hbk)), h.apart⟩
theorem RMem.on {w w' : World} {r : Rf} {m : MS} (h : RMem w r m) (hb : Below w.heap.size w w') : RMem w' r m := h.frame (G := []) (.of hb) (by simp)
theorem RMem.lt {w : World} {r : Rf} {m : MS} (h : RMem w r m) : ∀ k ∈ r.all, k < w.heap.size := by
  intro k hk
  rcases Rf.all_mem hk with rfl | rfl | ⟨j, hj, hb⟩
  · exact h.cel.lt
  · obtain ⟨cur, h1, _⟩ := h.pages
    exact (Array.getElem?_eq_some_iff.1 h1).1
  · exact (h.pg j (by rw [← h.len]; exact hj)).lt hb
theorem RMem.ne {w : World} {r : Rf} {m : MS} (h : RMem w r m) : r.g ≠ r.gp := by
  obtain ⟨cur, h1, _⟩ := h.pages
  intro e
  have h2 := h.cel
  unfold Cel at h2
  rw [e, h1] at h2
  injection h2 with h2
  injection h2 with _ h3 _
  exact absurd h3 (by decide)
theorem PgIs.ty {w : World} {v : Value} {L : List Int} (h : PgIs w v L) {b : Nat} (hb : blkOf v = some b) {cur : Array Value} {t : TypeId} {fr : Nat × Nat} (hh : w.heap[b]? = some (.cells cur t fr)) : t = 29 := by
  rcases h.2 with ⟨rfl, _⟩ | ⟨b', cap, cur', rfl, h1, _⟩
  · cases hb
  · simp only [blkOf, Option.some.injEq] at hb
    subst hb
    rw [h1] at hh
    injection hh with hh
    injection hh with _ h3 _
    exact h3.symm
theorem RMem.cellAt {w : World} {r : Rf} {m : MS} (h : RMem w r m) (k : Nat) (hk : k < m.P.length) : w.cell? ⟨r.gp, k, none⟩ = some (r.v k) := by
  obtain ⟨cur, h1, h2⟩ := h.pages
  rw [cell_of_row w r.gp k _ 102 (0, 0) h1]
  have : (cur.toList.take m.P.length)[k]? = some (r.v k) := by
    rw [h2]; unfold Rf.v
    rw [List.getD_eq_getElem?_getD, List.getElem?_eq_getElem (by rw [h.len]; exact hk)]; rfl
  rw [List.getElem?_take_of_lt hk] at this
  simpa using this
theorem RMem.freeP {w : World} {r : Rf} {m : MS} (h : RMem w r m) (k : Nat) : w.frozen? ⟨r.gp, k, none⟩ = false := by
  obtain ⟨cur, h1, _⟩ := h.pages
  exact frozen_of_row w r.gp k _ 102 h1
theorem RMem.tick {w : World} {r : Rf} {m : MS} (h : RMem w r m) (n : Int) : RMem (w.setCell ⟨r.g, 2, none⟩ (.int .i64 (wrap64 (m.c + n)))) r (m.tick n) := by
  have hb := ButL.setCell (G := [r.g]) w r.g 2 (.int .i64 (wrap64 (m.c + n))) (by simp)
  obtain ⟨cur, h1, h2⟩ := h.pages
  refine ⟨h.cel.setCell 2 _, ⟨cur, (hb.block _ (Array.getElem?_eq_some_iff.1 h1).1 (by rw [List.mem_singleton]; exact fun e => h.ne e.symm)).trans h1, h2⟩, h.len, h.ns0, h.most, fun k hk => (h.pg k hk).but hb (fun b hbk => ?_), h.apart⟩
  rw [List.mem_singleton]
  intro e
  subst e
  exact absurd ((h.pg k hk).ty hbk h.cel) (by decide)
theorem RMem.setPage {w : World} {r : Rf} {m : MS} (h : RMem w r m) (k : Nat) (hk : k < m.P.length) (v' : Value) (L' : List Int) (hp : PgIs w v' L') (hnew : ∀ b, blkOf v' = some b → b ∉ r.all) :
    RMem (w.setCell ⟨r.gp, k, none⟩ v') { r with vs := r.vs.set k v' } { m with P := m.P.set k L' } := by
  have hb := ButL.setCell (G := [r.gp]) w r.gp k v' (by simp)
  obtain ⟨cur, h1, h2⟩ := h.pages
  have hv : ∀ j, j < m.P.length → ({ r with vs := r.vs.set k v' } : Rf).v j = if j = k then v' else r.v j := by
    intro j hj
    unfold Rf.v
    by_cases e : j = k
    · subst e
      rw [if_pos rfl, List.getD_eq_getElem?_getD, List.getElem?_set_self (by rw [h.len]; exact hj)]; rfl
    · rw [if_neg e, List.getD_eq_getElem?_getD, List.getElem?_set_ne (Ne.symm e), ← List.getD_eq_getElem?_getD]
  have hpp : ∀ j, j < m.P.length → ({ m with P := m.P.set k L' } : MS).p j = if j = k then L' else m.p j := by
    intro j hj
    unfold MS.p
    by_cases e : j = k
    · subst e
      rw [if_pos rfl, List.getD_eq_getElem?_getD, List.getElem?_set_self hj]; rfl
    · rw [if_neg e, List.getD_eq_getElem?_getD, List.getElem?_set_ne (Ne.symm e), ← List.getD_eq_getElem?_getD]
  have hty : ∀ j, j < m.P.length → ∀ b, blkOf (r.v j) = some b → b ≠ r.gp := fun j hj b hbj e => by
    subst e
    exact absurd ((h.pg j hj).ty hbj h1) (by decide)
  have hty' : ∀ b, blkOf v' = some b → b ≠ r.gp := fun b hbj e => by
    subst e
    exact absurd (hp.ty hbj h1) (by decide)
  refine ⟨?_, ⟨cur.setIfInBounds k v', ?_, ?_⟩, ?_, ?_, ?_, ?_, ?_⟩
  · simpa using h.cel.but hb (by rw [List.mem_singleton]; exact h.ne)
  · exact heap_setCell_same w r.gp k _ 102 _ h1
  · simp only [List.length_set, Array.toList_setIfInBounds]
    rw [List.take_set, h2]
  · simp [h.len]
  · simpa using h.ns0
  · simpa using h.most
  · intro j hj
    simp only [List.length_set] at hj
    rw [hv j hj, hpp j hj]
    split
    · exact hp.but hb (fun b hbj => by rw [List.mem_singleton]; exact hty' b hbj)
    · exact (h.pg j hj).but hb (fun b hbj => by rw [List.mem_singleton]; exact hty j hj b hbj)
  · intro i j hi hj hij b
    simp only [List.length_set] at hi hj
    rw [hv i hi, hv j hj]
    split
    · rename_i e1
      rw [if_neg (by omega)]
      intro hb1 hb2
      exact hnew b hb1 (Rf.mem_all (by rw [h.len]; exact hj) hb2)
    · split
      · intro hb1 hb2
        exact hnew b hb2 (Rf.mem_all (by rw [h.len]; exact hi) hb1)
      · exact h.apart i j hi hj hij b
structure RSt (w w' : World) (r r' : Rf) (m' : MS) : Prop where
  mem : RMem w' r' m'
  but : ButL r.all w w'
  g : r'.g = r.g
  sub : ∀ k ∈ r'.all, k ∈ r.all ∨ w.heap.size ≤ k
theorem RSt.of {w w' : World} {r : Rf} {m : MS} (h : RMem w r m) (hb : Below w.heap.size w w') : RSt w w' r r m := ⟨h.on hb, .of hb, rfl, fun _ hk => .inl hk⟩
end Go.Proofs.YtgbpbfnpeeciaaaGreat
namespace Go.Proofs.YtgbpbfnpeeciaaaGreat
open Go.RowKit
theorem wrapI (n : Int) (h : -9223372036854775808 ≤ n ∧ n ≤ 9223372036854775807) : IntKind.i64.wrap n = n := by
  rw [IntKind.wrap_i64]; omega
def pl (o : Option Nat) : Int := match o with
  | none => -1
  | some k => (k : Int)
set_option maxRecDepth 40000 in
set_option maxHeartbeats 4000000 in
theorem rplace_any (w : World) (r : Rf) (m : MS) (h : RMem w r m) (s : Bool) (p : Int) :
    Calls Tryz.prog 71 #[ptr r.g, fr s p] w fun x w' => x = .returned (.int .i64 (pl (m.at s p))) ∧ Below w.heap.size w w' := by
  have hX := h.on (below_one w (.cells #[.bool s, .int .i64 p] 72))
  have hB := hid (below_one w (.cells #[.bool s, .int .i64 p] 72))
  have C3 := hid (Cel.new w 72 [.bool s, .int .i64 p])
  have h1 := h.ns0
  have h2 := h.most
  have HX : Hid (∀ x, Below (w.alloc (.cells #[.bool s, .int .i64 p] 72)).heap.size (w.alloc (.cells #[.bool s, .int .i64 p] 72)) x → x.cell? ⟨w.heap.size, 0, none⟩ = some (.bool s) ∧ x.cell? ⟨w.heap.size, 1, none⟩ = some (.int .i64 p) ∧ x.cell? ⟨r.g, 0, none⟩ = some (.slice (some ⟨r.gp, 0, none⟩) m.P.length r.cap) ∧ x.cell? ⟨r.g, 1, none⟩ = some (.int .i64 (m.ns : Int))) := hid (fun x hx => ⟨(C3.out.on hx).cell 0, (C3.out.on hx).cell 1, (hX.on hx).cel.cell 0, (hX.on hx).cel.cell 1⟩)
  obtain ⟨y0, y1, y2, y3⟩ := HX.out _ (Below.refl _ _)
  clear h hX C3
  have n1 : (m.ns : Int) ≤ (m.P.length : Int) := by omega
  have n2 : (m.P.length : Int) ≤ 128 := by omega
  have HN : Hid (p < 0 → pl (m.at s p) = -1) := hid (fun hh => by unfold MS.at; rw [if_neg (by omega)]; rfl)
  have HS1 : Hid (s = true → 0 ≤ p → p < (m.ns : Int) → pl (m.at s p) = p) := hid (fun hs a b => by unfold MS.at; rw [if_pos a, if_pos hs, if_pos b]; show ((p.toNat : Nat) : Int) = p; omega)
  have HS2 : Hid (s = true → 0 ≤ p → ¬ p < (m.ns : Int) → pl (m.at s p) = -1) := hid (fun hs a b => by unfold MS.at; rw [if_pos a, if_pos hs, if_neg b]; rfl)
  have HI1 : Hid (s = false → 0 ≤ p → p < (m.P.length : Int) - (m.ns : Int) → pl (m.at s p) = (m.ns : Int) + p) := hid (fun hs a b => by unfold MS.at; rw [if_pos a, if_neg (by simp [hs]), if_pos (by omega)]; show ((m.ns + p.toNat : Nat) : Int) = _; omega)
  have HI2 : Hid (s = false → 0 ≤ p → ¬ p < (m.P.length : Int) - (m.ns : Int) → pl (m.at s p) = -1) := hid (fun hs a b => by unfold MS.at; rw [if_pos a, if_neg (by simp [hs]), if_neg (by omega)]; rfl)
  generalize pl (m.at s p) = res at *
  simp only [ptr, fr]
  go_enter Tryz.func71, Tryz.ntmps71
  by_cases hp : p < 0
  · have hr := HN.out hp
    subst hr
    go_wp2_with fail
    go_ret
    exact ⟨rfl, hB.out⟩
  have p0 : 0 ≤ p := by omega
  cases s
  · by_cases hq : p < (m.P.length : Int) - (m.ns : Int)
    · have HR := hid (HI1.out rfl p0 hq)
      clear HN HS1 HS2 HI1 HI2 hp
      go_wp2_with fail
      refine wp_region_held_drew (S := fun x => Below (w.alloc (.cells #[.bool false, .int .i64 p] 72)).heap.size (w.alloc (.cells #[.bool false, .int .i64 p] 72)) x) (by kernel_rfl) ((Below.refl _ _).drew) (fun hHeld => ?_)
      refine tk 0 ⟨some 19, .fieldAddr 72 (.tmp 3) 1, 0, "ref.go:56", #[], none⟩ (.pointer (some ⟨w.heap.size, 1, none⟩)) ?_
      simp only [Act.put, List.setIfInBounds_toArray, List.set_cons_zero, List.set_cons_succ]
      refine tk 1 ⟨some 20, .load 3 (.tmp 19), 3, "ref.go:56", #[⟨0, .data⟩], none⟩ (.int .i64 p) ?_ (hy := Or.inl ⟨by rfl, by intro w hSw; have hcc := (HX.out w hSw).2.1; go_simp⟩)
      simp only [Act.put, List.setIfInBounds_toArray, List.set_cons_zero, List.set_cons_succ]
      refine tk 2 ⟨some 21, .move (.tmp 0), 40, "ref.go:56", #[], none⟩ (.pointer (some ⟨r.g, 0, none⟩)) ?_
      simp only [Act.put, List.setIfInBounds_toArray, List.set_cons_zero, List.set_cons_succ]
      refine tk 3 ⟨some 22, .nilCheck (.tmp 21), 0, "ref.go:56", #[⟨2, .data⟩], none⟩ (.pointer (some ⟨r.g, 0, none⟩)) ?_
      simp only [Act.put, List.setIfInBounds_toArray, List.set_cons_zero, List.set_cons_succ]
      refine tk 4 ⟨some 23, .fieldAddr 114 (.tmp 22) 0, 0, "ref.go:56", #[⟨3, .data⟩], none⟩ (.pointer (some ⟨r.g, 0, none⟩)) ?_
      simp only [Act.put, List.setIfInBounds_toArray, List.set_cons_zero, List.set_cons_succ]
      refine tk 5 ⟨some 24, .load 112 (.tmp 23), 112, "ref.go:56", #[⟨4, .data⟩], none⟩ (.slice (some ⟨r.gp, 0, none⟩) m.P.length r.cap) ?_ (hy := Or.inl ⟨by rfl, by intro w hSw; have hcc := (HX.out w hSw).2.2.1; go_simp⟩)
      simp only [Act.put, List.setIfInBounds_toArray, List.set_cons_zero, List.set_cons_succ]
      refine tk 6 ⟨some 25, .call { callee := .builtin .len, args := #[.tmp 24], argTypes := #[112] }, 3, "ref.go:56", #[⟨5, .data⟩], none⟩ (.int .i64 (m.P.length : Int)) ?_
      simp only [Act.put, List.setIfInBounds_toArray, List.set_cons_zero, List.set_cons_succ]
      refine tk 7 ⟨some 26, .move (.tmp 0), 40, "ref.go:56", #[], none⟩ (.pointer (some ⟨r.g, 0, none⟩)) ?_
      simp only [Act.put, List.setIfInBounds_toArray, List.set_cons_zero, List.set_cons_succ]
      refine tk 8 ⟨some 27, .nilCheck (.tmp 26), 0, "ref.go:56", #[⟨7, .data⟩], none⟩ (.pointer (some ⟨r.g, 0, none⟩)) ?_
      simp only [Act.put, List.setIfInBounds_toArray, List.set_cons_zero, List.set_cons_succ]
      refine tk 9 ⟨some 28, .fieldAddr 114 (.tmp 27) 1, 0, "ref.go:56", #[⟨8, .data⟩], none⟩ (.pointer (some ⟨r.g, 1, none⟩)) ?_
      simp only [Act.put, List.setIfInBounds_toArray, List.set_cons_zero, List.set_cons_succ]
      refine tk 10 ⟨some 29, .load 3 (.tmp 28), 3, "ref.go:56", #[⟨9, .data⟩], none⟩ (.int .i64 (m.ns : Int)) ?_ (hy := Or.inl ⟨by rfl, by intro w hSw; have hcc := (HX.out w hSw).2.2.2; go_simp⟩)
      simp only [Act.put, List.setIfInBounds_toArray, List.set_cons_zero, List.set_cons_succ]
      refine tk 11 ⟨some 30, .binOp .sub 3 (.tmp 25) (.tmp 29) 3, 3, "ref.go:56", #[⟨6, .data⟩, ⟨10, .data⟩], none⟩ (.int .i64 ((m.P.length : Int) - (m.ns : Int))) ?_ (hy := Or.inl ⟨by rfl, by intro w hSw; go_simp; exact wrapI _ (by omega)⟩)
      simp only [Act.put, List.setIfInBounds_toArray, List.set_cons_zero, List.set_cons_succ]
      refine tk 12 ⟨some 31, .binOp .lss 3 (.tmp 20) (.tmp 30) 3, 4, "ref.go:56", #[⟨1, .data⟩, ⟨11, .data⟩], none⟩ (.bool true) ?_
      simp only [Act.put, List.setIfInBounds_toArray, List.set_cons_zero, List.set_cons_succ]
      refine wpAnyH_done (by kernel_rfl) ?_ _
      clear y0 y1 y2 y3
      clear hHeld
      obtain ⟨y0, y1, y2, y3⟩ := HX.out _ ((Below.refl _ _).drew)
      go_wp2_with fail
      refine wp_region_held_drew (S := fun x => Below (w.alloc (.cells #[.bool false, .int .i64 p] 72)).heap.size (w.alloc (.cells #[.bool false, .int .i64 p] 72)) x) (by kernel_rfl) ((Below.refl _ _).drew.drew) (fun hHeld => ?_)
      refine tk 0 ⟨some 32, .move (.tmp 0), 40, "ref.go:57", #[], none⟩ (.pointer (some ⟨r.g, 0, none⟩)) ?_
      simp only [Act.put, List.setIfInBounds_toArray, List.set_cons_zero, List.set_cons_succ]
      refine tk 1 ⟨some 33, .nilCheck (.tmp 32), 0, "ref.go:57", #[⟨0, .data⟩], none⟩ (.pointer (some ⟨r.g, 0, none⟩)) ?_
      simp only [Act.put, List.setIfInBounds_toArray, List.set_cons_zero, List.set_cons_succ]
      refine tk 2 ⟨some 34, .fieldAddr 114 (.tmp 33) 1, 0, "ref.go:57", #[⟨1, .data⟩], none⟩ (.pointer (some ⟨r.g, 1, none⟩)) ?_
      simp only [Act.put, List.setIfInBounds_toArray, List.set_cons_zero, List.set_cons_succ]
      refine tk 3 ⟨some 35, .load 3 (.tmp 34), 3, "ref.go:57", #[⟨2, .data⟩], none⟩ (.int .i64 (m.ns : Int)) ?_ (hy := Or.inl ⟨by rfl, by intro w hSw; have hcc := (HX.out w hSw).2.2.2; go_simp⟩)
      simp only [Act.put, List.setIfInBounds_toArray, List.set_cons_zero, List.set_cons_succ]
      refine tk 4 ⟨some 36, .fieldAddr 72 (.tmp 3) 1, 0, "ref.go:57", #[], none⟩ (.pointer (some ⟨w.heap.size, 1, none⟩)) ?_
      simp only [Act.put, List.setIfInBounds_toArray, List.set_cons_zero, List.set_cons_succ]
      refine tk 5 ⟨some 37, .load 3 (.tmp 36), 3, "ref.go:57", #[⟨4, .data⟩], none⟩ (.int .i64 p) ?_ (hy := Or.inl ⟨by rfl, by intro w hSw; have hcc := (HX.out w hSw).2.1; go_simp⟩)
      simp only [Act.put, List.setIfInBounds_toArray, List.set_cons_zero, List.set_cons_succ]
      refine tk 6 ⟨some 38, .binOp .add 3 (.tmp 35) (.tmp 37) 3, 3, "ref.go:57", #[⟨3, .data⟩, ⟨5, .data⟩], none⟩ (.int .i64 ((m.ns : Int) + p)) ?_ (hy := Or.inl ⟨by rfl, by intro w hSw; go_simp; exact wrapI _ (by omega)⟩)
      simp only [Act.put, List.setIfInBounds_toArray, List.set_cons_zero, List.set_cons_succ]
      refine wpAnyH_ready (rs := [7]) (by kernel_rfl) (by simp) (AllReadyH.cons (o := ⟨some 4, .assign (.tmp 38), 3, "ref.go:57", #[⟨6, .data⟩, ⟨0, .phase⟩, ⟨1, .phase⟩, ⟨2, .phase⟩, ⟨3, .phase⟩, ⟨4, .phase⟩, ⟨5, .phase⟩, ⟨6, .phase⟩], none⟩) rfl (fun KQ hK => ?_) AllReadyH.nil)
      go_simp
      refine hK.out _ _ ((Below.refl _ _).drew.drew) (fun hHeld => ?_)
      clear hK KQ
      try simp only [Act.put, List.setIfInBounds_toArray, List.set_cons_zero, List.set_cons_succ]
      refine wpAnyH_done (by kernel_rfl) ?_ _
      clear hHeld
      go_wp2_with fail
      go_ret
      exact ⟨ret_int HR.out.symm, below_on hB.out ((Below.refl _ _).drew.drew)⟩
    · have HR := hid (HI2.out rfl p0 hq)
      clear HN HS1 HS2 HI1 HI2 hp
      go_wp2_with fail
      refine wp_region_held_drew (S := fun x => Below (w.alloc (.cells #[.bool false, .int .i64 p] 72)).heap.size (w.alloc (.cells #[.bool false, .int .i64 p] 72)) x) (by kernel_rfl) ((Below.refl _ _).drew) (fun hHeld => ?_)
      refine tk 0 ⟨some 19, .fieldAddr 72 (.tmp 3) 1, 0, "ref.go:56", #[], none⟩ (.pointer (some ⟨w.heap.size, 1, none⟩)) ?_
      simp only [Act.put, List.setIfInBounds_toArray, List.set_cons_zero, List.set_cons_succ]
      refine tk 1 ⟨some 20, .load 3 (.tmp 19), 3, "ref.go:56", #[⟨0, .data⟩], none⟩ (.int .i64 p) ?_ (hy := Or.inl ⟨by rfl, by intro w hSw; have hcc := (HX.out w hSw).2.1; go_simp⟩)
      simp only [Act.put, List.setIfInBounds_toArray, List.set_cons_zero, List.set_cons_succ]
      refine tk 2 ⟨some 21, .move (.tmp 0), 40, "ref.go:56", #[], none⟩ (.pointer (some ⟨r.g, 0, none⟩)) ?_
      simp only [Act.put, List.setIfInBounds_toArray, List.set_cons_zero, List.set_cons_succ]
      refine tk 3 ⟨some 22, .nilCheck (.tmp 21), 0, "ref.go:56", #[⟨2, .data⟩], none⟩ (.pointer (some ⟨r.g, 0, none⟩)) ?_
      simp only [Act.put, List.setIfInBounds_toArray, List.set_cons_zero, List.set_cons_succ]
      refine tk 4 ⟨some 23, .fieldAddr 114 (.tmp 22) 0, 0, "ref.go:56", #[⟨3, .data⟩], none⟩ (.pointer (some ⟨r.g, 0, none⟩)) ?_
      simp only [Act.put, List.setIfInBounds_toArray, List.set_cons_zero, List.set_cons_succ]
      refine tk 5 ⟨some 24, .load 112 (.tmp 23), 112, "ref.go:56", #[⟨4, .data⟩], none⟩ (.slice (some ⟨r.gp, 0, none⟩) m.P.length r.cap) ?_ (hy := Or.inl ⟨by rfl, by intro w hSw; have hcc := (HX.out w hSw).2.2.1; go_simp⟩)
      simp only [Act.put, List.setIfInBounds_toArray, List.set_cons_zero, List.set_cons_succ]
      refine tk 6 ⟨some 25, .call { callee := .builtin .len, args := #[.tmp 24], argTypes := #[112] }, 3, "ref.go:56", #[⟨5, .data⟩], none⟩ (.int .i64 (m.P.length : Int)) ?_
      simp only [Act.put, List.setIfInBounds_toArray, List.set_cons_zero, List.set_cons_succ]
      refine tk 7 ⟨some 26, .move (.tmp 0), 40, "ref.go:56", #[], none⟩ (.pointer (some ⟨r.g, 0, none⟩)) ?_
      simp only [Act.put, List.setIfInBounds_toArray, List.set_cons_zero, List.set_cons_succ]
      refine tk 8 ⟨some 27, .nilCheck (.tmp 26), 0, "ref.go:56", #[⟨7, .data⟩], none⟩ (.pointer (some ⟨r.g, 0, none⟩)) ?_
      simp only [Act.put, List.setIfInBounds_toArray, List.set_cons_zero, List.set_cons_succ]
      refine tk 9 ⟨some 28, .fieldAddr 114 (.tmp 27) 1, 0, "ref.go:56", #[⟨8, .data⟩], none⟩ (.pointer (some ⟨r.g, 1, none⟩)) ?_
      simp only [Act.put, List.setIfInBounds_toArray, List.set_cons_zero, List.set_cons_succ]
      refine tk 10 ⟨some 29, .load 3 (.tmp 28), 3, "ref.go:56", #[⟨9, .data⟩], none⟩ (.int .i64 (m.ns : Int)) ?_ (hy := Or.inl ⟨by rfl, by intro w hSw; have hcc := (HX.out w hSw).2.2.2; go_simp⟩)
      simp only [Act.put, List.setIfInBounds_toArray, List.set_cons_zero, List.set_cons_succ]
      refine tk 11 ⟨some 30, .binOp .sub 3 (.tmp 25) (.tmp 29) 3, 3, "ref.go:56", #[⟨6, .data⟩, ⟨10, .data⟩], none⟩ (.int .i64 ((m.P.length : Int) - (m.ns : Int))) ?_ (hy := Or.inl ⟨by rfl, by intro w hSw; go_simp; exact wrapI _ (by omega)⟩)
      simp only [Act.put, List.setIfInBounds_toArray, List.set_cons_zero, List.set_cons_succ]
      refine tk 12 ⟨some 31, .binOp .lss 3 (.tmp 20) (.tmp 30) 3, 4, "ref.go:56", #[⟨1, .data⟩, ⟨11, .data⟩], none⟩ (.bool false) ?_
      simp only [Act.put, List.setIfInBounds_toArray, List.set_cons_zero, List.set_cons_succ]
      refine wpAnyH_done (by kernel_rfl) ?_ _
      clear y0 y1 y2 y3
      clear hHeld
      obtain ⟨y0, y1, y2, y3⟩ := HX.out _ ((Below.refl _ _).drew)
      go_wp2_with fail
      go_ret
      exact ⟨ret_int HR.out.symm, below_on hB.out ((Below.refl _ _).drew)⟩
  · by_cases hq : p < (m.ns : Int)
    · have HR := hid (HS1.out rfl p0 hq)
      clear HN HS1 HS2 HI1 HI2 hp
      go_wp2_with fail
      refine wp_region_held_drew (S := fun x => Below (w.alloc (.cells #[.bool true, .int .i64 p] 72)).heap.size (w.alloc (.cells #[.bool true, .int .i64 p] 72)) x) (by kernel_rfl) ((Below.refl _ _).drew) (fun hHeld => ?_)
      refine tk 0 ⟨some 10, .fieldAddr 72 (.tmp 3) 1, 0, "ref.go:51", #[], none⟩ (.pointer (some ⟨w.heap.size, 1, none⟩)) ?_
      simp only [Act.put, List.setIfInBounds_toArray, List.set_cons_zero, List.set_cons_succ]
      refine tk 1 ⟨some 11, .load 3 (.tmp 10), 3, "ref.go:51", #[⟨0, .data⟩], none⟩ (.int .i64 p) ?_ (hy := Or.inl ⟨by rfl, by intro w hSw; have hcc := (HX.out w hSw).2.1; go_simp⟩)
      simp only [Act.put, List.setIfInBounds_toArray, List.set_cons_zero, List.set_cons_succ]
      refine tk 2 ⟨some 12, .move (.tmp 0), 40, "ref.go:51", #[], none⟩ (.pointer (some ⟨r.g, 0, none⟩)) ?_
      simp only [Act.put, List.setIfInBounds_toArray, List.set_cons_zero, List.set_cons_succ]
      refine tk 3 ⟨some 13, .nilCheck (.tmp 12), 0, "ref.go:51", #[⟨2, .data⟩], none⟩ (.pointer (some ⟨r.g, 0, none⟩)) ?_
      simp only [Act.put, List.setIfInBounds_toArray, List.set_cons_zero, List.set_cons_succ]
      refine tk 4 ⟨some 14, .fieldAddr 114 (.tmp 13) 1, 0, "ref.go:51", #[⟨3, .data⟩], none⟩ (.pointer (some ⟨r.g, 1, none⟩)) ?_
      simp only [Act.put, List.setIfInBounds_toArray, List.set_cons_zero, List.set_cons_succ]
      refine tk 5 ⟨some 15, .load 3 (.tmp 14), 3, "ref.go:51", #[⟨4, .data⟩], none⟩ (.int .i64 (m.ns : Int)) ?_ (hy := Or.inl ⟨by rfl, by intro w hSw; have hcc := (HX.out w hSw).2.2.2; go_simp⟩)
      simp only [Act.put, List.setIfInBounds_toArray, List.set_cons_zero, List.set_cons_succ]
      refine tk 6 ⟨some 16, .binOp .lss 3 (.tmp 11) (.tmp 15) 3, 4, "ref.go:51", #[⟨1, .data⟩, ⟨5, .data⟩], none⟩ (.bool true) ?_
      simp only [Act.put, List.setIfInBounds_toArray, List.set_cons_zero, List.set_cons_succ]
      refine wpAnyH_done (by kernel_rfl) ?_ _
      clear y0 y1 y2 y3
      clear hHeld
      obtain ⟨y0, y1, y2, y3⟩ := HX.out _ ((Below.refl _ _).drew)
      go_wp2_with fail
      go_ret
      exact ⟨ret_int HR.out.symm, below_on hB.out ((Below.refl _ _).drew)⟩
    · have HR := hid (HS2.out rfl p0 hq)
      clear HN HS1 HS2 HI1 HI2 hp
      go_wp2_with fail
      refine wp_region_held_drew (S := fun x => Below (w.alloc (.cells #[.bool true, .int .i64 p] 72)).heap.size (w.alloc (.cells #[.bool true, .int .i64 p] 72)) x) (by kernel_rfl) ((Below.refl _ _).drew) (fun hHeld => ?_)
      refine tk 0 ⟨some 10, .fieldAddr 72 (.tmp 3) 1, 0, "ref.go:51", #[], none⟩ (.pointer (some ⟨w.heap.size, 1, none⟩)) ?_
      simp only [Act.put, List.setIfInBounds_toArray, List.set_cons_zero, List.set_cons_succ]
      refine tk 1 ⟨some 11, .load 3 (.tmp 10), 3, "ref.go:51", #[⟨0, .data⟩], none⟩ (.int .i64 p) ?_ (hy := Or.inl ⟨by rfl, by intro w hSw; have hcc := (HX.out w hSw).2.1; go_simp⟩)
      simp only [Act.put, List.setIfInBounds_toArray, List.set_cons_zero, List.set_cons_succ]
      refine tk 2 ⟨some 12, .move (.tmp 0), 40, "ref.go:51", #[], none⟩ (.pointer (some ⟨r.g, 0, none⟩)) ?_
      simp only [Act.put, List.setIfInBounds_toArray, List.set_cons_zero, List.set_cons_succ]
      refine tk 3 ⟨some 13, .nilCheck (.tmp 12), 0, "ref.go:51", #[⟨2, .data⟩], none⟩ (.pointer (some ⟨r.g, 0, none⟩)) ?_
      simp only [Act.put, List.setIfInBounds_toArray, List.set_cons_zero, List.set_cons_succ]
      refine tk 4 ⟨some 14, .fieldAddr 114 (.tmp 13) 1, 0, "ref.go:51", #[⟨3, .data⟩], none⟩ (.pointer (some ⟨r.g, 1, none⟩)) ?_
      simp only [Act.put, List.setIfInBounds_toArray, List.set_cons_zero, List.set_cons_succ]
      refine tk 5 ⟨some 15, .load 3 (.tmp 14), 3, "ref.go:51", #[⟨4, .data⟩], none⟩ (.int .i64 (m.ns : Int)) ?_ (hy := Or.inl ⟨by rfl, by intro w hSw; have hcc := (HX.out w hSw).2.2.2; go_simp⟩)
      simp only [Act.put, List.setIfInBounds_toArray, List.set_cons_zero, List.set_cons_succ]
      refine tk 6 ⟨some 16, .binOp .lss 3 (.tmp 11) (.tmp 15) 3, 4, "ref.go:51", #[⟨1, .data⟩, ⟨5, .data⟩], none⟩ (.bool false) ?_
      simp only [Act.put, List.setIfInBounds_toArray, List.set_cons_zero, List.set_cons_succ]
      refine wpAnyH_done (by kernel_rfl) ?_ _
      clear y0 y1 y2 y3
      clear hHeld
      obtain ⟨y0, y1, y2, y3⟩ := HX.out _ ((Below.refl _ _).drew)
      go_wp2_with fail
      go_ret
      exact ⟨ret_int HR.out.symm, below_on hB.out ((Below.refl _ _).drew)⟩
theorem rsecure_any (w : World) (r : Rf) (m : MS) (h : RMem w r m) : Calls Tryz.prog 56 #[ptr r.g] w fun x w' => x = .returned (.int .i64 (m.ns : Int)) ∧ w' = w := by
  have c1 := h.cel.cell 1
  clear h
  simp only [ptr, List.getElem?_cons_zero, List.getElem?_cons_succ] at *
  go_enter Tryz.func56, Tryz.ntmps56
  go_wp2_with fail
  go_ret
  exact ⟨rfl, rfl⟩
end Go.Proofs.YtgbpbfnpeeciaaaGreat
