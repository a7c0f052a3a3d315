import Derived.Test.YtildhjiddidghaaGreatDoorP18
import Derived.Test.YtildhjiddidghaaGreatDoorP01
import Derived.Test.YtildhjiddidghaaGreatDoorP17
namespace Go.Proofs.YtildhjiddidghaaGreatDoor
open Go.RowKit
theorem wpList_alloc_pg {ops : Array Oper} {rest : List Oper} {o : Oper} {a : Act} {w : World} {Q : Exit → Act → World → Prop} (hgd : o.guard = none) (ho : o.op = .alloc 156)
    (h : ∀ w', Cel w' w.heap.size 156 (u32s zs) → Below w.heap.size w w' → w'.heap.size = w.heap.size + 1 → wpList Tryz.prog ops Q rest (a.put o.dst (.pointer (some ⟨w.heap.size, 0, none⟩))) w') : wpList Tryz.prog ops Q (o :: rest) a w := by
  refine wpList_plain hgd fun K hK => ?_
  have hi := info85
  obtain ⟨i, hi, hzz⟩ := Option.map_eq_some_iff.1 hi
  simp only [Prod.mk.injEq] at hzz
  have hz : ∀ w, (zeroValue 156).run Tryz.prog w = .ok (.agg (u32s zs).toArray) w := fun w => by simp [zeroValue, typeInfo, hi, hzz.1]
  have hn : (newVar 156 (.agg (u32s zs).toArray)).run Tryz.prog w = .ok ⟨w.heap.size, 0, none⟩ (w.alloc (.cells (u32s zs).toArray 156)) := by
    simp [newVar, newRow, Value.cells]
  unfold Oper.wp execOp
  simp only [ho, Instr.alloc, Sem.run_bind, Sem.run_pure, hz, hn, Result.andThen_ok]
  exact hK _ _ (h _ (Cel.new _ _ _) (below_one _ _) (by simp))
theorem under75 : Tryz.prog.underlying 88 = some (.slice 153) := by kernel_rfl
theorem info82 : (Tryz.prog.info? 153).map (fun i => (i.zero, i.size, i.bytes)) = some (some (.pointer none), 1, 8) := by kernel_rfl
structure ZP (w w' : World) (g : Nat) (bs : List Nat) (n : Nat) : Prop where
  below : Below w.heap.size w w'
  hg : w.heap.size ≤ g
  cel : Cel w' g 153 (bs.map ptr ++ List.replicate (n - bs.length) (.pointer none))
  le : bs.length ≤ n
  pages : ∀ b ∈ bs, w.heap.size ≤ b ∧ Cel w' b 156 (u32s zs)
  nodup : bs.Nodup
theorem ZP.on {w w' w2 : World} {g : Nat} {bs : List Nat} {n : Nat} (h : ZP w w' g bs n) (hb : Below w'.heap.size w' w2) : ZP w w2 g bs n :=
  ⟨below_on h.below hb, h.hg, h.cel.on hb, h.le, fun b hbs => ⟨(h.pages b hbs).1, (h.pages b hbs).2.on hb⟩, h.nodup⟩
theorem ZP.step {w w' w2 : World} {g : Nat} {bs : List Nat} {n : Nat} (h : ZP w w' g bs n) (hlt : bs.length < n) (hb : Below w'.heap.size w' w2) (hc : Cel w2 w'.heap.size 156 (u32s zs)) :
    ZP w (w2.setCell ⟨g, bs.length, none⟩ (.pointer (some ⟨w'.heap.size, 0, none⟩))) g (bs ++ [w'.heap.size]) n := by
  have h2 := h.on hb
  have hgl := h.cel.lt
  have hne : ∀ b, b ≠ g → ∀ t cs, Cel w2 b t cs → Cel (w2.setCell ⟨g, bs.length, none⟩ (.pointer (some ⟨w'.heap.size, 0, none⟩))) b t cs := fun b hbg t cs hcc => hcc.but (ButL.setCell (G := [g]) w2 g _ _ (by simp)) (by rw [List.mem_singleton]; exact hbg)
  refine ⟨h2.below.setCell (p := ⟨g, bs.length, none⟩) h.hg _, h.hg, ?_, by simp; omega, ?_, ?_⟩
  · have := h2.cel.setCell bs.length (.pointer (some ⟨w'.heap.size, 0, none⟩))
    have e : (bs.map ptr ++ List.replicate (n - bs.length) (Value.pointer none)).set bs.length (.pointer (some ⟨w'.heap.size, 0, none⟩)) = (bs ++ [w'.heap.size]).map ptr ++ List.replicate (n - (bs ++ [w'.heap.size]).length) (Value.pointer none) := by
      rw [List.set_append_right _ _ (by simp)]
      obtain ⟨k, hk⟩ : ∃ k, n - bs.length = k + 1 := ⟨n - bs.length - 1, by omega⟩
      have hk2 : n - (bs ++ [w'.heap.size]).length = k := by simp; omega
      rw [hk, hk2]
      simp [List.replicate_succ, ptr]
    rw [e] at this
    exact this
  · intro b hb'
    rw [List.mem_append, List.mem_singleton] at hb'
    rcases hb' with hb' | rfl
    · refine ⟨(h.pages b hb').1, hne b ?_ _ _ (h2.pages b hb').2⟩
      intro e; subst e
      exact absurd (h.cel.ty (h.pages _ hb').2) (by decide)
    · exact ⟨h.below.size, hne _ (by omega) _ _ hc⟩
  · rw [List.nodup_append]
    refine ⟨h.nodup, by simp, ?_⟩
    intro a ha b hb'
    rw [List.mem_singleton] at hb'
    subst hb'
    have := (h.pages a ha).2.lt
    omega
theorem zeroPages_any (w : World) (n : Nat) (hn : n ≤ 64) :
    Calls Tryz.prog 60 #[.int .i64 (n : Int)] w fun x w' => ∃ g bs, x = .returned (.slice (some ⟨g, 0, none⟩) n n) ∧ ZP w w' g bs n ∧ bs.length = n := by
  have n1 : (n : Int) ≤ 64 := by omega
  go_enter Tryz.func60, Tryz.ntmps60
  go_wp2_with (first | (at_make; refine wpList_make_cel rfl _ _ 88 153 rfl (.pointer none) 8 under75 info82 rfl n _ _ rfl rfl rfl rfl (by omega) (by omega) ?_))
  intro w1 hc1 hb1 hs1
  have HZ : Hid (ZP w w1 w.heap.size [] n) := hid ⟨hb1, Nat.le_refl _, by simpa using hc1, by simp, by simp, by simp⟩
  clear hc1 hb1 hs1
  generalize w.heap.size = g at *
  go_wp2_with fail
  go_loopw [4, 9] (fun _ v wr => ∃ bs : List Nat, v = .int .i64 (bs.length : Int) ∧ Hid (ZP w wr g bs n)) (fun _ v _ => n - (intOf v).toNat)
  case atStart => exact ⟨[], rfl, HZ⟩
  case round =>
    obtain ⟨bs, rfl, HQ⟩ := hrel
    have hle := HQ.out.le
    by_cases hlt : bs.length < n
    · have c1 : (bs.length : Int) < (n : Int) := by omega
      have q1 : (bs.length : Int) ≤ 64 := by omega
      have HG := hid HQ.out.cel
      go_wp2_with (first | (refine wpList_alloc_pg rfl rfl ?_))
      intro w2 hc2 hb2 hs2
      have HS := hid (HQ.out.step hlt hb2 hc2)
      have fz := (HG.out.on hb2).free bs.length
      have cz : w2.cell? ⟨g, bs.length, none⟩ = some (.pointer none) := by
        rw [(HG.out.on hb2).cell bs.length, List.getElem?_append_right (by simp)]
        simp [List.getElem?_replicate]; omega
      clear hc2 hb2 hs2
      go_wp2_with fail
      go_roundw
      case measure => simp [intOf] <;> omega
      case rel => exact ⟨bs ++ [wr.heap.size], by simp, HS⟩
    · have hqe : bs.length = n := by omega
      have c1 : ¬ (bs.length : Int) < (n : Int) := by omega
      go_wp2_with fail
      go_ret
      exact ⟨g, rfl, bs, HQ.out, hqe⟩
def MS.new (s n : Nat) : MS := ⟨s, List.replicate (s + n) zs, 0⟩
theorem rep_p (k n : Nat) (hk : k < n) : (List.replicate n zs).getD k [] = zs := by
  simp [List.getD_eq_getElem?_getD, hk]
theorem getD_mem {l : List Nat} {k : Nat} (hk : k < l.length) : l.getD k 0 ∈ l := by
  rw [List.getD_eq_getElem?_getD, List.getElem?_eq_getElem hk]; simp
theorem mem_of {w w1 w2 w3 : World} {g1 g2 gm : Nat} {bs1 bs2 : List Nat} {s n : Nat} (h1 : ZP w w1 g1 bs1 s) (h2 : ZP w1 w2 g2 bs2 n) (hs : bs1.length = s) (hn : bs2.length = n) (hm : s + n ≤ 128) (hb : Below w2.heap.size w2 w3) (hgm : w.heap.size ≤ gm) (c : Int)
    (hc : Cel w3 gm 90 [.slice (some ⟨g1, 0, none⟩) s s, .slice (some ⟨g2, 0, none⟩) n n, .int .i64 c]) (P : List (List Int)) (hP : P = List.replicate (s + n) zs) :
    Mem w3 ⟨gm, g1, g2, bs1 ++ bs2⟩ ⟨s, P, c⟩ ∧ (∀ k ∈ (⟨gm, g1, g2, bs1 ++ bs2⟩ : Fp).all, w.heap.size ≤ k) := by
  subst hP
  have h1' := (h1.on h2.below).on hb
  have h2' := h2.on hb
  refine ⟨⟨?_, ?_, ?_, ?_, ?_, ?_, ?_, ?_, ?_⟩, ?_⟩
  · simpa using hc
  · have := h1'.cel
    simpa [hs, List.take_left' hs] using this
  · have := h2'.cel
    simpa [hn, List.drop_left' hs] using this
  · simp [hs, hn]
  · simp
  · simpa using hm
  · intro k hk
    simp only [List.length_replicate] at hk
    have e : (⟨s, List.replicate (s + n) zs, c⟩ : MS).p k = zs := rep_p k (s + n) hk
    rw [e]
    have hmem := getD_mem (l := bs1 ++ bs2) (k := k) (by simp [hs, hn]; exact hk)
    have hb' : (⟨gm, g1, g2, bs1 ++ bs2⟩ : Fp).b k ∈ bs1 ++ bs2 := hmem
    rw [List.mem_append] at hb'
    rcases hb' with hb' | hb'
    · exact (h1'.pages _ hb').2
    · exact (h2'.pages _ hb').2
  · intro k hk
    simp only [List.length_replicate] at hk
    have e : (⟨s, List.replicate (s + n) zs, c⟩ : MS).p k = zs := rep_p k (s + n) hk
    rw [e, zs_len]
  · rw [List.nodup_append]
    refine ⟨h1.nodup, h2.nodup, ?_⟩
    intro a ha b hb' e
    subst e
    have := (h1.pages a ha).2.lt
    have := (h2.pages a hb').1
    omega
  · intro k hk
    have := h1.below.size
    simp only [Fp.all, List.mem_cons, List.mem_append] at hk
    rcases hk with rfl | rfl | rfl | hk | hk
    · exact hgm
    · exact h1.hg
    · have := h2.hg; omega
    · exact (h1.pages k hk).1
    · have := (h2.pages k hk).1; omega
structure NewMem (w w' : World) (f : Fp) (m : MS) : Prop where
  mem : Mem w' f m
  below : Below w.heap.size w w'
  new : ∀ k ∈ f.all, w.heap.size ≤ k
theorem new_any (w : World) (s n : Nat) (s1 : 1 ≤ s) (s2 : s ≤ 64) (n1 : 1 ≤ n) (n2 : n ≤ 64) :
    Calls Tryz.prog 26 #[.int .i64 (s : Int), .int .i64 (n : Int)] w fun x w' => ∃ f, x = .returned (.tuple #[ptr f.gm, .int .i64 0]) ∧ NewMem w w' f (MS.new s n) := by
  have H1 := hid (zeroPages_any w s s2)
  have a1 : (1 : Int) ≤ (s : Int) := by omega
  have a2 : (s : Int) ≤ 64 := by omega
  have a3 : (1 : Int) ≤ (n : Int) := by omega
  have a4 : (n : Int) ≤ 64 := by omega
  have HM : Hid (s + n ≤ 128) := hid (by omega)
  have HN : Hid (n ≤ 64) := n2
  clear s1 s2 n1 n2
  go_enter Tryz.func26, Tryz.ntmps26
  go_wp2_with fail
  refine H1.out.mono ?_
  rintro x w1 ⟨g1, bs1, rfl, hz1, hl1⟩
  have HZ1 := hid hz1
  have HL1 := hid hl1
  have H2 := hid (zeroPages_any w1 n HN.out)
  clear hz1 hl1 H1
  go_wp2_with fail
  refine H2.out.mono ?_
  rintro x w2 ⟨g2, bs2, rfl, hz2, hl2⟩
  have HZ2 := hid hz2
  have HL2 := hid hl2
  clear hz2 hl2 H2
  go_wp2_with fail
  go_ret2
  have h := mem_of HZ1.out HZ2.out HL1.out HL2.out HM.out (below_one w2 (.cells #[.slice (some ⟨g1, 0, none⟩) s s, .slice (some ⟨g2, 0, none⟩) n n, .int .i64 0] 90)) (gm := w2.heap.size) (by have := HZ1.out.below.size; have := HZ2.out.below.size; omega) 0 (Cel.new _ _ [.slice (some ⟨g1, 0, none⟩) s s, .slice (some ⟨g2, 0, none⟩) n n, .int .i64 0]) _ rfl
  exact ⟨⟨w2.heap.size, g1, g2, bs1 ++ bs2⟩, rfl, h.1, below_on (below_on HZ1.out.below HZ2.out.below) (below_one _ _), h.2⟩
end Go.Proofs.YtildhjiddidghaaGreatDoor
namespace Go.Proofs.YtildhjiddidghaaGreatDoor
open Go.RowKit
theorem zeroPages_128 (w : World) (n : Nat) (hn : n ≤ 128) :
    Calls Tryz.prog 60 #[.int .i64 (n : Int)] w fun x w' => ∃ g bs, x = .returned (.slice (some ⟨g, 0, none⟩) n n) ∧ ZP w w' g bs n ∧ bs.length = n := by
  have n1 : (n : Int) ≤ 128 := by omega
  go_enter Tryz.func60, Tryz.ntmps60
  go_wp2_with (first | (at_make; refine wpList_make_cel rfl _ _ 88 153 rfl (.pointer none) 8 under75 info82 rfl n _ _ rfl rfl rfl rfl (by omega) (by omega) ?_))
  intro w1 hc1 hb1 hs1
  have HZ : Hid (ZP w w1 w.heap.size [] n) := hid ⟨hb1, Nat.le_refl _, by simpa using hc1, by simp, by simp, by simp⟩
  clear hc1 hb1 hs1
  generalize w.heap.size = g at *
  go_wp2_with fail
  go_loopw [4, 9] (fun _ v wr => ∃ bs : List Nat, v = .int .i64 (bs.length : Int) ∧ Hid (ZP w wr g bs n)) (fun _ v _ => n - (intOf v).toNat)
  case atStart => exact ⟨[], rfl, HZ⟩
  case round =>
    obtain ⟨bs, rfl, HQ⟩ := hrel
    have hle := HQ.out.le
    by_cases hlt : bs.length < n
    · have c1 : (bs.length : Int) < (n : Int) := by omega
      have q1 : (bs.length : Int) ≤ 128 := by omega
      have HG := hid HQ.out.cel
      go_wp2_with (first | (refine wpList_alloc_pg rfl rfl ?_))
      intro w2 hc2 hb2 hs2
      have HS := hid (HQ.out.step hlt hb2 hc2)
      have fz := (HG.out.on hb2).free bs.length
      have cz : w2.cell? ⟨g, bs.length, none⟩ = some (.pointer none) := by
        rw [(HG.out.on hb2).cell bs.length, List.getElem?_append_right (by simp)]
        simp [List.getElem?_replicate]; omega
      clear hc2 hb2 hs2
      go_wp2_with fail
      go_roundw
      case measure => simp [intOf] <;> omega
      case rel => exact ⟨bs ++ [wr.heap.size], by simp, HS⟩
    · have hqe : bs.length = n := by omega
      have c1 : ¬ (bs.length : Int) < (n : Int) := by omega
      go_wp2_with fail
      go_ret
      exact ⟨g, rfl, bs, HQ.out, hqe⟩
theorem wp_store_pg {o : Oper} {a : Act} {w : World} {K : Act → World → Prop} {Q : Exit → Act → World → Prop} (x y : Operand) (ho : o.op = .store 156 x y)
    (g : Nat) (L L0 : List Int) (hx : a.eval x = .pointer (some ⟨g, 0, none⟩)) (hy : a.eval y = pgV L) (hg : Cel w g 156 (u32s L0)) (h0 : L0.length = 1024) (hL : L.length = 1024)
    (h : ∀ w', Cel w' g 156 (u32s L) → ButL [g] w w' → w'.heap.size = w.heap.size → K (a.put o.dst undef) w') : o.wp Tryz.prog a w K Q := by
  have hs : (Instr.storeAt 156 (.pointer (some ⟨g, 0, none⟩)) (.agg (u32s L).toArray)).run Tryz.prog w = .ok () (w.setRow g (u32s L).toArray) := by
    simp only [Instr.storeAt, Instr.sureAddr, Sem.run_bind, Sem.run_pure, Result.andThen]
    exact run_storeVar_row w g 156 156 _ _ hg (by rw [size85, List.size_toArray, u32s_len, hL]) (by rw [List.size_toArray, List.size_toArray, u32s_len, u32s_len, h0, hL]) (u32s_all L)
  unfold Oper.wp execOp
  rw [pgV] at hy
  simp only [ho, hx, hy, Sem.run_bind, Sem.run_pure, hs, Result.andThen_ok]
  exact h _ (hg.set _) (.setRow _ _ _ (by simp)) (by simp)
structure CP (w w' : World) (g : Nat) (bs : List Nat) (Q : List (List Int)) : Prop where
  below : Below w.heap.size w w'
  hg : w.heap.size ≤ g
  cel : Cel w' g 153 (bs.map ptr)
  len : bs.length = Q.length
  pages : ∀ k, k < Q.length → w.heap.size ≤ bs.getD k 0 ∧ Cel w' (bs.getD k 0) 156 (u32s (Q.getD k []))
  full : ∀ k, k < Q.length → (Q.getD k []).length = 1024
  nodup : bs.Nodup
theorem CP.on {w w' w2 : World} {g : Nat} {bs : List Nat} {Q : List (List Int)} (h : CP w w' g bs Q) (hb : Below w'.heap.size w' w2) : CP w w2 g bs Q :=
  ⟨below_on h.below hb, h.hg, h.cel.on hb, h.len, fun k hk => ⟨(h.pages k hk).1, (h.pages k hk).2.on hb⟩, h.full, h.nodup⟩
theorem CP.start {w w' : World} {g : Nat} {bs : List Nat} {n : Nat} (h : ZP w w' g bs n) (hn : bs.length = n) : CP w w' g bs (List.replicate n zs) := by
  refine ⟨h.below, h.hg, ?_, by simp [hn], fun k hk => ?_, fun k hk => ?_, h.nodup⟩
  · have := h.cel; simpa [hn] using this
  · simp only [List.length_replicate] at hk
    rw [rep_p k n hk]
    exact h.pages _ (getD_mem (by omega))
  · simp only [List.length_replicate] at hk
    rw [rep_p k n hk, zs_len]
theorem getD_inj {bs : List Nat} (h : bs.Nodup) {j k : Nat} (hj : j < bs.length) (hk : k < bs.length) (he : bs.getD j 0 = bs.getD k 0) : j = k := by
  simp only [List.getD_eq_getElem?_getD, List.getElem?_eq_getElem hj, List.getElem?_eq_getElem hk, Option.getD_some] at he
  rcases Nat.lt_trichotomy j k with hlt | e | hlt
  · exact absurd he (List.pairwise_iff_getElem.1 h j k hj hk hlt)
  · exact e
  · exact absurd he.symm (List.pairwise_iff_getElem.1 h k j hk hj hlt)
theorem CP.set {w w' w2 : World} {g : Nat} {bs : List Nat} {Q : List (List Int)} (h : CP w w' g bs Q) (k : Nat) (hk : k < Q.length) (L : List Int) (hL : L.length = 1024) (hb : ButL [bs.getD k 0] w' w2) (hc : Cel w2 (bs.getD k 0) 156 (u32s L)) : CP w w2 g bs (Q.set k L) := by
  have hp := h.pages k hk
  refine ⟨h.below.trans (hb.below (fun x hx => by rw [List.mem_singleton] at hx; rw [hx]; exact hp.1) h.below.size), h.hg, h.cel.but hb (fun hm => by rw [List.mem_singleton] at hm; have := h.cel; rw [hm] at this; exact absurd (this.ty hp.2) (by decide)), by simp [h.len], fun j hj => ?_, fun j hj => ?_, h.nodup⟩
  · simp only [List.length_set] at hj
    by_cases e : j = k
    · subst e
      have e2 : (Q.set j L).getD j [] = L := by rw [List.getD_eq_getElem?_getD, List.getElem?_set_self hj]; rfl
      rw [e2]
      exact ⟨hp.1, hc⟩
    · have e2 : (Q.set k L).getD j [] = Q.getD j [] := by rw [List.getD_eq_getElem?_getD, List.getElem?_set_ne (Ne.symm e), ← List.getD_eq_getElem?_getD]
      rw [e2]
      refine ⟨(h.pages j hj).1, (h.pages j hj).2.but hb (fun hm => ?_)⟩
      rw [List.mem_singleton] at hm
      exact e (getD_inj h.nodup (by rw [h.len]; exact hj) (by rw [h.len]; exact hk) hm)
  · simp only [List.length_set] at hj
    by_cases e : j = k
    · subst e
      have e2 : (Q.set j L).getD j [] = L := by rw [List.getD_eq_getElem?_getD, List.getElem?_set_self hj]; rfl
      rw [e2, hL]
    · have e2 : (Q.set k L).getD j [] = Q.getD j [] := by rw [List.getD_eq_getElem?_getD, List.getElem?_set_ne (Ne.symm e), ← List.getD_eq_getElem?_getD]
      rw [e2]; exact h.full j hj
structure RP (w : World) (g : Nat) (bs : List Nat) (Q : List (List Int)) : Prop where
  cel : Cel w g 153 (bs.map ptr)
  len : bs.length = Q.length
  pages : ∀ k, k < Q.length → Cel w (bs.getD k 0) 156 (u32s (Q.getD k []))
  full : ∀ k, k < Q.length → (Q.getD k []).length = 1024
theorem RP.on {w w2 : World} {g : Nat} {bs : List Nat} {Q : List (List Int)} (h : RP w g bs Q) (hb : Below w.heap.size w w2) : RP w2 g bs Q :=
  ⟨h.cel.on hb, h.len, fun k hk => (h.pages k hk).on hb, h.full⟩
theorem RP.below' {w w2 : World} {g : Nat} {bs : List Nat} {Q : List (List Int)} (h : RP w g bs Q) (hb : Below w.heap.size w w2) : RP w2 g bs Q := h.on hb
theorem RP.at {w : World} {g : Nat} {bs : List Nat} {Q : List (List Int)} (h : RP w g bs Q) (k : Nat) (hk : k < Q.length) : w.cell? ⟨g, k, none⟩ = some (.pointer (some ⟨bs.getD k 0, 0, none⟩)) := by
  have := h.len
  rw [h.cel.cell k, List.getElem?_map, List.getElem?_eq_getElem (by omega)]
  simp [ptr, List.getD_eq_getElem?_getD, List.getElem?_eq_getElem (show k < bs.length by omega)]
theorem set_take (Q : List (List Int)) (i : Nat) (hi : i < Q.length) : (Q.take i ++ List.replicate (Q.length - i) zs).set i (Q.getD i []) = Q.take (i + 1) ++ List.replicate (Q.length - (i + 1)) zs := by
  have h1 : (Q.take i).length = i := by rw [List.length_take]; omega
  rw [List.set_append_right _ _ (by omega), h1, Nat.sub_self]
  obtain ⟨k, hk⟩ : ∃ k, Q.length - i = k + 1 := ⟨Q.length - i - 1, by omega⟩
  have hk2 : Q.length - (i + 1) = k := by omega
  rw [hk, hk2, List.replicate_succ, List.set_cons_zero, List.take_succ_eq_append_getElem hi, List.getD_eq_getElem?_getD, List.getElem?_eq_getElem hi]
  simp only [List.append_assoc, List.singleton_append, Option.getD_some]
set_option maxRecDepth 40000 in
set_option maxHeartbeats 4000000 in
theorem clonePages_any (w : World) (g : Nat) (bs : List Nat) (Q : List (List Int)) (h : RP w g bs Q) (hq : Q.length ≤ 128) (c : Nat) :
    Calls Tryz.prog 85 #[.slice (some ⟨g, 0, none⟩) Q.length c] w fun x w' => ∃ g' bs', x = .returned (.slice (some ⟨g', 0, none⟩) Q.length Q.length) ∧ CP w w' g' bs' Q := by
  have n1 : (Q.length : Int) ≤ 128 := by omega
  have HZ := hid (zeroPages_128 w Q.length hq)
  have H := hid h
  clear h
  go_enter Tryz.func85, Tryz.ntmps85
  go_wp2_with fail
  refine HZ.out.mono ?_
  rintro x w1 ⟨g', bs', rfl, hz, hl⟩
  have HC := hid (CP.start hz hl)
  clear hz hl HZ
  have e0 : List.replicate Q.length zs = Q.take 0 ++ List.replicate (Q.length - 0) zs := by simp
  rw [e0] at HC
  clear e0
  go_wp2_with fail
  go_loopw [4, 5, 11] (fun _ _ i wr => ∃ j : Nat, j ≤ Q.length ∧ i = .int .i64 (j : Int) ∧ Hid (CP w wr g' bs' (Q.take j ++ List.replicate (Q.length - j) zs))) (fun _ _ i _ => Q.length - (intOf i).toNat)
  case atStart => exact ⟨0, Nat.zero_le _, rfl, HC⟩
  case round =>
    obtain ⟨j, hj, rfl, HQ⟩ := hrel
    clear HC
    by_cases hlt : j < Q.length
    · have c1 : (j : Int) < (Q.length : Int) := by omega
      have j1 : (j : Int) ≤ 128 := by omega
      have HS := hid (set_take Q j hlt)
      have HRP := hid (H.out.below' HQ.out.below)
      have y0 := HRP.out.at j hlt
      have hlen : (Q.take j ++ List.replicate (Q.length - j) zs).length = Q.length := by simp; omega
      have HL := hid hlen
      have HCP : Hid (wr.cell? ⟨g', j, none⟩ = some (.pointer (some ⟨bs'.getD j 0, 0, none⟩))) := hid (RP.at ⟨HQ.out.cel, HQ.out.len, fun k hk => (HQ.out.pages k hk).2, HQ.out.full⟩ j (by omega))
      have HPN : Hid (w.heap.size ≤ bs'.getD j 0) := hid (HQ.out.pages j (by omega)).1
      have HPC := hid (HQ.out.pages j (by omega)).2
      have HPF := hid (HQ.out.full j (by omega))
      have HSC := hid (HRP.out.pages j hlt)
      have HSF := hid (HRP.out.full j hlt)
      have HSL : Hid (bs.getD j 0 < w.heap.size) := hid (H.out.pages j hlt).lt
      have HGL : Hid (g' ≠ bs'.getD j 0) := hid (fun e => by have h1 := HQ.out.cel; rw [e] at h1; exact absurd (h1.ty HPC.out) (by decide))
      clear hlen
      generalize hQ1 : (Q.take j ++ List.replicate (Q.length - j) zs) = Q1 at *
      clear hQ1
      generalize hQ2 : Q1.getD j [] = L0 at *
      clear hQ2
      generalize hL1 : Q.getD j [] = L1 at *
      generalize hpp : bs'.getD j 0 = p' at *
      generalize bs.getD j 0 = p at *
      clear hL1
      have HX : Hid (∀ x, ButL [p'] wr x → x.cell? ⟨g', j, none⟩ = some (.pointer (some ⟨p', 0, none⟩))) := hid (fun x hx => by rw [(HQ.out.cel.but hx (by rw [List.mem_singleton]; exact HGL.out)).cell j, ← HQ.out.cel.cell j]; exact HCP.out)
      go_wp2_with fail
      refine wp_region_held_drew (S := fun x => ButL [p'] wr x) (by kernel_rfl) (.of (Below.refl _ _).drew) (fun hHeld => ?_)
      refine tk 0 ⟨some 16, .move (.tmp 3), 88, "page.go:21", #[], none⟩ (.slice (some ⟨g', 0, none⟩) Q.length Q.length) ?_
      simp only [Act.put, List.setIfInBounds_toArray, List.set_cons_zero, List.set_cons_succ]
      refine tk 1 ⟨some 17, .move (.tmp 4), 3, "page.go:21", #[], none⟩ (.int .i64 (j : Int)) ?_
      simp only [Act.put, List.setIfInBounds_toArray, List.set_cons_zero, List.set_cons_succ]
      refine tk 2 ⟨some 18, .indexAddr 88 (.tmp 16) (.tmp 17), 0, "page.go:21", #[⟨0, .data⟩, ⟨1, .data⟩], none⟩ (.pointer (some ⟨g', j, none⟩)) ?_
      simp only [Act.put, List.setIfInBounds_toArray, List.set_cons_zero, List.set_cons_succ]
      refine tk 3 ⟨some 19, .load 153 (.tmp 18), 153, "page.go:21", #[⟨2, .data⟩], none⟩ (.pointer (some ⟨p', 0, none⟩)) ?_ (hy := Or.inl ⟨by rfl, by intro w hSw; have hcc := HX.out w hSw; go_simp⟩)
      simp only [Act.put, List.setIfInBounds_toArray, List.set_cons_zero, List.set_cons_succ]
      refine tk 4 ⟨some 20, .move (.tmp 5), 153, "page.go:21", #[], none⟩ (.pointer (some ⟨p, 0, none⟩)) ?_
      simp only [Act.put, List.setIfInBounds_toArray, List.set_cons_zero, List.set_cons_succ]
      refine tk 5 ⟨some 21, .nilCheck (.tmp 20), 0, "page.go:21", #[⟨4, .data⟩], none⟩ (.pointer (some ⟨p, 0, none⟩)) ?_
      simp only [Act.put, List.setIfInBounds_toArray, List.set_cons_zero, List.set_cons_succ]
      refine tk 6 ⟨some 22, .load 156 (.tmp 21), 156, "page.go:21", #[⟨5, .data⟩], none⟩ (pgV L1) ?_ (hy := yieldsIf_load_mid (by rfl) _ _ rfl _ _ rfl _ _ (fun w hSw => (HSC.out.but hSw (by rw [List.mem_singleton]; have := HSL.out; have := HPN.out; omega)).range) under85 rfl (by rw [size85, u32s_len, HSF.out]))
      simp only [Act.put, List.setIfInBounds_toArray, List.set_cons_zero, List.set_cons_succ]
      refine tk 7 ⟨some 23, .nilCheck (.tmp 19), 0, "page.go:21", #[⟨3, .data⟩, ⟨0, .phase⟩, ⟨1, .phase⟩, ⟨2, .phase⟩, ⟨3, .phase⟩, ⟨4, .phase⟩, ⟨5, .phase⟩, ⟨6, .phase⟩], none⟩ (.pointer (some ⟨p', 0, none⟩)) ?_
      simp only [Act.put, List.setIfInBounds_toArray, List.set_cons_zero, List.set_cons_succ]
      refine wpAnyH_ready (rs := [8]) (by kernel_rfl) (by simp) (AllReadyH.cons (o := ⟨none, .store 156 (.tmp 23) (.tmp 22), 0, "page.go:21", #[⟨7, .data⟩, ⟨6, .data⟩, ⟨0, .phase⟩, ⟨1, .phase⟩, ⟨2, .phase⟩, ⟨3, .phase⟩, ⟨4, .phase⟩, ⟨5, .phase⟩, ⟨6, .phase⟩], none⟩) rfl (fun KQ hK => ?_) AllReadyH.nil)
      rw [if_pos (by rfl)]
      refine wp_store_pg _ _ rfl p' L1 L0 rfl rfl (HPC.out.on (Below.refl _ _).drew) HPF.out HSF.out ?_
      intro w3 hc3 hb3 hs3
      have hS3 : ButL [p'] wr w3 := ButL.trans (.of (Below.refl _ _).drew) hb3
      refine hK.out _ _ hS3 (fun hHeld => ?_)
      clear hK KQ
      try simp only [Act.put]
      refine wpAnyH_done (by kernel_rfl) ?_ _
      clear hHeld
      have HN := hid (HQ.out.set j (by rw [HL.out]; exact hlt) L1 HSF.out (hpp ▸ hS3) (hpp ▸ hc3))
      rw [HS.out] at HN
      clear hc3 hb3 hs3 hS3 HX
      go_wp2_with fail
      go_roundw
      case measure => simp [intOf] <;> omega
      case rel => exact ⟨j + 1, by omega, by go_num, HN⟩
    · obtain rfl : j = Q.length := by omega
      have hh : Q.take Q.length ++ List.replicate (Q.length - Q.length) zs = Q := by simp
      rw [hh] at HQ
      go_wp2_with fail
      go_ret
      exact ⟨g', bs', rfl, HQ.out⟩
end Go.Proofs.YtildhjiddidghaaGreatDoor
namespace Go.Proofs.YtildhjiddidghaaGreatDoor
open Go.RowKit
theorem getD_take {α : Type} (l : List α) (d : α) (n k : Nat) (h : k < n) : (l.take n).getD k d = l.getD k d := by
  rw [List.getD_eq_getElem?_getD, List.getElem?_take_of_lt h, ← List.getD_eq_getElem?_getD]
theorem getD_drop {α : Type} (l : List α) (d : α) (n k : Nat) : (l.drop n).getD k d = l.getD (n + k) d := by
  rw [List.getD_eq_getElem?_getD, List.getElem?_drop, ← List.getD_eq_getElem?_getD]
theorem Mem.rs {w : World} {f : Fp} {m : MS} (h : Mem w f m) : RP w f.gs (f.bs.take m.ns) (m.P.take m.ns) := by
  have := h.ns0
  refine ⟨h.sec, by rw [List.length_take, List.length_take, h.len], fun k hk => ?_, fun k hk => ?_⟩
  · rw [List.length_take] at hk
    rw [getD_take _ _ _ _ (by omega), getD_take _ _ _ _ (by omega)]
    exact h.pg k (by omega)
  · rw [List.length_take] at hk
    rw [getD_take _ _ _ _ (by omega)]
    exact h.full k (by omega)
theorem Mem.ri {w : World} {f : Fp} {m : MS} (h : Mem w f m) : RP w f.gi (f.bs.drop m.ns) (m.P.drop m.ns) := by
  have := h.ns0
  refine ⟨h.ins, by rw [List.length_drop, List.length_drop, h.len], fun k hk => ?_, fun k hk => ?_⟩
  · rw [List.length_drop] at hk
    rw [getD_drop, getD_drop]
    exact h.pg _ (by omega)
  · rw [List.length_drop] at hk
    rw [getD_drop]
    exact h.full _ (by omega)
theorem mem_of2 {w w1 w2 w3 : World} {g1 g2 gm : Nat} {bs1 bs2 : List Nat} {m : MS} (h1 : CP w w1 g1 bs1 (m.P.take m.ns)) (h2 : CP w1 w2 g2 bs2 (m.P.drop m.ns)) (hm : m.P.length ≤ 128) (hs : m.ns ≤ m.P.length) (hb : Below w2.heap.size w2 w3) (hgm : w.heap.size ≤ gm)
    (hc : Cel w3 gm 90 [.slice (some ⟨g1, 0, none⟩) m.ns m.ns, .slice (some ⟨g2, 0, none⟩) (m.P.length - m.ns) (m.P.length - m.ns), .int .i64 m.c]) :
    Mem w3 ⟨gm, g1, g2, bs1 ++ bs2⟩ m ∧ (∀ k ∈ (⟨gm, g1, g2, bs1 ++ bs2⟩ : Fp).all, w.heap.size ≤ k) := by
  have h1' := (h1.on h2.below).on hb
  have h2' := h2.on hb
  have l1 : bs1.length = m.ns := by rw [h1.len, List.length_take]; omega
  have l2 : bs2.length = m.P.length - m.ns := by rw [h2.len, List.length_drop]
  have key : ∀ k, k < m.P.length → (k < m.ns ∧ (bs1 ++ bs2).getD k 0 = bs1.getD k 0 ∧ m.P.getD k [] = (m.P.take m.ns).getD k [] ∧ k < (m.P.take m.ns).length) ∨ (∃ j, k = m.ns + j ∧ (bs1 ++ bs2).getD k 0 = bs2.getD j 0 ∧ m.P.getD k [] = (m.P.drop m.ns).getD j [] ∧ j < (m.P.drop m.ns).length) := by
    intro k hk
    by_cases hlt : k < m.ns
    · refine .inl ⟨hlt, ?_, (getD_take _ _ _ _ hlt).symm, by rw [List.length_take]; omega⟩
      rw [List.getD_eq_getElem?_getD, List.getElem?_append_left (by omega), ← List.getD_eq_getElem?_getD]
    · refine .inr ⟨k - m.ns, by omega, ?_, ?_, by rw [List.length_drop]; omega⟩
      · rw [List.getD_eq_getElem?_getD, List.getElem?_append_right (by omega), ← List.getD_eq_getElem?_getD, l1]
      · rw [getD_drop]; congr 1; omega
  refine ⟨⟨hc, ?_, ?_, ?_, hs, hm, ?_, ?_, ?_⟩, ?_⟩
  · have := h1'.cel
    simpa [List.take_left' l1] using this
  · have := h2'.cel
    simpa [List.drop_left' l1] using this
  · simp [l1, l2]; omega
  · intro k hk
    show Cel w3 ((bs1 ++ bs2).getD k 0) 156 (u32s (m.P.getD k []))
    rcases key k hk with ⟨_, e1, e2, e3⟩ | ⟨j, _, e1, e2, e3⟩
    · rw [e1, e2]; exact (h1'.pages k e3).2
    · rw [e1, e2]; exact (h2'.pages j e3).2
  · intro k hk
    show (m.P.getD k []).length = 1024
    rcases key k hk with ⟨_, e1, e2, e3⟩ | ⟨j, _, e1, e2, e3⟩
    · rw [e2]; exact h1.full k e3
    · rw [e2]; exact h2.full j e3
  · rw [List.nodup_append]
    refine ⟨h1.nodup, h2.nodup, ?_⟩
    intro a ha b hb' e
    subst e
    obtain ⟨i, hi, rfl⟩ := List.mem_iff_getElem.1 ha
    obtain ⟨j, hj, hij⟩ := List.mem_iff_getElem.1 hb'
    have a1 := (h1.pages i (by rw [← h1.len]; exact hi)).2.lt
    have a2 := (h2.pages j (by rw [← h2.len]; exact hj)).1
    rw [List.getD_eq_getElem?_getD, List.getElem?_eq_getElem hi] at a1
    rw [List.getD_eq_getElem?_getD, List.getElem?_eq_getElem hj] at a2
    simp only [Option.getD_some] at a1 a2
    omega
  · intro k hk
    have s1 := h1.below.size
    simp only [Fp.all, List.mem_cons, List.mem_append] at hk
    rcases hk with rfl | rfl | rfl | hk | hk
    · exact hgm
    · exact h1.hg
    · have := h2.hg; omega
    · obtain ⟨i, hi, rfl⟩ := List.mem_iff_getElem.1 hk
      have a1 := (h1.pages i (by rw [← h1.len]; exact hi)).1
      rw [List.getD_eq_getElem?_getD, List.getElem?_eq_getElem hi] at a1
      exact a1
    · obtain ⟨i, hi, rfl⟩ := List.mem_iff_getElem.1 hk
      have a1 := (h2.pages i (by rw [← h2.len]; exact hi)).1
      rw [List.getD_eq_getElem?_getD, List.getElem?_eq_getElem hi] at a1
      simp only [Option.getD_some] at a1
      omega
theorem CP.from {w w0 w' : World} {g : Nat} {bs : List Nat} {Q : List (List Int)} (h : CP w0 w' g bs Q) (hb : Below w.heap.size w w0) : CP w w' g bs Q :=
  ⟨below_on hb h.below, Nat.le_trans hb.size h.hg, h.cel, h.len, fun k hk => ⟨Nat.le_trans hb.size (h.pages k hk).1, (h.pages k hk).2⟩, h.full, h.nodup⟩
set_option maxRecDepth 40000 in
set_option maxHeartbeats 4000000 in
theorem clone_any (w : World) (f : Fp) (m : MS) (h : Mem w f m) :
    Calls Tryz.prog 45 #[ptr f.gm] w fun x w' => ∃ f', x = .returned (ptr f'.gm) ∧ NewMem w w' f' m := by
  have F1 : Hid (∀ x, Below w.heap.size w x → Calls Tryz.prog 85 #[.slice (some ⟨f.gs, 0, none⟩) m.ns m.ns] x fun y x' => ∃ g' bs', y = .returned (.slice (some ⟨g', 0, none⟩) m.ns m.ns) ∧ CP x x' g' bs' (m.P.take m.ns)) := hid (fun x hx => by
    have e : (m.P.take m.ns).length = m.ns := by rw [List.length_take]; have := h.ns0; omega
    have := clonePages_any x f.gs _ _ (h.on hx).rs (by rw [e]; have := h.most; have := h.ns0; omega) m.ns
    rw [e] at this
    exact this)
  have F2 : Hid (∀ x, Below w.heap.size w x → Calls Tryz.prog 85 #[.slice (some ⟨f.gi, 0, none⟩) (m.P.length - m.ns) (m.P.length - m.ns)] x fun y x' => ∃ g' bs', y = .returned (.slice (some ⟨g', 0, none⟩) (m.P.length - m.ns) (m.P.length - m.ns)) ∧ CP x x' g' bs' (m.P.drop m.ns)) := hid (fun x hx => by
    have e : (m.P.drop m.ns).length = m.P.length - m.ns := List.length_drop
    have := clonePages_any x f.gi _ _ (h.on hx).ri (by rw [e]; have := h.most; omega) (m.P.length - m.ns)
    rw [e] at this
    exact this)
  have HX : Hid (∀ x, Below w.heap.size w x → x.cell? ⟨f.gm, 0, none⟩ = some (.slice (some ⟨f.gs, 0, none⟩) m.ns m.ns) ∧ x.cell? ⟨f.gm, 1, none⟩ = some (.slice (some ⟨f.gi, 0, none⟩) (m.P.length - m.ns) (m.P.length - m.ns)) ∧ x.cell? ⟨f.gm, 2, none⟩ = some (.int .i64 m.c)) := hid (fun x hx => ⟨(h.on hx).cel.cell 0, (h.on hx).cel.cell 1, (h.on hx).cel.cell 2⟩)
  have HM := hid h.most
  have HS := hid h.ns0
  clear h
  generalize hn2 : m.P.length - m.ns = n2 at *
  have HN2 := hid hn2
  clear hn2
  simp only [ptr]
  go_enter Tryz.func45, Tryz.ntmps45
  go_wp2_with fail
  refine wp_region_held_drew (S := fun x => Below w.heap.size w x) (by kernel_rfl) ((Below.refl _ _).drew) (fun hHeld => ?_)
  refine tk 0 ⟨some 3, .move (.tmp 0), 30, "mem.go:39", #[], none⟩ (.pointer (some ⟨f.gm, 0, none⟩)) ?_
  simp only [Act.put, List.setIfInBounds_toArray, List.set_cons_zero, List.set_cons_succ]
  refine tk 1 ⟨some 4, .nilCheck (.tmp 3), 0, "mem.go:39", #[⟨0, .data⟩], none⟩ (.pointer (some ⟨f.gm, 0, none⟩)) ?_
  simp only [Act.put, List.setIfInBounds_toArray, List.set_cons_zero, List.set_cons_succ]
  refine tk 2 ⟨some 5, .fieldAddr 90 (.tmp 4) 0, 0, "mem.go:39", #[⟨1, .data⟩], none⟩ (.pointer (some ⟨f.gm, 0, none⟩)) ?_
  simp only [Act.put, List.setIfInBounds_toArray, List.set_cons_zero, List.set_cons_succ]
  refine tk 3 ⟨some 6, .load 88 (.tmp 5), 88, "mem.go:39", #[⟨2, .data⟩], none⟩ (.slice (some ⟨f.gs, 0, none⟩) m.ns m.ns) ?_ (hy := Or.inl ⟨by rfl, by intro w hSw; have hcc := (HX.out w hSw).1; go_simp⟩)
  simp only [Act.put, List.setIfInBounds_toArray, List.set_cons_zero, List.set_cons_succ]
  refine tk 5 ⟨some 8, .move (.tmp 0), 30, "mem.go:39", #[], none⟩ (.pointer (some ⟨f.gm, 0, none⟩)) ?_
  simp only [Act.put, List.setIfInBounds_toArray, List.set_cons_zero, List.set_cons_succ]
  refine tk 6 ⟨some 9, .nilCheck (.tmp 8), 0, "mem.go:39", #[⟨5, .data⟩], none⟩ (.pointer (some ⟨f.gm, 0, none⟩)) ?_
  simp only [Act.put, List.setIfInBounds_toArray, List.set_cons_zero, List.set_cons_succ]
  refine tk 7 ⟨some 10, .fieldAddr 90 (.tmp 9) 1, 0, "mem.go:39", #[⟨6, .data⟩], none⟩ (.pointer (some ⟨f.gm, 1, none⟩)) ?_
  simp only [Act.put, List.setIfInBounds_toArray, List.set_cons_zero, List.set_cons_succ]
  refine tk 8 ⟨some 11, .load 88 (.tmp 10), 88, "mem.go:39", #[⟨7, .data⟩], none⟩ (.slice (some ⟨f.gi, 0, none⟩) n2 n2) ?_ (hy := Or.inl ⟨by rfl, by intro w hSw; have hcc := (HX.out w hSw).2.1; go_simp⟩)
  simp only [Act.put, List.setIfInBounds_toArray, List.set_cons_zero, List.set_cons_succ]
  refine tk 10 ⟨some 13, .move (.tmp 0), 30, "mem.go:39", #[], none⟩ (.pointer (some ⟨f.gm, 0, none⟩)) ?_
  simp only [Act.put, List.setIfInBounds_toArray, List.set_cons_zero, List.set_cons_succ]
  refine tk 11 ⟨some 14, .nilCheck (.tmp 13), 0, "mem.go:39", #[⟨10, .data⟩], none⟩ (.pointer (some ⟨f.gm, 0, none⟩)) ?_
  simp only [Act.put, List.setIfInBounds_toArray, List.set_cons_zero, List.set_cons_succ]
  refine tk 12 ⟨some 15, .fieldAddr 90 (.tmp 14) 2, 0, "mem.go:39", #[⟨11, .data⟩], none⟩ (.pointer (some ⟨f.gm, 2, none⟩)) ?_
  simp only [Act.put, List.setIfInBounds_toArray, List.set_cons_zero, List.set_cons_succ]
  refine tk 13 ⟨some 16, .load 2 (.tmp 15), 2, "mem.go:39", #[⟨12, .data⟩], none⟩ (.int .i64 m.c) ?_ (hy := Or.inl ⟨by rfl, by intro w hSw; have hcc := (HX.out w hSw).2.2; go_simp⟩)
  simp only [Act.put, List.setIfInBounds_toArray, List.set_cons_zero, List.set_cons_succ]
  refine wpAnyH_ready (rs := [4]) (by kernel_rfl) (by simp) (AllReadyH.cons (o := ⟨some 7, .call { callee := .value (.func 85), args := #[.tmp 6], argTypes := #[88] }, 88, "mem.go:39", #[⟨3, .data⟩], none⟩) rfl (fun KQ hK => ?_) AllReadyH.nil)
  go_simp
  refine (F1.out _ ((Below.refl _ _).drew)).mono ?_
  rintro x wa ⟨ga, bsa, rfl, hca⟩
  have hS1 := below_on ((Below.refl _ _).drew) hca.below
  go_wp2_with fail
  refine hK.out _ _ hS1 (fun hHeld => ?_)
  clear hK KQ
  try simp only [Act.put, List.setIfInBounds_toArray, List.set_cons_zero, List.set_cons_succ]
  refine wpAnyH_ready (rs := [9]) (by kernel_rfl) (by simp) (AllReadyH.cons (o := ⟨some 12, .call { callee := .value (.func 85), args := #[.tmp 11], argTypes := #[88] }, 88, "mem.go:39", #[⟨8, .data⟩, ⟨4, .chain⟩], none⟩) rfl (fun KQ hK => ?_) AllReadyH.nil)
  go_simp
  refine (F2.out _ hS1).mono ?_
  rintro x wb ⟨gb, bsb, rfl, hcb⟩
  have hS2 := below_on hS1 hcb.below
  go_wp2_with fail
  refine hK.out _ _ hS2 (fun hHeld => ?_)
  clear hK KQ
  try simp only [Act.put, List.setIfInBounds_toArray, List.set_cons_zero, List.set_cons_succ]
  refine tk 14 ⟨some 17, .build 90 #[(0, .tmp 7), (1, .tmp 12), (2, .tmp 16)], 90, "mem.go:39", #[⟨4, .data⟩, ⟨9, .data⟩, ⟨13, .data⟩], none⟩ (.agg #[.slice (some ⟨ga, 0, none⟩) m.ns m.ns, .slice (some ⟨gb, 0, none⟩) n2 n2, .int .i64 m.c]) ?_
  simp only [Act.put, List.setIfInBounds_toArray, List.set_cons_zero, List.set_cons_succ]
  refine wpAnyH_ready (rs := [15]) (by kernel_rfl) (by simp) (AllReadyH.cons (o := ⟨some 18, .box 90 (.tmp 17), 30, "mem.go:39", #[⟨14, .data⟩], none⟩) rfl (fun KQ hK => ?_) AllReadyH.nil)
  go_simp
  refine hK.out _ _ (below_on hS2 (below_one _ _)) (fun hHeld => ?_)
  clear hK KQ
  try simp only [Act.put, List.setIfInBounds_toArray, List.set_cons_zero, List.set_cons_succ]
  refine wpAnyH_ready (rs := [16]) (by kernel_rfl) (by simp) (AllReadyH.cons (o := ⟨some 2, .assign (.tmp 18), 30, "mem.go:39", #[⟨15, .data⟩, ⟨9, .chain⟩, ⟨0, .phase⟩, ⟨1, .phase⟩, ⟨2, .phase⟩, ⟨3, .phase⟩, ⟨4, .phase⟩, ⟨5, .phase⟩, ⟨6, .phase⟩, ⟨7, .phase⟩, ⟨8, .phase⟩, ⟨9, .phase⟩, ⟨10, .phase⟩, ⟨11, .phase⟩, ⟨12, .phase⟩, ⟨13, .phase⟩, ⟨14, .phase⟩, ⟨15, .phase⟩], none⟩) rfl (fun KQ hK => ?_) AllReadyH.nil)
  go_simp
  refine hK.out _ _ (below_on hS2 (below_one _ _)) (fun hHeld => ?_)
  clear hK KQ
  try simp only [Act.put, List.setIfInBounds_toArray, List.set_cons_zero, List.set_cons_succ]
  refine wpAnyH_done (by kernel_rfl) ?_ _
  clear hHeld
  have HCA := hid hca
  have HCB := hid hcb
  have HS1 := hid hS1
  have HS2 := hid hS2
  clear hca hcb hS1 hS2 F1 F2 HX
  go_wp2_with fail
  go_ret
  have h := mem_of2 (w := w) (m := m) (w3 := wb.alloc (.cells #[.slice (some ⟨ga, 0, none⟩) m.ns m.ns, .slice (some ⟨gb, 0, none⟩) n2 n2, .int .i64 m.c] 90)) (gm := wb.heap.size) (CP.from HCA.out (Below.refl _ _).drew) HCB.out HM.out HS.out (below_one _ _) HS2.out.size (by rw [HN2.out]; exact Cel.new _ _ [.slice (some ⟨ga, 0, none⟩) m.ns m.ns, .slice (some ⟨gb, 0, none⟩) n2 n2, .int .i64 m.c])
  exact ⟨⟨wb.heap.size, ga, gb, bsa ++ bsb⟩, rfl, h.1, below_on HS2.out (below_one _ _), h.2⟩
def MS.same (m o : MS) : Bool := decide (m.P.take m.ns = o.P.take o.ns) && decide (m.P.drop m.ns = o.P.drop o.ns)
theorem exec_neq {a : Act} {w : World} {o : Oper} (x y : Operand) (ho : o.op = .binOp .neq 156 x y 156) (X Y : List Int) (hx : a.eval x = pgV X) (hy : a.eval y = pgV Y) (hX : X.length = 1024) (hY : Y.length = 1024) (b : Bool) (hb : (!decide (X = Y)) = b) :
    (execOp a.eval o).run Tryz.prog w = .ok (.value (.bool b)) w := by
  unfold execOp
  simp only [ho, hx, hy, Sem.run_bind, Sem.run_pure, run_guard_neq, run_neq_pg w X Y hX hY, Result.andThen_ok, hb]
theorem take_step (A B : List (List Int)) (j : Nat) (ha : j < A.length) (hb : j < B.length) (h : A.take j = B.take j) (he : A.getD j [] = B.getD j []) : A.take (j + 1) = B.take (j + 1) := by
  rw [List.take_succ_eq_append_getElem ha, List.take_succ_eq_append_getElem hb, h]
  rw [List.getD_eq_getElem?_getD, List.getElem?_eq_getElem ha, List.getD_eq_getElem?_getD, List.getElem?_eq_getElem hb] at he
  simp only [Option.getD_some] at he
  rw [he]
set_option maxRecDepth 40000 in
set_option maxHeartbeats 4000000 in
theorem samePages_any (w : World) (g g' : Nat) (bs bs' : List Nat) (A B : List (List Int)) (h : RP w g bs A) (h' : RP w g' bs' B) (ha : A.length ≤ 128) (hb : B.length ≤ 128) (c c' : Nat) :
    Calls Tryz.prog 90 #[.slice (some ⟨g, 0, none⟩) A.length c, .slice (some ⟨g', 0, none⟩) B.length c'] w fun x w' => x = .returned (.bool (decide (A = B))) ∧ Below w.heap.size w w' := by
  have n1 : (A.length : Int) ≤ 128 := by omega
  have n2 : (B.length : Int) ≤ 128 := by omega
  have H := hid h
  have H' := hid h'
  clear h h'
  go_enter Tryz.func90, Tryz.ntmps90
  by_cases hl : A.length = B.length
  · have hl2 : (A.length : Int) = (B.length : Int) := by omega
    rw [← hl]
    go_wp2_with fail
    go_loopw [5, 6, 14] (fun _ _ i wr => ∃ j : Nat, j ≤ A.length ∧ i = .int .i64 (j : Int) ∧ Hid (A.take j = B.take j) ∧ Hid (Below w.heap.size w wr)) (fun _ _ i _ => A.length - (intOf i).toNat)
    case atStart => exact ⟨0, Nat.zero_le _, rfl, hid rfl, hid (Below.refl _ _)⟩
    case round =>
      obtain ⟨j, hj, rfl, HT, HB⟩ := hrel
      by_cases hlt : j < A.length
      · have c1 : (j : Int) < (A.length : Int) := by omega
        have j1 : (j : Int) ≤ 128 := by omega
        have y0 := (H.out.on HB.out).at j hlt
        have HY : Hid (∀ x, Below wr.heap.size wr x → x.cell? ⟨g', j, none⟩ = some (.pointer (some ⟨bs'.getD j 0, 0, none⟩))) := hid (fun x hx => (H'.out.on (below_on HB.out hx)).at j (by omega))
        have HP : Hid (∀ x, Below wr.heap.size wr x → Cel x (bs.getD j 0) 156 (u32s (A.getD j []))) := hid (fun x hx => (H.out.on (below_on HB.out hx)).pages j hlt)
        have HP' : Hid (∀ x, Below wr.heap.size wr x → Cel x (bs'.getD j 0) 156 (u32s (B.getD j []))) := hid (fun x hx => (H'.out.on (below_on HB.out hx)).pages j (by omega))
        have HF := hid (H.out.full j hlt)
        have HF' := hid (H'.out.full j (by omega))
        have HTS : Hid (A.getD j [] = B.getD j [] → A.take (j + 1) = B.take (j + 1)) := hid (take_step A B j hlt (by omega) HT.out)
        have HNE : Hid (A.getD j [] ≠ B.getD j [] → decide (A = B) = false) := hid (fun hne => by rw [decide_eq_false_iff_not]; intro e; exact hne (by rw [e]))
        generalize A.getD j [] = L1 at *
        generalize B.getD j [] = L2 at *
        generalize bs.getD j 0 = p at *
        generalize bs'.getD j 0 = p' at *
        by_cases he : L1 = L2
        · have HE := hid (HTS.out he)
          have HD : Hid ((!decide (L1 = L2)) = false) := hid (by simp [he])
          clear HTS HNE he
          go_wp2_with fail
          refine wp_region_held_drew (S := fun x => Below wr.heap.size wr x) (by kernel_rfl) ((Below.refl _ _).drew) (fun hHeld => ?_)
          refine tk 0 ⟨some 19, .move (.tmp 6), 153, "page.go:32", #[], none⟩ (.pointer (some ⟨p, 0, none⟩)) ?_
          simp only [Act.put, List.setIfInBounds_toArray, List.set_cons_zero, List.set_cons_succ]
          refine tk 1 ⟨some 20, .nilCheck (.tmp 19), 0, "page.go:32", #[⟨0, .data⟩], none⟩ (.pointer (some ⟨p, 0, none⟩)) ?_
          simp only [Act.put, List.setIfInBounds_toArray, List.set_cons_zero, List.set_cons_succ]
          refine tk 2 ⟨some 21, .load 156 (.tmp 20), 156, "page.go:32", #[⟨1, .data⟩], none⟩ (pgV L1) ?_ (hy := yieldsIf_load_mid (by rfl) _ _ rfl _ _ rfl _ _ (fun w hSw => (HP.out w hSw).range) under85 rfl (by rw [size85, u32s_len, HF.out]))
          simp only [Act.put, List.setIfInBounds_toArray, List.set_cons_zero, List.set_cons_succ]
          refine tk 3 ⟨some 22, .move (.tmp 1), 88, "page.go:32", #[], none⟩ ((.slice (some ⟨g', 0, none⟩) A.length c')) ?_
          simp only [Act.put, List.setIfInBounds_toArray, List.set_cons_zero, List.set_cons_succ]
          refine tk 4 ⟨some 23, .move (.tmp 5), 3, "page.go:32", #[], none⟩ (.int .i64 (j : Int)) ?_
          simp only [Act.put, List.setIfInBounds_toArray, List.set_cons_zero, List.set_cons_succ]
          refine tk 5 ⟨some 24, .indexAddr 88 (.tmp 22) (.tmp 23), 0, "page.go:32", #[⟨3, .data⟩, ⟨4, .data⟩], none⟩ (.pointer (some ⟨g', j, none⟩)) ?_
          simp only [Act.put, List.setIfInBounds_toArray, List.set_cons_zero, List.set_cons_succ]
          refine tk 6 ⟨some 25, .load 153 (.tmp 24), 153, "page.go:32", #[⟨5, .data⟩], none⟩ (.pointer (some ⟨p', 0, none⟩)) ?_ (hy := Or.inl ⟨by rfl, by intro w hSw; have hcc := HY.out w hSw; go_simp⟩)
          simp only [Act.put, List.setIfInBounds_toArray, List.set_cons_zero, List.set_cons_succ]
          refine tk 7 ⟨some 26, .nilCheck (.tmp 25), 0, "page.go:32", #[⟨6, .data⟩], none⟩ (.pointer (some ⟨p', 0, none⟩)) ?_
          simp only [Act.put, List.setIfInBounds_toArray, List.set_cons_zero, List.set_cons_succ]
          refine tk 8 ⟨some 27, .load 156 (.tmp 26), 156, "page.go:32", #[⟨7, .data⟩], none⟩ (pgV L2) ?_ (hy := yieldsIf_load_mid (by rfl) _ _ rfl _ _ rfl _ _ (fun w hSw => (HP'.out w hSw).range) under85 rfl (by rw [size85, u32s_len, HF'.out]))
          simp only [Act.put, List.setIfInBounds_toArray, List.set_cons_zero, List.set_cons_succ]
          refine tk 9 ⟨some 28, .binOp .neq 156 (.tmp 21) (.tmp 27) 156, 4, "page.go:32", #[⟨2, .data⟩, ⟨8, .data⟩], none⟩ (.bool false) ?_ (hy := Or.inl ⟨by rfl, fun w hSw => exec_neq _ _ rfl L1 L2 rfl rfl HF.out HF'.out _ HD.out⟩)
          simp only [Act.put, List.setIfInBounds_toArray, List.set_cons_zero, List.set_cons_succ]
          refine wpAnyH_done (by kernel_rfl) ?_ _
          clear hHeld
          have HB2 : Hid (Below w.heap.size w wr.drew) := hid (below_on HB.out (Below.refl _ _).drew)
          generalize wr.drew = w3 at *
          clear HP HP' HY
          go_wp2_with fail
          go_roundw
          case measure => simp [intOf] <;> omega
          case rel => exact ⟨j + 1, by omega, by go_num, HE, HB2⟩
        · have HE := hid (HNE.out he)
          have HD : Hid ((!decide (L1 = L2)) = true) := hid (by simp [he])
          clear HTS HNE he
          go_wp2_with fail
          refine wp_region_held_drew (S := fun x => Below wr.heap.size wr x) (by kernel_rfl) ((Below.refl _ _).drew) (fun hHeld => ?_)
          refine tk 0 ⟨some 19, .move (.tmp 6), 153, "page.go:32", #[], none⟩ (.pointer (some ⟨p, 0, none⟩)) ?_
          simp only [Act.put, List.setIfInBounds_toArray, List.set_cons_zero, List.set_cons_succ]
          refine tk 1 ⟨some 20, .nilCheck (.tmp 19), 0, "page.go:32", #[⟨0, .data⟩], none⟩ (.pointer (some ⟨p, 0, none⟩)) ?_
          simp only [Act.put, List.setIfInBounds_toArray, List.set_cons_zero, List.set_cons_succ]
          refine tk 2 ⟨some 21, .load 156 (.tmp 20), 156, "page.go:32", #[⟨1, .data⟩], none⟩ (pgV L1) ?_ (hy := yieldsIf_load_mid (by rfl) _ _ rfl _ _ rfl _ _ (fun w hSw => (HP.out w hSw).range) under85 rfl (by rw [size85, u32s_len, HF.out]))
          simp only [Act.put, List.setIfInBounds_toArray, List.set_cons_zero, List.set_cons_succ]
          refine tk 3 ⟨some 22, .move (.tmp 1), 88, "page.go:32", #[], none⟩ ((.slice (some ⟨g', 0, none⟩) A.length c')) ?_
          simp only [Act.put, List.setIfInBounds_toArray, List.set_cons_zero, List.set_cons_succ]
          refine tk 4 ⟨some 23, .move (.tmp 5), 3, "page.go:32", #[], none⟩ (.int .i64 (j : Int)) ?_
          simp only [Act.put, List.setIfInBounds_toArray, List.set_cons_zero, List.set_cons_succ]
          refine tk 5 ⟨some 24, .indexAddr 88 (.tmp 22) (.tmp 23), 0, "page.go:32", #[⟨3, .data⟩, ⟨4, .data⟩], none⟩ (.pointer (some ⟨g', j, none⟩)) ?_
          simp only [Act.put, List.setIfInBounds_toArray, List.set_cons_zero, List.set_cons_succ]
          refine tk 6 ⟨some 25, .load 153 (.tmp 24), 153, "page.go:32", #[⟨5, .data⟩], none⟩ (.pointer (some ⟨p', 0, none⟩)) ?_ (hy := Or.inl ⟨by rfl, by intro w hSw; have hcc := HY.out w hSw; go_simp⟩)
          simp only [Act.put, List.setIfInBounds_toArray, List.set_cons_zero, List.set_cons_succ]
          refine tk 7 ⟨some 26, .nilCheck (.tmp 25), 0, "page.go:32", #[⟨6, .data⟩], none⟩ (.pointer (some ⟨p', 0, none⟩)) ?_
          simp only [Act.put, List.setIfInBounds_toArray, List.set_cons_zero, List.set_cons_succ]
          refine tk 8 ⟨some 27, .load 156 (.tmp 26), 156, "page.go:32", #[⟨7, .data⟩], none⟩ (pgV L2) ?_ (hy := yieldsIf_load_mid (by rfl) _ _ rfl _ _ rfl _ _ (fun w hSw => (HP'.out w hSw).range) under85 rfl (by rw [size85, u32s_len, HF'.out]))
          simp only [Act.put, List.setIfInBounds_toArray, List.set_cons_zero, List.set_cons_succ]
          refine tk 9 ⟨some 28, .binOp .neq 156 (.tmp 21) (.tmp 27) 156, 4, "page.go:32", #[⟨2, .data⟩, ⟨8, .data⟩], none⟩ (.bool true) ?_ (hy := Or.inl ⟨by rfl, fun w hSw => exec_neq _ _ rfl L1 L2 rfl rfl HF.out HF'.out _ HD.out⟩)
          simp only [Act.put, List.setIfInBounds_toArray, List.set_cons_zero, List.set_cons_succ]
          refine wpAnyH_done (by kernel_rfl) ?_ _
          clear hHeld
          have HB2 : Hid (Below w.heap.size w wr.drew) := hid (below_on HB.out (Below.refl _ _).drew)
          generalize wr.drew = w3 at *
          clear HP HP' HY
          go_wp2_with fail
          go_ret
          exact ⟨ret_bool HE.out.symm, HB2.out⟩
      · obtain rfl : j = A.length := by omega
        have hh : decide (A = B) = true := by
          have := HT.out
          rw [List.take_of_length_le (by omega), List.take_of_length_le (by omega)] at this
          simp [this]
        have HH := hid hh
        clear hh
        go_wp2_with fail
        go_ret
        exact ⟨ret_bool HH.out.symm, HB.out⟩
  · have hl2 : ((A.length : Int) = (B.length : Int)) = False := by simp; omega
    have hh : decide (A = B) = false := by rw [decide_eq_false_iff_not]; intro e; exact hl (by rw [e])
    rw [hh]
    clear hh
    go_wp2_with fail
    go_ret
    exact ⟨rfl, Below.refl _ _⟩
set_option maxRecDepth 40000 in
set_option maxHeartbeats 4000000 in
theorem same_any (w : World) (f : Fp) (m : MS) (h : Mem w f m) (f' : Fp) (m' : MS) (h' : Mem w f' m') :
    Calls Tryz.prog 52 #[ptr f.gm, ptr f'.gm] w fun x w' => x = .returned (.bool (m.same m')) ∧ Below w.heap.size w w' := by
  have HX : Hid (∀ x, Below w.heap.size w x → x.cell? ⟨f.gm, 0, none⟩ = some (.slice (some ⟨f.gs, 0, none⟩) m.ns m.ns) ∧ x.cell? ⟨f.gm, 1, none⟩ = some (.slice (some ⟨f.gi, 0, none⟩) (m.P.length - m.ns) (m.P.length - m.ns))) := hid (fun x hx => ⟨(h.on hx).cel.cell 0, (h.on hx).cel.cell 1⟩)
  have HX' : Hid (∀ x, Below w.heap.size w x → x.cell? ⟨f'.gm, 0, none⟩ = some (.slice (some ⟨f'.gs, 0, none⟩) m'.ns m'.ns) ∧ x.cell? ⟨f'.gm, 1, none⟩ = some (.slice (some ⟨f'.gi, 0, none⟩) (m'.P.length - m'.ns) (m'.P.length - m'.ns))) := hid (fun x hx => ⟨(h'.on hx).cel.cell 0, (h'.on hx).cel.cell 1⟩)
  have F1 : Hid (∀ x, Below w.heap.size w x → Calls Tryz.prog 90 #[.slice (some ⟨f.gs, 0, none⟩) m.ns m.ns, .slice (some ⟨f'.gs, 0, none⟩) m'.ns m'.ns] x fun y x' => y = .returned (.bool (decide (m.P.take m.ns = m'.P.take m'.ns))) ∧ Below x.heap.size x x') := hid (fun x hx => by
    have e : (m.P.take m.ns).length = m.ns := by rw [List.length_take]; have := h.ns0; omega
    have e' : (m'.P.take m'.ns).length = m'.ns := by rw [List.length_take]; have := h'.ns0; omega
    have := samePages_any x f.gs f'.gs _ _ _ _ (h.on hx).rs (h'.on hx).rs (by rw [e]; have := h.most; have := h.ns0; omega) (by rw [e']; have := h'.most; have := h'.ns0; omega) m.ns m'.ns
    rw [e, e'] at this
    exact this)
  have F2 : Hid (∀ x, Below w.heap.size w x → Calls Tryz.prog 90 #[.slice (some ⟨f.gi, 0, none⟩) (m.P.length - m.ns) (m.P.length - m.ns), .slice (some ⟨f'.gi, 0, none⟩) (m'.P.length - m'.ns) (m'.P.length - m'.ns)] x fun y x' => y = .returned (.bool (decide (m.P.drop m.ns = m'.P.drop m'.ns))) ∧ Below x.heap.size x x') := hid (fun x hx => by
    have e : (m.P.drop m.ns).length = m.P.length - m.ns := List.length_drop
    have e' : (m'.P.drop m'.ns).length = m'.P.length - m'.ns := List.length_drop
    have := samePages_any x f.gi f'.gi _ _ _ _ (h.on hx).ri (h'.on hx).ri (by rw [e]; have := h.most; omega) (by rw [e']; have := h'.most; omega) (m.P.length - m.ns) (m'.P.length - m'.ns)
    rw [e, e'] at this
    exact this)
  clear h h'
  unfold MS.same
  generalize m.P.length - m.ns = n2 at *
  generalize m'.P.length - m'.ns = n3 at *
  generalize decide (m.P.drop m.ns = m'.P.drop m'.ns) = b2 at *
  generalize decide (m.P.take m.ns = m'.P.take m'.ns) = b1 at *
  simp only [ptr]
  go_enter Tryz.func52, Tryz.ntmps52
  go_wp2_with fail
  cases b1
  · refine wp_region_held_drew (S := fun x => Below w.heap.size w x) (by kernel_rfl) ((Below.refl _ _).drew) (fun hHeld => ?_)
    refine tk 0 ⟨some 5, .move (.tmp 0), 30, "mem.go:42", #[], none⟩ (.pointer (some ⟨f.gm, 0, none⟩)) ?_
    simp only [Act.put, List.setIfInBounds_toArray, List.set_cons_zero, List.set_cons_succ]
    refine tk 1 ⟨some 6, .nilCheck (.tmp 5), 0, "mem.go:42", #[⟨0, .data⟩], none⟩ (.pointer (some ⟨f.gm, 0, none⟩)) ?_
    simp only [Act.put, List.setIfInBounds_toArray, List.set_cons_zero, List.set_cons_succ]
    refine tk 2 ⟨some 7, .fieldAddr 90 (.tmp 6) 0, 0, "mem.go:42", #[⟨1, .data⟩], none⟩ (.pointer (some ⟨f.gm, 0, none⟩)) ?_
    simp only [Act.put, List.setIfInBounds_toArray, List.set_cons_zero, List.set_cons_succ]
    refine tk 3 ⟨some 8, .load 88 (.tmp 7), 88, "mem.go:42", #[⟨2, .data⟩], none⟩ (.slice (some ⟨f.gs, 0, none⟩) m.ns m.ns) ?_ (hy := Or.inl ⟨by rfl, by intro w hSw; have hcc := (HX.out w hSw).1; go_simp⟩)
    simp only [Act.put, List.setIfInBounds_toArray, List.set_cons_zero, List.set_cons_succ]
    refine tk 4 ⟨some 9, .move (.tmp 1), 30, "mem.go:42", #[], none⟩ (.pointer (some ⟨f'.gm, 0, none⟩)) ?_
    simp only [Act.put, List.setIfInBounds_toArray, List.set_cons_zero, List.set_cons_succ]
    refine tk 5 ⟨some 10, .nilCheck (.tmp 9), 0, "mem.go:42", #[⟨4, .data⟩], none⟩ (.pointer (some ⟨f'.gm, 0, none⟩)) ?_
    simp only [Act.put, List.setIfInBounds_toArray, List.set_cons_zero, List.set_cons_succ]
    refine tk 6 ⟨some 11, .fieldAddr 90 (.tmp 10) 0, 0, "mem.go:42", #[⟨5, .data⟩], none⟩ (.pointer (some ⟨f'.gm, 0, none⟩)) ?_
    simp only [Act.put, List.setIfInBounds_toArray, List.set_cons_zero, List.set_cons_succ]
    refine tk 7 ⟨some 12, .load 88 (.tmp 11), 88, "mem.go:42", #[⟨6, .data⟩], none⟩ ((.slice (some ⟨f'.gs, 0, none⟩) m'.ns m'.ns)) ?_ (hy := Or.inl ⟨by rfl, by intro w hSw; have hcc := (HX'.out w hSw).1; go_simp⟩)
    simp only [Act.put, List.setIfInBounds_toArray, List.set_cons_zero, List.set_cons_succ]
    refine wpAnyH_ready (rs := [8]) (by kernel_rfl) (by simp) (AllReadyH.cons (o := ⟨some 13, .call { callee := .value (.func 90), args := #[.tmp 8, .tmp 12], argTypes := #[88, 88] }, 4, "mem.go:42", #[⟨3, .data⟩, ⟨7, .data⟩], none⟩) rfl (fun KQ hK => ?_) AllReadyH.nil)
    go_simp
    refine (F1.out _ ((Below.refl _ _).drew)).mono ?_
    rintro x wa ⟨rfl, hba⟩
    have hS1 := below_on ((Below.refl _ _).drew) hba
    go_wp2_with fail
    refine hK.out _ _ hS1 (fun hHeld => ?_)
    clear hK KQ
    try simp only [Act.put, List.setIfInBounds_toArray, List.set_cons_zero, List.set_cons_succ]
    refine tk 9 ⟨some 14, .move (.tmp 13), 4, "mem.go:42", #[⟨8, .data⟩, ⟨8, .chain⟩], none⟩ (.bool false) ?_
    simp only [Act.put, List.setIfInBounds_toArray, List.set_cons_zero, List.set_cons_succ]
    refine tk 10 ⟨some 15, .move (.tmp 0), 30, "mem.go:42", #[⟨9, .guard⟩], some (9, true)⟩ undef ?_ (hy := Or.inr ⟨by rfl, rfl⟩)
    simp only [Act.put, List.setIfInBounds_toArray, List.set_cons_zero, List.set_cons_succ]
    refine tk 11 ⟨some 16, .nilCheck (.tmp 15), 0, "mem.go:42", #[⟨10, .data⟩, ⟨9, .guard⟩], some (9, true)⟩ undef ?_ (hy := Or.inr ⟨by rfl, rfl⟩)
    simp only [Act.put, List.setIfInBounds_toArray, List.set_cons_zero, List.set_cons_succ]
    refine tk 12 ⟨some 17, .fieldAddr 90 (.tmp 16) 1, 0, "mem.go:42", #[⟨11, .data⟩, ⟨9, .guard⟩], some (9, true)⟩ undef ?_ (hy := Or.inr ⟨by rfl, rfl⟩)
    simp only [Act.put, List.setIfInBounds_toArray, List.set_cons_zero, List.set_cons_succ]
    refine tk 13 ⟨some 18, .load 88 (.tmp 17), 88, "mem.go:42", #[⟨12, .data⟩, ⟨9, .guard⟩], some (9, true)⟩ undef ?_ (hy := Or.inr ⟨by rfl, rfl⟩)
    simp only [Act.put, List.setIfInBounds_toArray, List.set_cons_zero, List.set_cons_succ]
    refine tk 14 ⟨some 19, .move (.tmp 1), 30, "mem.go:42", #[⟨9, .guard⟩], some (9, true)⟩ undef ?_ (hy := Or.inr ⟨by rfl, rfl⟩)
    simp only [Act.put, List.setIfInBounds_toArray, List.set_cons_zero, List.set_cons_succ]
    refine tk 15 ⟨some 20, .nilCheck (.tmp 19), 0, "mem.go:42", #[⟨14, .data⟩, ⟨9, .guard⟩], some (9, true)⟩ undef ?_ (hy := Or.inr ⟨by rfl, rfl⟩)
    simp only [Act.put, List.setIfInBounds_toArray, List.set_cons_zero, List.set_cons_succ]
    refine tk 16 ⟨some 21, .fieldAddr 90 (.tmp 20) 1, 0, "mem.go:42", #[⟨15, .data⟩, ⟨9, .guard⟩], some (9, true)⟩ undef ?_ (hy := Or.inr ⟨by rfl, rfl⟩)
    simp only [Act.put, List.setIfInBounds_toArray, List.set_cons_zero, List.set_cons_succ]
    refine tk 17 ⟨some 22, .load 88 (.tmp 21), 88, "mem.go:42", #[⟨16, .data⟩, ⟨9, .guard⟩], some (9, true)⟩ undef ?_ (hy := Or.inr ⟨by rfl, rfl⟩)
    simp only [Act.put, List.setIfInBounds_toArray, List.set_cons_zero, List.set_cons_succ]
    refine tk 18 ⟨some 23, .call { callee := .value (.func 90), args := #[.tmp 18, .tmp 22], argTypes := #[88, 88] }, 4, "mem.go:42", #[⟨13, .data⟩, ⟨17, .data⟩, ⟨9, .chain⟩, ⟨9, .guard⟩], some (9, true)⟩ undef ?_ (hy := Or.inr ⟨by rfl, rfl⟩)
    simp only [Act.put, List.setIfInBounds_toArray, List.set_cons_zero, List.set_cons_succ]
    refine tk 19 ⟨some 24, .pick (.tmp 14) (.tmp 23) (.const (.bool false)), 4, "mem.go:42", #[⟨9, .data⟩, ⟨18, .data⟩], none⟩ (.bool false) ?_
    simp only [Act.put, List.setIfInBounds_toArray, List.set_cons_zero, List.set_cons_succ]
    refine wpAnyH_ready (rs := [20]) (by kernel_rfl) (by simp) (AllReadyH.cons (o := ⟨some 4, .assign (.tmp 24), 4, "mem.go:42", #[⟨19, .data⟩, ⟨18, .chain⟩, ⟨0, .phase⟩, ⟨1, .phase⟩, ⟨2, .phase⟩, ⟨3, .phase⟩, ⟨4, .phase⟩, ⟨5, .phase⟩, ⟨6, .phase⟩, ⟨7, .phase⟩, ⟨8, .phase⟩, ⟨9, .phase⟩, ⟨10, .phase⟩, ⟨11, .phase⟩, ⟨12, .phase⟩, ⟨13, .phase⟩, ⟨14, .phase⟩, ⟨15, .phase⟩, ⟨16, .phase⟩, ⟨17, .phase⟩, ⟨18, .phase⟩, ⟨19, .phase⟩], none⟩) rfl (fun KQ hK => ?_) AllReadyH.nil)
    go_simp
    refine hK.out _ _ hS1 (fun hHeld => ?_)
    clear hK KQ
    try simp only [Act.put, List.setIfInBounds_toArray, List.set_cons_zero, List.set_cons_succ]
    refine wpAnyH_done (by kernel_rfl) ?_ _
    clear hHeld
    have HB := hid hS1
    clear F1 F2 HX HX'
    go_wp2_with fail
    go_ret
    exact ⟨rfl, HB.out⟩
  · refine wp_region_held_drew (S := fun x => Below w.heap.size w x) (by kernel_rfl) ((Below.refl _ _).drew) (fun hHeld => ?_)
    refine tk 0 ⟨some 5, .move (.tmp 0), 30, "mem.go:42", #[], none⟩ (.pointer (some ⟨f.gm, 0, none⟩)) ?_
    simp only [Act.put, List.setIfInBounds_toArray, List.set_cons_zero, List.set_cons_succ]
    refine tk 1 ⟨some 6, .nilCheck (.tmp 5), 0, "mem.go:42", #[⟨0, .data⟩], none⟩ (.pointer (some ⟨f.gm, 0, none⟩)) ?_
    simp only [Act.put, List.setIfInBounds_toArray, List.set_cons_zero, List.set_cons_succ]
    refine tk 2 ⟨some 7, .fieldAddr 90 (.tmp 6) 0, 0, "mem.go:42", #[⟨1, .data⟩], none⟩ (.pointer (some ⟨f.gm, 0, none⟩)) ?_
    simp only [Act.put, List.setIfInBounds_toArray, List.set_cons_zero, List.set_cons_succ]
    refine tk 3 ⟨some 8, .load 88 (.tmp 7), 88, "mem.go:42", #[⟨2, .data⟩], none⟩ (.slice (some ⟨f.gs, 0, none⟩) m.ns m.ns) ?_ (hy := Or.inl ⟨by rfl, by intro w hSw; have hcc := (HX.out w hSw).1; go_simp⟩)
    simp only [Act.put, List.setIfInBounds_toArray, List.set_cons_zero, List.set_cons_succ]
    refine tk 4 ⟨some 9, .move (.tmp 1), 30, "mem.go:42", #[], none⟩ (.pointer (some ⟨f'.gm, 0, none⟩)) ?_
    simp only [Act.put, List.setIfInBounds_toArray, List.set_cons_zero, List.set_cons_succ]
    refine tk 5 ⟨some 10, .nilCheck (.tmp 9), 0, "mem.go:42", #[⟨4, .data⟩], none⟩ (.pointer (some ⟨f'.gm, 0, none⟩)) ?_
    simp only [Act.put, List.setIfInBounds_toArray, List.set_cons_zero, List.set_cons_succ]
    refine tk 6 ⟨some 11, .fieldAddr 90 (.tmp 10) 0, 0, "mem.go:42", #[⟨5, .data⟩], none⟩ (.pointer (some ⟨f'.gm, 0, none⟩)) ?_
    simp only [Act.put, List.setIfInBounds_toArray, List.set_cons_zero, List.set_cons_succ]
    refine tk 7 ⟨some 12, .load 88 (.tmp 11), 88, "mem.go:42", #[⟨6, .data⟩], none⟩ ((.slice (some ⟨f'.gs, 0, none⟩) m'.ns m'.ns)) ?_ (hy := Or.inl ⟨by rfl, by intro w hSw; have hcc := (HX'.out w hSw).1; go_simp⟩)
    simp only [Act.put, List.setIfInBounds_toArray, List.set_cons_zero, List.set_cons_succ]
    refine wpAnyH_ready (rs := [8]) (by kernel_rfl) (by simp) (AllReadyH.cons (o := ⟨some 13, .call { callee := .value (.func 90), args := #[.tmp 8, .tmp 12], argTypes := #[88, 88] }, 4, "mem.go:42", #[⟨3, .data⟩, ⟨7, .data⟩], none⟩) rfl (fun KQ hK => ?_) AllReadyH.nil)
    go_simp
    refine (F1.out _ ((Below.refl _ _).drew)).mono ?_
    rintro x wa ⟨rfl, hba⟩
    have hS1 := below_on ((Below.refl _ _).drew) hba
    go_wp2_with fail
    refine hK.out _ _ hS1 (fun hHeld => ?_)
    clear hK KQ
    try simp only [Act.put, List.setIfInBounds_toArray, List.set_cons_zero, List.set_cons_succ]
    refine tk 9 ⟨some 14, .move (.tmp 13), 4, "mem.go:42", #[⟨8, .data⟩, ⟨8, .chain⟩], none⟩ (.bool true) ?_
    simp only [Act.put, List.setIfInBounds_toArray, List.set_cons_zero, List.set_cons_succ]
    refine tk 10 ⟨some 15, .move (.tmp 0), 30, "mem.go:42", #[⟨9, .guard⟩], some (9, true)⟩ (.pointer (some ⟨f.gm, 0, none⟩)) ?_
    simp only [Act.put, List.setIfInBounds_toArray, List.set_cons_zero, List.set_cons_succ]
    refine tk 11 ⟨some 16, .nilCheck (.tmp 15), 0, "mem.go:42", #[⟨10, .data⟩, ⟨9, .guard⟩], some (9, true)⟩ (.pointer (some ⟨f.gm, 0, none⟩)) ?_
    simp only [Act.put, List.setIfInBounds_toArray, List.set_cons_zero, List.set_cons_succ]
    refine tk 12 ⟨some 17, .fieldAddr 90 (.tmp 16) 1, 0, "mem.go:42", #[⟨11, .data⟩, ⟨9, .guard⟩], some (9, true)⟩ (.pointer (some ⟨f.gm, 1, none⟩)) ?_
    simp only [Act.put, List.setIfInBounds_toArray, List.set_cons_zero, List.set_cons_succ]
    refine tk 13 ⟨some 18, .load 88 (.tmp 17), 88, "mem.go:42", #[⟨12, .data⟩, ⟨9, .guard⟩], some (9, true)⟩ (.slice (some ⟨f.gi, 0, none⟩) n2 n2) ?_ (hy := Or.inl ⟨by rfl, by intro w hSw; have hcc := (HX.out w hSw).2; go_simp⟩)
    simp only [Act.put, List.setIfInBounds_toArray, List.set_cons_zero, List.set_cons_succ]
    refine tk 14 ⟨some 19, .move (.tmp 1), 30, "mem.go:42", #[⟨9, .guard⟩], some (9, true)⟩ (.pointer (some ⟨f'.gm, 0, none⟩)) ?_
    simp only [Act.put, List.setIfInBounds_toArray, List.set_cons_zero, List.set_cons_succ]
    refine tk 15 ⟨some 20, .nilCheck (.tmp 19), 0, "mem.go:42", #[⟨14, .data⟩, ⟨9, .guard⟩], some (9, true)⟩ (.pointer (some ⟨f'.gm, 0, none⟩)) ?_
    simp only [Act.put, List.setIfInBounds_toArray, List.set_cons_zero, List.set_cons_succ]
    refine tk 16 ⟨some 21, .fieldAddr 90 (.tmp 20) 1, 0, "mem.go:42", #[⟨15, .data⟩, ⟨9, .guard⟩], some (9, true)⟩ (.pointer (some ⟨f'.gm, 1, none⟩)) ?_
    simp only [Act.put, List.setIfInBounds_toArray, List.set_cons_zero, List.set_cons_succ]
    refine tk 17 ⟨some 22, .load 88 (.tmp 21), 88, "mem.go:42", #[⟨16, .data⟩, ⟨9, .guard⟩], some (9, true)⟩ ((.slice (some ⟨f'.gi, 0, none⟩) n3 n3)) ?_ (hy := Or.inl ⟨by rfl, by intro w hSw; have hcc := (HX'.out w hSw).2; go_simp⟩)
    simp only [Act.put, List.setIfInBounds_toArray, List.set_cons_zero, List.set_cons_succ]
    refine wpAnyH_ready (rs := [18]) (by kernel_rfl) (by simp) (AllReadyH.cons (o := ⟨some 23, .call { callee := .value (.func 90), args := #[.tmp 18, .tmp 22], argTypes := #[88, 88] }, 4, "mem.go:42", #[⟨13, .data⟩, ⟨17, .data⟩, ⟨9, .chain⟩, ⟨9, .guard⟩], some (9, true)⟩) rfl (fun KQ hK => ?_) AllReadyH.nil)
    go_simp
    refine (F2.out _ hS1).mono ?_
    rintro x wb ⟨rfl, hbb⟩
    have hS2 := below_on hS1 hbb
    go_wp2_with fail
    refine hK.out _ _ hS2 (fun hHeld => ?_)
    clear hK KQ
    try simp only [Act.put, List.setIfInBounds_toArray, List.set_cons_zero, List.set_cons_succ]
    refine tk 19 ⟨some 24, .pick (.tmp 14) (.tmp 23) (.const (.bool false)), 4, "mem.go:42", #[⟨9, .data⟩, ⟨18, .data⟩], none⟩ (.bool b2) ?_
    simp only [Act.put, List.setIfInBounds_toArray, List.set_cons_zero, List.set_cons_succ]
    refine wpAnyH_ready (rs := [20]) (by kernel_rfl) (by simp) (AllReadyH.cons (o := ⟨some 4, .assign (.tmp 24), 4, "mem.go:42", #[⟨19, .data⟩, ⟨18, .chain⟩, ⟨0, .phase⟩, ⟨1, .phase⟩, ⟨2, .phase⟩, ⟨3, .phase⟩, ⟨4, .phase⟩, ⟨5, .phase⟩, ⟨6, .phase⟩, ⟨7, .phase⟩, ⟨8, .phase⟩, ⟨9, .phase⟩, ⟨10, .phase⟩, ⟨11, .phase⟩, ⟨12, .phase⟩, ⟨13, .phase⟩, ⟨14, .phase⟩, ⟨15, .phase⟩, ⟨16, .phase⟩, ⟨17, .phase⟩, ⟨18, .phase⟩, ⟨19, .phase⟩], none⟩) rfl (fun KQ hK => ?_) AllReadyH.nil)
    go_simp
    refine hK.out _ _ hS2 (fun hHeld => ?_)
    clear hK KQ
    try simp only [Act.put, List.setIfInBounds_toArray, List.set_cons_zero, List.set_cons_succ]
    refine wpAnyH_done (by kernel_rfl) ?_ _
    clear hHeld
    have HB := hid hS2
    clear F1 F2 HX HX'
    go_wp2_with fail
    go_ret
    exact ⟨ret_bool (by simp), HB.out⟩
end Go.Proofs.YtildhjiddidghaaGreatDoor
namespace Go.Proofs.YtildhjiddidghaaGreatDoor
open Go.RowKit
structure DS where
  m : MS
  b : Int
  E : List En
def ew (x : En) : List Int := [e0 x, e1 x]
def wdsOf (b : Int) (E : List En) : List Int := b :: E.flatMap ew
def DS.ws (d : DS) : List Int := wdsOf d.b d.E
def DS.at (d : DS) (p : Nat) : En := d.E.getD p En.zero
structure Dp where
  g : Nat
  gw : Nat
  f : Fp
structure DS.Ok (d : DS) : Prop where
  len : d.E.length = d.m.ns
  n64 : d.m.ns ≤ 64
  ok : ∀ k, k < d.m.ns → (d.at k).ok = true
  own : ∀ k, k < d.m.ns → (d.at k).o < (d.m.ns : Int)
  b0 : 0 ≤ d.b
  b1 : d.b ≤ 64
structure DB (w : World) (p : Dp) (d : DS) : Prop where
  mem : Mem w p.f d.m
  cel : Cel w p.g 85 [ptr p.f.gm, .slice (some ⟨p.gw, 0, none⟩) (1 + 2 * d.m.ns) (1 + 2 * d.m.ns)]
  wds : Cel w p.gw 22 (u32s d.ws)
  ok : d.Ok
def Dp.all (p : Dp) : List Nat := p.g :: p.gw :: p.f.all
def Dp.w (p : Dp) : List Nat := p.gw :: p.f.w
theorem flat_len (E : List En) : (E.flatMap ew).length = 2 * E.length := by
  induction E with
  | nil => rfl
  | cons x E ih => simp only [List.flatMap_cons, List.length_append, ih, ew, List.length_cons, List.length_nil]; omega
theorem wdsOf_len (b : Int) (E : List En) : (wdsOf b E).length = 1 + 2 * E.length := by simp only [wdsOf, List.length_cons, flat_len]; omega
theorem DS.ws_len {d : DS} (h : d.Ok) : d.ws.length = 1 + 2 * d.m.ns := by rw [DS.ws, wdsOf_len, h.len]
theorem flat_at (E : List En) (k : Nat) (h : k < E.length) : (E.flatMap ew)[2 * k]? = some (e0 (E.getD k En.zero)) ∧ (E.flatMap ew)[2 * k + 1]? = some (e1 (E.getD k En.zero)) := by
  induction E generalizing k with
  | nil => simp at h
  | cons x E ih =>
    cases k with
    | zero => exact ⟨rfl, rfl⟩
    | succ k =>
      have := ih k (by simpa using h)
      simp only [List.flatMap_cons, ew, List.cons_append, List.nil_append]
      rw [show 2 * (k + 1) = 2 * k + 1 + 1 by omega]
      simpa using this
theorem wdsOf_at (b : Int) (E : List En) (k : Nat) (h : k < E.length) : (wdsOf b E)[1 + 2 * k]? = some (e0 (E.getD k En.zero)) ∧ (wdsOf b E)[2 + 2 * k]? = some (e1 (E.getD k En.zero)) := by
  have := flat_at E k h
  rw [wdsOf, show 1 + 2 * k = 2 * k + 1 by omega, show 2 + 2 * k = 2 * k + 1 + 1 by omega]
  simpa using this
theorem flat_set (E : List En) (k : Nat) (x : En) (h : k < E.length) : (E.set k x).flatMap ew = ((E.flatMap ew).set (2 * k) (e0 x)).set (2 * k + 1) (e1 x) := by
  induction E generalizing k with
  | nil => simp at h
  | cons y E ih =>
    cases k with
    | zero => simp [ew]
    | succ k =>
      have := ih k (by simpa using h)
      simp only [List.set_cons_succ, List.flatMap_cons, this, ew, List.cons_append, List.nil_append]
      rw [show 2 * (k + 1) = 2 * k + 1 + 1 by omega, show 2 * k + 1 + 1 + 1 = (2 * k + 1) + 1 + 1 by omega]
      simp
theorem wdsOf_set (b : Int) (E : List En) (k : Nat) (x : En) (h : k < E.length) : wdsOf b (E.set k x) = ((wdsOf b E).set (1 + 2 * k) (e0 x)).set (2 + 2 * k) (e1 x) := by
  rw [wdsOf, wdsOf, flat_set E k x h, show 1 + 2 * k = 2 * k + 1 by omega, show 2 + 2 * k = 2 * k + 1 + 1 by omega]
  simp
theorem ws_range {b : Int} (h0 : 0 ≤ b) (h1 : b ≤ 64) (E : List En) : ∀ x ∈ wdsOf b E, 0 ≤ x ∧ x < 4294967296 := by
  intro x hx
  simp only [wdsOf, List.mem_cons, List.mem_flatMap, ew, List.not_mem_nil, or_false] at hx
  rcases hx with rfl | ⟨y, _, rfl | rfl⟩
  · omega
  · exact e0_range y
  · exact e1_range y
theorem DB.lt {w : World} {p : Dp} {d : DS} (h : DB w p d) : ∀ k ∈ p.all, k < w.heap.size := by
  intro k hk
  simp only [Dp.all, List.mem_cons] at hk
  rcases hk with rfl | rfl | hk
  · exact h.cel.lt
  · exact h.wds.lt
  · exact h.mem.lt k hk
theorem DB.frame {w w' : World} {p : Dp} {d : DS} {G : List Nat} (h : DB w p d) (hb : ButL G w w') (hd : ∀ k ∈ p.all, k ∉ G) : DB w' p d :=
  ⟨h.mem.frame hb (fun k hk => hd k (by simp [Dp.all, hk])), h.cel.but hb (hd _ (by simp [Dp.all])), h.wds.but hb (hd _ (by simp [Dp.all])), h.ok⟩
theorem DB.on {w w' : World} {p : Dp} {d : DS} (h : DB w p d) (hb : Below w.heap.size w w') : DB w' p d := h.frame (G := []) (.of hb) (by simp)
theorem Mem.ty_w {w : World} {f : Fp} {m : MS} (h : Mem w f m) : ∀ k ∈ f.all, ∀ t cs, Cel w k t cs → t = 90 ∨ t = 153 ∨ t = 156 := by
  intro k hk t cs hc
  simp only [Fp.all, List.mem_cons] at hk
  rcases hk with rfl | rfl | rfl | hk
  · exact .inl (hc.ty h.cel)
  · exact .inr (.inl (hc.ty h.sec))
  · exact .inr (.inl (hc.ty h.ins))
  · obtain ⟨i, hi, rfl⟩ := List.mem_iff_getElem.1 hk
    have := h.pg i (by rw [← h.len]; exact hi)
    simp only [Fp.b, List.getD_eq_getElem?_getD, List.getElem?_eq_getElem hi, Option.getD_some] at this
    exact .inr (.inr (hc.ty this))
theorem Mem.off {w : World} {f : Fp} {m : MS} (h : Mem w f m) {g : Nat} {t : TypeId} {cs : List Value} (hc : Cel w g t cs) (ht : t ≠ 90 ∧ t ≠ 153 ∧ t ≠ 156) : g ∉ f.all := fun hm => by
  rcases h.ty_w g hm t cs hc with e | e | e
  · exact ht.1 e
  · exact ht.2.1 e
  · exact ht.2.2 e
theorem Fp.w_all {f : Fp} {k : Nat} (h : k ∈ f.w) : k ∈ f.all := by
  simp only [Fp.w, Fp.all, List.mem_cons] at h ⊢
  rcases h with h | h <;> simp [h]
theorem DB.memory {w w' : World} {p : Dp} {d : DS} {m' : MS} (h : DB w p d) (hm : Mem w' p.f m') (hb : ButL p.f.w w w') (hn : m'.ns = d.m.ns) : DB w' p { d with m := m' } :=
  ⟨hm, by simpa only [hn] using h.cel.but hb (fun hk => h.mem.off h.cel (by decide) (Fp.w_all hk)), h.wds.but hb (fun hk => h.mem.off h.wds (by decide) (Fp.w_all hk)), by
    obtain ⟨a, b, c, e, f, g⟩ := h.ok
    exact ⟨by simpa only [hn] using a, by simpa only [hn] using b, fun k hk => c k (by have hk' : k < m'.ns := hk; omega), fun k hk => by
      have hk' : k < m'.ns := hk
      have := e k (by omega)
      show (d.at k).o < (m'.ns : Int)
      rw [hn]; exact this, f, g⟩⟩
theorem DB.words {w w' : World} {p : Dp} {d : DS} {b' : Int} {E' : List En} (h : DB w p d) (hc : Cel w' p.gw 22 (u32s (wdsOf b' E'))) (hb : ButL [p.gw] w w') (hk : DS.Ok { d with b := b', E := E' }) : DB w' p { d with b := b', E := E' } := by
  have h1 : p.g ∉ [p.gw] := fun hm => by rw [List.mem_singleton] at hm; have := h.cel; rw [hm] at this; exact absurd (this.ty h.wds) (by decide)
  refine ⟨h.mem.frame hb (fun k hk hm => ?_), h.cel.but hb h1, hc, hk⟩
  rw [List.mem_singleton] at hm
  subst hm
  exact h.mem.off h.wds (by decide) hk
structure DV (w : World) (g gm gw off n c : Nat) (L : List Int) : Prop where
  cel : Cel w g 85 [ptr gm, .slice (some ⟨gw, off, none⟩) n c]
  rng : w.rangeAt gw off (u32s L)
  len : L.length = n
  lt : gw < w.heap.size
theorem DV.on {w w' : World} {g gm gw off n c : Nat} {L : List Int} (h : DV w g gm gw off n c L) (hb : Below w.heap.size w w') : DV w' g gm gw off n c L :=
  ⟨h.cel.on hb, fun j v hv => by
    have := h.rng j v hv
    unfold World.cell? at this ⊢
    rw [hb.block gw h.lt]
    exact this, h.len, by have := hb.size; have := h.lt; omega⟩
theorem DV.at {w : World} {g gm gw off n c : Nat} {L : List Int} (h : DV w g gm gw off n c L) (j : Nat) (x : Int) (hj : L[j]? = some x) : w.cell? ⟨gw, off + j, none⟩ = some (.int .u32 x) := h.rng j _ (by rw [u32s, List.getElem?_map, hj]; rfl)
theorem DB.dv {w : World} {p : Dp} {d : DS} (h : DB w p d) : DV w p.g p.f.gm p.gw 0 (1 + 2 * d.m.ns) (1 + 2 * d.m.ns) d.ws := ⟨h.cel, h.wds.range, d.ws_len h.ok, h.wds.lt⟩
end Go.Proofs.YtildhjiddidghaaGreatDoor
namespace Go.Proofs.YtildhjiddidghaaGreatDoor
open Go.RowKit
set_option maxHeartbeats 4000000
set_option maxRecDepth 100000
theorem place_any (W : World) (p : Int) (h0 : 0 ≤ p) (h1 : p ≤ 1000) : Calls Tryz.prog 108 #[.int .i64 p] W fun x W' => x = .returned (.int .i64 (1 + 2 * p)) ∧ W = W' := by
  have q : wrap64 (2 * p) = 2 * p := by unfold wrap64; omega
  have q2 : wrap64 (1 + 2 * p) = 1 + 2 * p := by unfold wrap64; omega
  go_enter Tryz.func108, Tryz.ntmps108
  go_wp2_with fail
  go_ret
  exact ⟨rfl, rfl⟩
theorem secure_any (W : World) (f : Fp) (m : MS) (h : Mem W f m) : Calls Tryz.prog 48 #[ptr f.gm] W fun x W' => x = .returned (.int .i64 (m.ns : Int)) ∧ W = W' := by
  have c0 := h.cel.cell 0
  simp only [List.getElem?_cons_zero] at c0
  clear h
  simp only [ptr] at *
  go_enter Tryz.func48, Tryz.ntmps48
  go_wp2_with fail
  go_ret
  exact ⟨rfl, rfl⟩
theorem size_any (W : World) (f : Fp) (m : MS) (h : Mem W f m) : Calls Tryz.prog 61 #[ptr f.gm] W fun x W' => x = .returned (.int .i64 (1 + 2 * (m.ns : Int))) ∧ W = W' := by
  have HS := hid (secure_any W f m h)
  have h1 := h.ns0
  have h2 := h.most
  have n0 : 0 ≤ (m.ns : Int) := by omega
  have n1 : (m.ns : Int) ≤ 1000 := by omega
  clear h h1 h2
  simp only [ptr] at *
  go_enter Tryz.func61, Tryz.ntmps61
  go_wp2_with fail
  refine HS.out.mono ?_
  rintro x w1 ⟨rfl, rfl⟩
  go_wp2_with fail
  refine (place_any _ _ n0 n1).mono ?_
  rintro x w1 ⟨rfl, rfl⟩
  go_wp2_with fail
  go_ret
  exact ⟨rfl, rfl⟩
theorem pages_dv {W : World} {g gw off n c : Nat} {L : List Int} {f : Fp} {m : MS} (h : Mem W f m) (hd : DV W g f.gm gw off n c L) : Calls Tryz.prog 15 #[ptr g] W fun x W' => x = .returned (.int .i64 (m.ns : Int)) ∧ W = W' := by
  have HS := hid (secure_any W f m h)
  have c0 := hd.cel.cell 0
  simp only [List.getElem?_cons_zero] at c0
  clear h hd
  simp only [ptr] at *
  go_enter Tryz.func15, Tryz.ntmps15
  go_wp2_with fail
  refine HS.out.mono ?_
  rintro x w1 ⟨rfl, rfl⟩
  go_wp2_with fail
  go_ret
  exact ⟨rfl, rfl⟩
theorem pages_any (W : World) (p : Dp) (d : DS) (h : DB W p d) : Calls Tryz.prog 15 #[ptr p.g] W fun x W' => x = .returned (.int .i64 (d.m.ns : Int)) ∧ W = W' := pages_dv h.mem h.dv
theorem births_any (W : World) (p : Dp) (d : DS) (h : DB W p d) : Calls Tryz.prog 110 #[ptr p.g] W fun x W' => x = .returned (.int .i64 d.b) ∧ W = W' := by
  have c0 := h.cel.cell 1
  have c1 := h.dv.at 0 d.b rfl
  have n0 : (0 : Int) < ((1 + 2 * d.m.ns : Nat) : Int) := by omega
  have b0 : wrap64 d.b = d.b := by have := h.ok.b0; have := h.ok.b1; unfold wrap64; omega
  simp only [List.getElem?_cons_zero, List.getElem?_cons_succ] at c0
  clear h
  simp only [ptr] at *
  generalize 1 + 2 * d.m.ns = n at *
  go_enter Tryz.func110, Tryz.ntmps110
  go_wp2_with fail
  go_ret
  exact ⟨ret_int b0, rfl⟩
theorem memory_any (W : World) (p : Dp) (d : DS) (h : DB W p d) : Calls Tryz.prog 53 #[ptr p.g] W fun x W' => x = .returned (ptr p.f.gm) ∧ W = W' := by
  have c0 := h.cel.cell 0
  simp only [List.getElem?_cons_zero] at c0
  clear h
  simp only [ptr] at *
  go_enter Tryz.func53, Tryz.ntmps53
  go_wp2_with fail
  go_ret
  exact ⟨rfl, rfl⟩
theorem frame_any (W : World) (p : Int) : Calls Tryz.prog 68 #[.int .i64 p] W fun x W' => x = .returned (fr true p) ∧ Below W.heap.size W W' := by
  unfold fr
  go_enter Tryz.func68, Tryz.ntmps68
  go_wp2_with fail
  go_returns
  exact ⟨rfl, below_one _ _⟩
end Go.Proofs.YtildhjiddidghaaGreatDoor
namespace Go.Proofs.YtildhjiddidghaaGreatDoor
open Go.RowKit
set_option maxHeartbeats 8000000
set_option maxRecDepth 100000
theorem wr64 (x : Int) (h0 : -9223372036854775808 ≤ x) (h1 : x ≤ 9223372036854775807) : IntKind.wrap .i64 x = x := by rw [IntKind.wrap_i64]; omega
theorem DV.but {G : List Nat} {w w' : World} {g gm gw off n c : Nat} {L : List Int} (h : DV w g gm gw off n c L) (hb : ButL G w w') (h1 : g ∉ G) (h2 : gw ∉ G) : DV w' g gm gw off n c L :=
  ⟨h.cel.but hb h1, fun j v hv => by
    have := h.rng j v hv
    unfold World.cell? at this ⊢
    rw [hb.block gw h.lt h2]
    exact this, h.len, by have := hb.size; have := h.lt; omega⟩
theorem DV.sl {w : World} {g gm gw off n c : Nat} {L : List Int} (h : DV w g gm gw off n c L) : w.cell? ⟨g, 1, none⟩ = some (.slice (some ⟨gw, off, none⟩) n c) := h.cel.cell 1
theorem DV.mp {w : World} {g gm gw off n c : Nat} {L : List Int} (h : DV w g gm gw off n c L) : w.cell? ⟨g, 0, none⟩ = some (ptr gm) := h.cel.cell 0
theorem pair_any (W : World) {g gm gw off n c : Nat} {L : List Int} (h : DV W g gm gw off n c L) (k : Nat) (hk : 2 * k + 2 < n) (hk1 : k ≤ 1000) (a b : Int) (ha : L[1 + 2 * k]? = some a) (hb : L[2 + 2 * k]? = some b) :
    Calls Tryz.prog 113 #[ptr g, .int .i64 (k : Int)] W fun x W' => x = .returned (twoV a b) ∧ Below W.heap.size W W' := by
  have q0 : 0 ≤ (k : Int) := by omega
  have q1 : (k : Int) ≤ 1000 := by omega
  have HP := hid (fun W => place_any W (k : Int) q0 q1)
  have HX := hid (h.on (below_one W (.cells #[.int .u32 0, .int .u32 0] 158)))
  have HC := hid (Cel.new W 158 [.int .u32 0, .int .u32 0])
  have HB := hid (below_one W (.cells #[.int .u32 0, .int .u32 0] 158))
  have HL : Hid (g < W.heap.size ∧ gw < W.heap.size) := hid ⟨h.cel.lt, h.lt⟩
  have HA : Hid (∀ w, DV w g gm gw off n c L → w.cell? ⟨gw, off + (1 + 2 * (k : Int)).toNat, none⟩ = some (.int .u32 a) ∧ w.cell? ⟨gw, off + (1 + 2 * (k : Int) + 1).toNat, none⟩ = some (.int .u32 b)) := hid (fun w hw => by
    rw [show (1 + 2 * (k : Int)).toNat = 1 + 2 * k by omega, show (1 + 2 * (k : Int) + 1).toNat = 2 + 2 * k by omega]
    exact ⟨hw.at _ _ ha, hw.at _ _ hb⟩)
  have i0 : 0 ≤ 1 + 2 * (k : Int) := by omega
  have i1 : 1 + 2 * (k : Int) < (n : Int) := by omega
  have i2 : 0 ≤ 1 + 2 * (k : Int) + 1 := by omega
  have i3 : 1 + 2 * (k : Int) + 1 < (n : Int) := by omega
  have iw : IntKind.wrap .i64 (1 + 2 * (k : Int) + 1) = 1 + 2 * (k : Int) + 1 := wr64 _ (by omega) (by omega)
  clear h ha hb hk hk1 q0 q1
  simp only [ptr, twoV, two] at *
  go_enter Tryz.func113, Tryz.ntmps113
  go_upto_region 2 with (go_at_call 108; refine (HP.out _).mono ?_; rintro x w1 ⟨rfl, rfl⟩)
  clear HP
  generalize 1 + 2 * (k : Int) = i at *
  generalize W.alloc _ = X at *
  generalize hg : W.heap.size = g4 at HC HL ⊢
  have HG := hid hg
  clear hg
  have HX0 := hid (HX.out.on (Below.refl _ _).drew)
  have HC0 := hid (HC.out.on (Below.refl _ _).drew)
  have HB0 := hid (below_on HB.out (Below.refl _ _).drew)
  clear HX HC HB
  refine wp_region_held_drew (S := fun w => DV w g gm gw off n c L) (by kernel_rfl) HX0.out (fun hHeld => ?_)
  refine tk 0 ⟨some 8, .move (.tmp 0), 31, "words.go:16", #[], none⟩ (.pointer (some ⟨g, 0, none⟩)) ?_
  simp only [Act.put, List.setIfInBounds_toArray, List.set_cons_zero, List.set_cons_succ]
  refine tk 1 ⟨some 9, .nilCheck (.tmp 8), 0, "words.go:16", #[⟨0, .data⟩], none⟩ (.pointer (some ⟨g, 0, none⟩)) ?_
  simp only [Act.put, List.setIfInBounds_toArray, List.set_cons_zero, List.set_cons_succ]
  refine tk 2 ⟨some 10, .fieldAddr 85 (.tmp 9) 1, 0, "words.go:16", #[⟨1, .data⟩], none⟩ (.pointer (some ⟨g, 1, none⟩)) ?_
  simp only [Act.put, List.setIfInBounds_toArray, List.set_cons_zero, List.set_cons_succ]
  refine tk 3 ⟨some 11, .load 40 (.tmp 10), 40, "words.go:16", #[⟨2, .data⟩], none⟩ (.slice (some ⟨gw, off, none⟩) n c) ?_ (hy := Or.inl ⟨by rfl, by intro w hSw; have hc := hSw.sl; go_simp⟩)
  simp only [Act.put, List.setIfInBounds_toArray, List.set_cons_zero, List.set_cons_succ]
  refine tk 4 ⟨some 12, .move (.tmp 5), 3, "words.go:16", #[], none⟩ (.int .i64 i) ?_
  simp only [Act.put, List.setIfInBounds_toArray, List.set_cons_zero, List.set_cons_succ]
  refine tk 5 ⟨some 13, .indexAddr 40 (.tmp 11) (.tmp 12), 0, "words.go:16", #[⟨3, .data⟩, ⟨4, .data⟩], none⟩ (.pointer (some ⟨gw, off + i.toNat, none⟩)) ?_
  simp only [Act.put, List.setIfInBounds_toArray, List.set_cons_zero, List.set_cons_succ]
  refine tk 6 ⟨some 14, .load 22 (.tmp 13), 22, "words.go:16", #[⟨5, .data⟩], none⟩ (.int .u32 a) ?_ (hy := Or.inl ⟨by rfl, by intro w hSw; have hc := (HA.out w hSw).1; go_simp⟩)
  simp only [Act.put, List.setIfInBounds_toArray, List.set_cons_zero, List.set_cons_succ]
  refine tk 7 ⟨some 15, .move (.tmp 0), 31, "words.go:16", #[], none⟩ (.pointer (some ⟨g, 0, none⟩)) ?_
  simp only [Act.put, List.setIfInBounds_toArray, List.set_cons_zero, List.set_cons_succ]
  refine tk 8 ⟨some 16, .nilCheck (.tmp 15), 0, "words.go:16", #[⟨7, .data⟩], none⟩ (.pointer (some ⟨g, 0, none⟩)) ?_
  simp only [Act.put, List.setIfInBounds_toArray, List.set_cons_zero, List.set_cons_succ]
  refine tk 9 ⟨some 17, .fieldAddr 85 (.tmp 16) 1, 0, "words.go:16", #[⟨8, .data⟩], none⟩ (.pointer (some ⟨g, 1, none⟩)) ?_
  simp only [Act.put, List.setIfInBounds_toArray, List.set_cons_zero, List.set_cons_succ]
  refine tk 10 ⟨some 18, .load 40 (.tmp 17), 40, "words.go:16", #[⟨9, .data⟩], none⟩ (.slice (some ⟨gw, off, none⟩) n c) ?_ (hy := Or.inl ⟨by rfl, by intro w hSw; have hc := hSw.sl; go_simp⟩)
  simp only [Act.put, List.setIfInBounds_toArray, List.set_cons_zero, List.set_cons_succ]
  refine tk 11 ⟨some 19, .move (.tmp 5), 3, "words.go:16", #[], none⟩ (.int .i64 i) ?_
  simp only [Act.put, List.setIfInBounds_toArray, List.set_cons_zero, List.set_cons_succ]
  refine tk 12 ⟨some 20, .binOp .add 3 (.tmp 19) (.const (.int .i64 1)) 3, 3, "words.go:16", #[⟨11, .data⟩], none⟩ (.int .i64 (i + 1)) ?_
  simp only [Act.put, List.setIfInBounds_toArray, List.set_cons_zero, List.set_cons_succ]
  refine tk 13 ⟨some 21, .indexAddr 40 (.tmp 18) (.tmp 20), 0, "words.go:16", #[⟨10, .data⟩, ⟨12, .data⟩], none⟩ (.pointer (some ⟨gw, off + (i + 1).toNat, none⟩)) ?_
  simp only [Act.put, List.setIfInBounds_toArray, List.set_cons_zero, List.set_cons_succ]
  refine tk 14 ⟨some 22, .load 22 (.tmp 21), 22, "words.go:16", #[⟨13, .data⟩], none⟩ (.int .u32 b) ?_ (hy := Or.inl ⟨by rfl, by intro w hSw; have hc := (HA.out w hSw).2; go_simp⟩)
  simp only [Act.put, List.setIfInBounds_toArray, List.set_cons_zero, List.set_cons_succ]
  refine tk 15 ⟨some 23, .build 158 #[(0, .tmp 14), (1, .tmp 22)], 158, "words.go:16", #[⟨6, .data⟩, ⟨14, .data⟩], none⟩ (.agg #[.int .u32 a, .int .u32 b]) ?_
  simp only [Act.put, List.setIfInBounds_toArray, List.set_cons_zero, List.set_cons_succ]
  refine wpAnyH_ready (rs := [16]) (by kernel_rfl) (by simp) (AllReadyH.cons (o := ⟨none, .store 158 (.tmp 4) (.tmp 23), 0, "words.go:16", #[⟨15, .data⟩, ⟨0, .phase⟩, ⟨1, .phase⟩, ⟨2, .phase⟩, ⟨3, .phase⟩, ⟨4, .phase⟩, ⟨5, .phase⟩, ⟨6, .phase⟩, ⟨7, .phase⟩, ⟨8, .phase⟩, ⟨9, .phase⟩, ⟨10, .phase⟩, ⟨11, .phase⟩, ⟨12, .phase⟩, ⟨13, .phase⟩, ⟨14, .phase⟩, ⟨15, .phase⟩], none⟩) rfl (fun KQ hK => ?_) AllReadyH.nil)
  rw [if_pos (by rfl)]
  refine wp_store_st 158 _ _ rfl g4 (two a b) rfl rfl HC0.out sizeA rfl rfl ?_
  intro w2 hc hb hs
  have HX1 := hid (HX0.out.but hb (by have := HL.out.1; simp; omega) (by have := HL.out.2; simp; omega))
  have HE := hid (And.intro hc (HB0.out.trans (hb.below (by have := HG.out; simp; omega) HB0.out.size)))
  clear hc hb hs
  refine hK.out _ _ HX1.out (fun hHeld => ?_)
  clear hK KQ
  try simp only [Act.put]
  refine wpAnyH_done (by kernel_rfl) ?_ _
  go_wp2_with fail
  exact ret_st rfl rfl g4 _ rfl HE.out.1 underA rfl (by rw [sizeA]; rfl) ⟨rfl, HE.out.2⟩
theorem bag_one (W : World) (t : TypeId) (cs : List Value) : Bag W (W.alloc (.cells cs.toArray t)) [(W.heap.size, t, cs)] :=
  ⟨fun p hp => by rw [List.mem_singleton] at hp; subst hp; exact Cel.new W t cs, below_one _ _⟩
theorem Bag.put {W w w2 : World} {L : List (Nat × TypeId × List Value)} (h : Bag W w L) (k : Nat) {g : Nat} {t : TypeId} {cs es : List Value} (_hk : L[k]? = some (g, t, cs)) (hg : W.heap.size ≤ g) (hne : ∀ j q, L[j]? = some q → j ≠ k → q.1 ≠ g) (hc : Cel w2 g t es) (hb : ButL [g] w w2) : Bag W w2 (L.set k (g, t, es)) :=
  ⟨fun q hq => by
    obtain ⟨j, hj⟩ := List.mem_iff_getElem?.1 hq
    rw [List.getElem?_set] at hj
    by_cases e : k = j
    · subst e
      rw [if_pos rfl] at hj
      split at hj
      · injection hj with hj; subst hj; exact hc
      · cases hj
    · rw [if_neg e] at hj
      exact (h.all q (List.mem_of_getElem? hj)).but hb (by rw [List.mem_singleton]; exact hne j q hj (fun h => e h.symm)), h.below.trans (hb.below (by simpa using hg) h.below.size)⟩
theorem at_dv (W : World) {g gm gw off n c : Nat} {L : List Int} (h : DV W g gm gw off n c L) (k : Nat) (hk : 2 * k + 2 < n) (hk1 : k ≤ 1000) (a b : Int) (ha : L[1 + 2 * k]? = some a) (hb : L[2 + 2 * k]? = some b) (a0 : 0 ≤ a) (a1 : a < 4294967296) (b0 : 0 ≤ b) (b1 : b < 4294967296) :
    Calls Tryz.prog 74 #[ptr g, .int .i64 (k : Int)] W fun x W' => x = .returned (dec a b).v ∧ Below W.heap.size W W' := by
  have HX := hid (h.on (below_one W (.cells En.zero.cs.toArray 92)))
  have B0 := hid (bag_one W 92 En.zero.cs)
  have HP := hid (fun w (hw : DV w g gm gw off n c L) => pair_any w hw k hk hk1 a b ha hb)
  have HD := hid (fun W => decode_any W a b a0 a1 b0 b1)
  clear h ha hb a0 a1 b0 b1 hk hk1
  generalize dec a b = D at *
  generalize decE a b = DE at *
  simp only [ptr, En.v, En.zero, En.cs] at HX B0 HP HD ⊢
  go_enter Tryz.func74, Tryz.ntmps74
  go_upto_region 1 with fail
  generalize W.alloc _ = X at *
  generalize hg : W.heap.size = g4 at B0 ⊢
  have HG := hid hg
  clear hg
  go_upto_region 2 with (first | (go_at_call 113; refine (HP.out _ HX.out).mono ?_; rintro x w1 ⟨rfl, hb⟩; have B1 := hid (B0.out.on hb); clear hb) | (go_at_call 112; refine (HD.out _).mono ?_; rintro x w2 ⟨rfl, hb⟩; have B2 := hid (B1.out.on hb); clear hb) | (refine wpList_store_st rfl 92 _ _ rfl w2.heap.size D.cs rfl rfl (Cel.new w2 92 En.zero.cs) sizeE rfl rfl ?_; intro w3 hc hb hs; have B3 := hid (B2.out.add hc hb); clear hc hb hs))
  clear B0 B1
  have HL : Hid (w2.heap.size ≠ g4) := hid (by have := (B2.out.get 0 rfl).lt; omega)
  generalize w2.heap.size = g5 at *
  go_wp2_with (first | (refine wpList_load_mid rfl 92 _ rfl g5 0 rfl _ _ ((B3.out.get 0 rfl).range) underE rfl (by rw [sizeE]; rfl) ?_) | (refine wpList_store_st rfl 92 _ _ rfl g4 D.cs rfl rfl (B3.out.get 1 rfl) sizeE rfl rfl ?_; intro w4 hc hb hs; have HE := hid (And.intro hc (B3.out.below.trans (hb.below (by have := HG.out; simp; omega) B3.out.below.size))); clear hc hb hs))
  exact ret_st rfl rfl g4 _ rfl HE.out.1 underE rfl (by rw [sizeE]; rfl) ⟨rfl, HE.out.2⟩
theorem dat_any (W : World) (p : Dp) (d : DS) (h : DB W p d) (k : Nat) (hk : k < d.m.ns) :
    Calls Tryz.prog 74 #[ptr p.g, .int .i64 (k : Int)] W fun x W' => x = .returned (d.at k).v ∧ Below W.heap.size W W' := by
  have h1 := wdsOf_at d.b d.E k (by rw [h.ok.len]; exact hk)
  have h2 := h.ok.n64
  have h3 := (dec_w (h.ok.ok k hk)).1
  have := at_dv W h.dv k (by omega) (by omega) (e0 (d.at k)) (e1 (d.at k)) h1.1 h1.2 (e0_range _).1 (e0_range _).2 (e1_range _).1 (e1_range _).2
  rwa [h3] at this
def DS.there (d : DS) (p : Int) : Bool := decide (0 ≤ p ∧ p < (d.m.ns : Int))
def DS.ent (d : DS) (p : Int) : En := if d.there p = true then d.at p.toNat else En.zero
def DS.entE (d : DS) (p : Int) : Int := if d.there p = true then 0 else 5
theorem built_zE : Tryz.prog.built 92 [] = some En.zero.cs.toArray := by kernel_rfl
theorem wpList_build_zE {ops : Array Oper} {rest : List Oper} {o : Oper} {a : Act} {w : World} {Q : Exit → Act → World → Prop} (hgd : o.guard = none) (ho : o.op = .build 92 #[])
    (h : wpList Tryz.prog ops Q rest (a.put o.dst (.agg En.zero.cs.toArray)) w) : wpList Tryz.prog ops Q (o :: rest) a w :=
  wpList_build_f hgd 92 _ ho #[] (by simp) _ built_zE h
theorem entry_any (W : World) (p : Dp) (d : DS) (h : DB W p d) (q : Int) :
    Calls Tryz.prog 49 #[ptr p.g, .int .i64 q] W fun x W' => x = .returned (.tuple #[(d.ent q).v, .int .i64 (d.entE q)]) ∧ Below W.heap.size W W' := by
  have B0 := hid (bag_one W 92 En.zero.cs)
  have HX := hid (h.on (below_one W (.cells En.zero.cs.toArray 92)))
  have HP := hid (fun w (hw : DB w p d) => pages_any w p d hw)
  by_cases hq : 0 ≤ q ∧ q < (d.m.ns : Int)
  · have ht : d.there q = true := decide_eq_true hq
    obtain ⟨q0, q1⟩ := hq
    have HA := hid (fun w (hw : DB w p d) => dat_any w p d hw q.toNat (by omega))
    rw [Int.toNat_of_nonneg q0] at HA
    have e1 : d.ent q = d.at q.toNat := by simp [DS.ent, ht]
    have e2 : d.entE q = 0 := by simp [DS.entE, ht]
    rw [e1, e2]
    clear e1 e2 ht h
    generalize d.at q.toNat = D at *
    generalize (d.m.ns : Int) = n at *
    simp only [ptr, En.v, En.zero, En.cs] at HX B0 HP HA ⊢
    go_enter Tryz.func49, Tryz.ntmps49
    go_upto_region 1 with fail
    generalize W.alloc _ = X at *
    generalize hg : W.heap.size = g4 at B0 ⊢
    have HG := hid hg
    clear hg
    go_wp2_with (first | (go_at_call 15; refine (HP.out _ HX.out).mono ?_; rintro x w1 ⟨rfl, rfl⟩; clear HP) | (go_at_call 74; refine (HA.out _ HX.out).mono ?_; rintro x w2 ⟨rfl, hb⟩; have B1 := hid (B0.out.on hb); clear hb) | (revert B1; intro B1; refine wpList_store_st rfl 92 _ _ rfl g4 D.cs rfl rfl (B1.out.get 0 rfl) sizeE rfl rfl ?_; intro w4 hc hb hs; have HE := hid (And.intro hc (B1.out.below.trans (hb.below (by have := HG.out; simp; omega) B1.out.below.size))); clear hc hb hs))
    exact ret_st2 rfl rfl g4 _ rfl HE.out.1 underE rfl sizeE ⟨rfl, HE.out.2⟩
  · have ht : d.there q = false := decide_eq_false hq
    have e1 : d.ent q = En.zero := by simp [DS.ent, ht]
    have e2 : d.entE q = 5 := by simp [DS.entE, ht]
    rw [e1, e2]
    have hq' : q < 0 ∨ (0 ≤ q ∧ (d.m.ns : Int) ≤ q) := by omega
    clear e1 e2 ht h hq
    generalize (d.m.ns : Int) = n at *
    simp only [ptr, En.v, En.zero, En.cs] at HX B0 HP ⊢
    rcases hq' with hq | ⟨hq0, hq⟩
    · go_enter Tryz.func49, Tryz.ntmps49
      go_upto_region 1 with fail
      generalize W.alloc _ = X at *
      generalize hg : W.heap.size = g4 at B0 ⊢
      have HG := hid hg
      clear hg
      go_wp2_with (first | (refine wpList_build_zE rfl rfl ?_) | (refine wpList_store_st rfl 92 _ _ rfl g4 En.zero.cs rfl rfl (B0.out.get 0 rfl) sizeE rfl rfl ?_; intro w4 hc hb hs; have HE := hid (And.intro hc (B0.out.below.trans (hb.below (by have := HG.out; simp; omega) B0.out.below.size))); clear hc hb hs))
      exact ret_st2 rfl rfl g4 _ rfl HE.out.1 underE rfl sizeE ⟨rfl, HE.out.2⟩
    · go_enter Tryz.func49, Tryz.ntmps49
      go_upto_region 1 with fail
      generalize W.alloc _ = X at *
      generalize hg : W.heap.size = g4 at B0 ⊢
      have HG := hid hg
      clear hg
      go_wp2_with (first | (go_at_call 15; refine (HP.out _ HX.out).mono ?_; rintro x w1 ⟨rfl, rfl⟩; clear HP) | (refine wpList_build_zE rfl rfl ?_) | (refine wpList_store_st rfl 92 _ _ rfl g4 En.zero.cs rfl rfl (B0.out.get 0 rfl) sizeE rfl rfl ?_; intro w4 hc hb hs; have HE := hid (And.intro hc (B0.out.below.trans (hb.below (by have := HG.out; simp; omega) B0.out.below.size))); clear hc hb hs))
      exact ret_st2 rfl rfl g4 _ rfl HE.out.1 underE rfl sizeE ⟨rfl, HE.out.2⟩
end Go.Proofs.YtildhjiddidghaaGreatDoor
