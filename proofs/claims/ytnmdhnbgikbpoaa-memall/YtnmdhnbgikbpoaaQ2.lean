/- The law's words 64. -/
import Derived.Test.YtnmdhnbgikbpoaaQ1
namespace Go.Proofs.Ytnmdhnbgikbpoaa
open Go.RowKit
/-- A step of a script. -/
structure Oq where
  k : Int
  m : Int
  n : Int
  s : Bool
  p : Int
  t : Bool
  u : Int
  off : Int
  v : Int
  wo : Option Addr
  W : List Int
  wc : Nat
def Oq.cs (q : Oq) : List Value := [.int .i64 q.k, .int .i64 q.m, .int .i64 q.n, .bool q.s, .int .i64 q.p, .bool q.t, .int .i64 q.u, .int .i64 q.off, .int .u32 q.v, .slice q.wo q.W.length q.wc]
structure OqOk (w : World) (q : Oq) : Prop where
  src : SrcL w q.wo q.W
  len : q.W.length * 4 ≤ 140737488351232
  cap : q.wo = none → q.wc = 0
theorem OqOk.on {w w' : World} {q : Oq} (h : OqOk w q) (hb : Below w.heap.size w w') : OqOk w' q := ⟨h.src.on hb, h.len, h.cap⟩
def turnsL (L : List Int) (j : Nat) : List Int := (List.range j).map fun (i : Nat) => wd L (i % L.length)
theorem turnsL_succ (L : List Int) (j : Nat) : turnsL L (j + 1) = turnsL L j ++ [wd L (j % L.length)] := by unfold turnsL; rw [List.range_succ, List.map_append]; rfl
theorem turnsL_len (L : List Int) (j : Nat) : (turnsL L j).length = j := by unfold turnsL; simp
def wordsL (off : Int) (L : List Int) : List Int := if off < 0 ∨ L = [] then L else turnsL L (min off.toNat 1100)
theorem wp_append_w {W w : World} {o : Oper} {a : Act} {K : Act → World → Prop} {Q : Exit → Act → World → Prop} (s x : Operand)
    (ho : o.op = .call { callee := .builtin .append, args := #[s, x], argTypes := #[24, 24] }) (v : Value) (L : List Int) (hs : a.eval s = v) (H : Hl W w v L) (ad : Addr) (m c : Nat) (xs : List Int) (hx : a.eval x = .slice (some ad) m c) (hl : xs.length = m)
    (hsrc : ∀ j u, (u32s xs)[j]? = some u → w.cell? (ad.add j) = some u) (hbytes : (L.length + m) * 4 ≤ 140737488355328)
    (h : ∀ v' w', Hl W w' v' (L ++ xs) → w.grownBy w' v.ownBlock → K (a.put o.dst v') w') : o.wp Try.prog a w K Q := by
  obtain ⟨i, hi, hz, hsize, hby⟩ := info_parts info32
  obtain ⟨v', w', hr, h1, h2, _⟩ := run_append_own (P := Try.prog) w W.heap.size 24 o.type 32 i (.int .u32 0) 1 4 under24 hi hz hsize hby rfl (by decide) v L.length _ H.own ad m c (u32s xs) (by rw [u32s_len, hl, Nat.mul_one]) hsrc (u32s_one xs) (by unfold maxLen; omega) hbytes H.below.size
  have hH : Hl W w' v' (L ++ xs) := ⟨by
    have e : u32s (L ++ xs) = u32s L ++ u32s xs := by simp [u32s]
    rw [e, List.length_append, hl]; exact h1, H.below.grown h2 H.below.size (fun g hg => (H.own.lt g hg).1)⟩
  unfold Oper.wp execOp
  simp only [ho, resolve, invoke, builtin, Sem.run_bind, Sem.run_pure, Result.andThen_ok, List.map_toArray, List.map_cons, List.map_nil, hs, hx, hr]
  exact h _ _ hH h2
set_option maxRecDepth 40000 in
set_option maxHeartbeats 8000000 in
theorem words_any (w : World) (q : Oq) (h : OqOk w q) : Calls Try.prog 64 #[.agg q.cs.toArray] w fun x w' => ∃ y, x = .returned y ∧ Hl w w' y (wordsL q.off q.W) := by
  have hX := h.on (below_one w (.cells q.cs.toArray 72))
  have hB := hid (below_one w (.cells q.cs.toArray 72))
  have C1 := hid (Cel.new w 72 q.cs)
  have hlen := h.len
  have HN : Hid (q.W.length * 4 ≤ 140737488351232) := hid hlen
  have n1 : (q.W.length : Int) ≤ 140737488351232 := by omega
  have H0 := hid h.cap
  have H := hid hX
  clear h hX hlen
  have HX : Hid (∀ x, Below (w.alloc (.cells q.cs.toArray 72)).heap.size (w.alloc (.cells q.cs.toArray 72)) x → x.cell? ⟨w.heap.size, 7, none⟩ = some (.int .i64 q.off) ∧ x.cell? ⟨w.heap.size, 9, none⟩ = some (.slice q.wo q.W.length q.wc)) := hid (fun x hx => ⟨(C1.out.on hx).cell 7, (C1.out.on hx).cell 9⟩)
  obtain ⟨y7, y9⟩ := HX.out _ (Below.refl _ _)
  clear C1
  obtain ⟨i32, hi32, _, _, _⟩ := info_parts info32
  have HI := hid hi32
  clear hi32
  unfold wordsL
  generalize hcs : q.cs = qcs at *
  clear hcs
  generalize hlw : q.W.length = lw at *
  have HLW := hid hlw
  clear hlw
  generalize hoff : q.off = off at *
  clear hoff
  go_enter Try.func64, Try.ntmps64
  by_cases hc : off < 0 ∨ q.W = []
  · rw [if_pos hc]
    go_upto_region 2 with fail
    go_cut [13] from 5 to 13 (fun r w1 => w1 = w.alloc (.cells qcs.toArray 72) ∧ r = .bool true)
    case first =>
      by_cases h1 : off < 0
      · go_wp2_with fail
        go_meet
        exact ⟨rfl, rfl⟩
      · have h2 : q.W = [] := hc.resolve_left h1
        have h3 : lw = 0 := by rw [← HLW.out, h2]; rfl
        subst h3
        go_wp2_with fail
        go_meet
        exact ⟨rfl, rfl⟩
    case rest =>
      obtain ⟨rfl, rfl⟩ := hcut
      clear hc
      cases hwo : q.wo with
      | none =>
        have hcc : q.wc = 0 := H0.out hwo
        have hl0 : q.W = [] := by
          rcases H.out.src with h | ⟨g, o, e, _⟩
          · exact h
          · rw [hwo] at e; cases e
        have h3 : lw = 0 := by rw [← HLW.out, hl0]; rfl
        rw [hwo, hcc, h3] at y9
        have HL0 := hid hl0
        clear H HX H0 hcc hl0
        go_wp2_with (first | (at_builtin; refine wpList_append_own_none rfl _ _ 24 rfl w.heap.size 32 i32 1 under24 HI.out (.slice none 0 0) 0 [] rfl (World.ownsRow_nil _ _ _ _) rfl ?_))
        go_ret
        exact ⟨_, rfl, by rw [HL0.out]; exact (Hl.start w).on hB.out⟩
      | some ad =>
        rw [hwo] at y9
        have HS : Hid (∀ j u, (u32s q.W)[j]? = some u → (w.alloc (.cells qcs.toArray 72)).cell? (ad.add j) = some u) := hid (by
          rcases H.out.src with h | ⟨g, o, e, _, hc⟩
          · rw [h]; intro j u hu; simp [u32s] at hu
          · rw [hwo] at e; injection e with e; subst e; intro j u hu; rw [Addr.add_mid]; exact hc j u hu)
        have hby : (([] : List Int).length + lw) * 4 ≤ 140737488355328 := by have := HN.out; simp; omega
        clear HX
        go_wp2_with (first | (at_builtin; refine wpList_append_w (W := w) rfl _ _ rfl (.slice none 0 0) [] rfl ((Hl.start w).on hB.out) ad lw q.wc q.W rfl HLW.out HS.out hby ?_; intro v5 w5 H5 _; rw [List.nil_append] at H5; have H5' := hid H5; clear H5))
        go_ret
        exact ⟨_, rfl, H5'.out⟩
  · rw [if_neg hc]
    have o0 : 0 ≤ off := by omega
    have hne : q.W ≠ [] := fun e => hc (.inr e)
    have hpos : 0 < lw := by rw [← HLW.out]; exact List.length_pos_iff.2 hne
    have p1 : (1 : Int) ≤ (lw : Int) := by omega
    have p2 : ((lw : Int) == 0) = false := by simp; omega
    obtain ⟨N, hN⟩ : ∃ N, min off.toNat 1100 = N := ⟨_, rfl⟩
    rw [hN]
    have HNN := hid hN
    clear hc hN
    rcases H.out.src with h | ⟨gw, ow, hwo, hgw, hcw⟩
    · exact absurd h hne
    rw [hwo] at y9 HX
    have HSW : Hid (∀ j, j < lw → ∀ x, Below (w.alloc (.cells qcs.toArray 72)).heap.size (w.alloc (.cells qcs.toArray 72)) x → x.cell? ⟨gw, ow + j, none⟩ = some (.int .u32 (wd q.W j))) := hid (fun j hj x hx => by rw [hx.cell (p := ⟨gw, ow + j, none⟩) hgw]; exact SrcL.wd hcw j (by rw [HLW.out]; exact hj))
    clear hcw
    go_wp2_with fail
    have HB0 : Hid (Below (w.alloc (.cells qcs.toArray 72)).heap.size (w.alloc (.cells qcs.toArray 72)) (w.alloc (.cells qcs.toArray 72))) := hid (Below.refl _ _)
    have HQ0 : Hid (Hl w (w.alloc (.cells qcs.toArray 72)) (.slice none 0 0) (turnsL q.W 0)) := hid ((Hl.start w).on hB.out)
    go_loopw [3, 4] (fun v i wr => ∃ j : Nat, j ≤ N ∧ i = .int .i64 (j : Int) ∧ Hid (Hl (w.alloc (.cells qcs.toArray 72)) wr v (turnsL q.W j))) (fun _ i _ => N - (intOf i).toNat)
    case atStart => exact ⟨0, Nat.zero_le _, rfl, hid (Hl.start _)⟩
    case round =>
      obtain ⟨j, hj, rfl, F⟩ := hrel
      clear HB0 HQ0 y7 y9
      obtain ⟨y7, y9⟩ := HX.out wr F.out.below
      have j0 : (j : Int) ≤ 1100 := by have := HNN.out; omega
      by_cases hlt : j < N
      · have e1 : (j : Int) < off := by have := HNN.out; omega
        have e2 : (j : Int) < 1100 := by have := HNN.out; omega
        have hm : j % lw < lw := Nat.mod_lt _ hpos
        have HR : Hid (((j : Int).tmod (lw : Int)) = ((j % lw : Nat) : Int)) := hid (by rw [Int.tmod_eq_emod_of_nonneg (by omega)]; omega)
        have HT : Hid (turnsL q.W (j + 1) = turnsL q.W j ++ [wd q.W (j % lw)]) := hid (by rw [turnsL_succ, HLW.out])
        have HC : Hid (∀ x, Below wr.heap.size wr x → x.cell? ⟨gw, ow + j % lw, none⟩ = some (.int .u32 (wd q.W (j % lw)))) := hid (fun x hx => HSW.out _ hm x (below_on F.out.below hx))
        have hby : ((turnsL q.W j).length + 1) * 4 ≤ 140737488355328 := by rw [turnsL_len]; have := HNN.out; omega
        have HZ : Hid (∀ x, Below wr.heap.size wr x → x.cell? ⟨w.heap.size, 9, none⟩ = some (.slice (some ⟨gw, ow, none⟩) lw q.wc)) := hid (fun x hx => (HX.out x (below_on F.out.below hx)).2)
        have HSWx : Hid (∀ x, Below (w.alloc (.cells qcs.toArray 72)).heap.size (w.alloc (.cells qcs.toArray 72)) x → x.cell? ⟨gw, ow + j % lw, none⟩ = some (.int .u32 (wd q.W (j % lw)))) := hid (fun x hx => HSW.out _ hm x hx)
        generalize wd q.W (j % lw) = uu at *
        obtain ⟨LL, hLL⟩ : ∃ LL, LL = turnsL q.W j := ⟨_, rfl⟩
        rw [← hLL] at F hby HT
        clear hLL
        generalize hjm : j % lw = jm at *
        have m1 : (jm : Int) < (lw : Int) := by omega
        clear hjm
        go_wp2_with fail
        have HSW2 : Hid (∀ x, Below (w.alloc (.cells qcs.toArray 72)).heap.size (w.alloc (.cells qcs.toArray 72)) x → x.cell? ⟨gw, ow + jm, none⟩ = some (.int .u32 uu)) := HSWx
        refine wp_region_held_drew (S := fun x => Below (w.alloc (.cells qcs.toArray 72)).heap.size (w.alloc (.cells qcs.toArray 72)) x) (by kernel_rfl) (F.out.below.drew) (fun hHeld => ?_)
        refine wpAnyH_take (i := 0) (oi := { dst := some 29, op := Op.move (Operand.tmp 3), type := 24, pos := "law.go:135", after := #[], guard := none }) (v := u3) rfl (by kernel_rfl) (by kernel_rfl) (by kernel_rfl) (fun _ _ _ h => h) (Or.inl ⟨by rfl, by intro w hSw; go_simp⟩) (by assumption) ?_
        simp only [Act.put, List.setIfInBounds_toArray, List.set_cons_zero, List.set_cons_succ]
        refine wpAnyH_take (i := 1) (oi := { dst := some 30, op := Op.fieldAddr 72 (Operand.tmp 1) 7, type := 0, pos := "law.go:135", after := #[], guard := none }) (v := .pointer (some ⟨w.heap.size, 9, none⟩)) rfl (by kernel_rfl) (by kernel_rfl) (by kernel_rfl) (fun _ _ _ h => h) (Or.inl ⟨by rfl, by intro w hSw; go_simp⟩) (by assumption) ?_
        simp only [Act.put, List.setIfInBounds_toArray, List.set_cons_zero, List.set_cons_succ]
        refine wpAnyH_take (i := 2) (oi := { dst := some 31, op := Op.load 24 (Operand.tmp 30), type := 24, pos := "law.go:135", after := #[{ on := 1, ground := Ground.data }], guard := none }) (v := .slice (some ⟨gw, ow, none⟩) lw q.wc) rfl (by kernel_rfl) (by kernel_rfl) (by kernel_rfl) (fun _ _ _ h => h) (Or.inl ⟨by rfl, by intro w hSw; have hcc := (HX.out w hSw).2; go_simp⟩) (by assumption) ?_
        simp only [Act.put, List.setIfInBounds_toArray, List.set_cons_zero, List.set_cons_succ]
        refine wpAnyH_take (i := 3) (oi := { dst := some 32, op := Op.move (Operand.tmp 4), type := 3, pos := "law.go:135", after := #[], guard := none }) (v := .int .i64 (j : Int)) rfl (by kernel_rfl) (by kernel_rfl) (by kernel_rfl) (fun _ _ _ h => h) (Or.inl ⟨by rfl, by intro w hSw; go_simp⟩) (by assumption) ?_
        simp only [Act.put, List.setIfInBounds_toArray, List.set_cons_zero, List.set_cons_succ]
        refine wpAnyH_take (i := 4) (oi := { dst := some 33, op := Op.fieldAddr 72 (Operand.tmp 1) 7, type := 0, pos := "law.go:135", after := #[], guard := none }) (v := .pointer (some ⟨w.heap.size, 9, none⟩)) rfl (by kernel_rfl) (by kernel_rfl) (by kernel_rfl) (fun _ _ _ h => h) (Or.inl ⟨by rfl, by intro w hSw; go_simp⟩) (by assumption) ?_
        simp only [Act.put, List.setIfInBounds_toArray, List.set_cons_zero, List.set_cons_succ]
        refine wpAnyH_take (i := 5) (oi := { dst := some 34, op := Op.load 24 (Operand.tmp 33), type := 24, pos := "law.go:135", after := #[{ on := 4, ground := Ground.data }], guard := none }) (v := .slice (some ⟨gw, ow, none⟩) lw q.wc) rfl (by kernel_rfl) (by kernel_rfl) (by kernel_rfl) (fun _ _ _ h => h) (Or.inl ⟨by rfl, by intro w hSw; have hcc := (HX.out w hSw).2; go_simp⟩) (by assumption) ?_
        simp only [Act.put, List.setIfInBounds_toArray, List.set_cons_zero, List.set_cons_succ]
        refine wpAnyH_take (i := 6) (oi := { dst := some 35, op := Op.call { callee := Callee.builtin Builtin.len, args := #[Operand.tmp 34], argTypes := #[24] }, type := 3, pos := "law.go:135", after := #[{ on := 5, ground := Ground.data }], guard := none }) (v := .int .i64 (lw : Int)) rfl (by kernel_rfl) (by kernel_rfl) (by kernel_rfl) (fun _ _ _ h => h) (Or.inl ⟨by rfl, by intro w hSw; go_simp⟩) (by assumption) ?_
        simp only [Act.put, List.setIfInBounds_toArray, List.set_cons_zero, List.set_cons_succ]
        refine wpAnyH_take (i := 7) (oi := { dst := some 36, op := Op.binOp BinOp.rem 3 (Operand.tmp 32) (Operand.tmp 35) 3, type := 3, pos := "law.go:135", after := #[{ on := 3, ground := Ground.data }, { on := 6, ground := Ground.data }], guard := none }) (v := .int .i64 (jm : Int)) rfl (by kernel_rfl) (by kernel_rfl) (by kernel_rfl) (fun _ _ _ h => h) (Or.inl ⟨by rfl, by intro w hSw; have hrr := HR.out; go_simp; omega⟩) (by assumption) ?_
        simp only [Act.put, List.setIfInBounds_toArray, List.set_cons_zero, List.set_cons_succ]
        refine wpAnyH_take (i := 8) (oi := { dst := some 37, op := Op.indexAddr 24 (Operand.tmp 31) (Operand.tmp 36), type := 0, pos := "law.go:135", after := #[{ on := 2, ground := Ground.data }, { on := 7, ground := Ground.data }], guard := none }) (v := .pointer (some ⟨gw, ow + jm, none⟩)) rfl (by kernel_rfl) (by kernel_rfl) (by kernel_rfl) (fun _ _ _ h => h) (Or.inl ⟨by rfl, by intro w hSw; go_simp⟩) (by assumption) ?_
        simp only [Act.put, List.setIfInBounds_toArray, List.set_cons_zero, List.set_cons_succ]
        refine wpAnyH_take (i := 9) (oi := { dst := some 38, op := Op.load 32 (Operand.tmp 37), type := 32, pos := "law.go:135", after := #[{ on := 8, ground := Ground.data }], guard := none }) (v := .int .u32 uu) rfl (by kernel_rfl) (by kernel_rfl) (by kernel_rfl) (fun _ _ _ h => h) (Or.inl ⟨by rfl, by intro w hSw; have hcc := HSW2.out w hSw; go_simp⟩) (by assumption) ?_
        simp only [Act.put, List.setIfInBounds_toArray, List.set_cons_zero, List.set_cons_succ]
        refine wpAnyH_ready (rs := [10]) (by kernel_rfl) (by simp) (AllReadyH.cons (o := { dst := some 39, op := Op.buildSlice 24 1 #[(0, Operand.tmp 38)], type := 24, pos := "law.go:135", after := #[{ on := 9, ground := Ground.data }], guard := none }) rfl (fun KQ hK => ?_) AllReadyH.nil)
        go_simp
        refine hK.out _ _ ((F.out.below.drew).trans ((below_one _ _).mono F.out.below.drew.size)) (fun hHeld => ?_)
        clear hK KQ
        try simp only [Act.put, List.setIfInBounds_toArray, List.set_cons_zero, List.set_cons_succ]
        refine wpAnyH_ready (rs := [11]) (by kernel_rfl) (by simp) (AllReadyH.cons (o := { dst := some 40, op := Op.call { callee := Callee.builtin Builtin.append, args := #[Operand.tmp 29, Operand.tmp 39], argTypes := #[24, 24] }, type := 24, pos := "law.go:135", after := #[{ on := 0, ground := Ground.data }, { on := 10, ground := Ground.data }], guard := none }) rfl (fun KQ hK => ?_) AllReadyH.nil)
        rw [if_pos (by rfl)]
        refine wp_append_w (W := w.alloc (.cells qcs.toArray 72)) _ _ rfl u3 LL rfl ((F.out.on (Below.refl _ _).drew).on (below_one _ _)) ⟨wr.drew.heap.size, 0, none⟩ 1 1 [uu] rfl rfl (new_src _ _) hby ?_
        intro v2 w2 H2 _
        refine hK.out _ _ H2.below (fun hHeld => ?_)
        clear hK KQ
        try simp only [Act.put, List.setIfInBounds_toArray, List.set_cons_zero, List.set_cons_succ]
        refine wpAnyH_ready (rs := [12]) (by kernel_rfl) (by simp) (AllReadyH.cons (o := { dst := some 3, op := Op.assign (Operand.tmp 40), type := 24, pos := "law.go:135", after := #[{ on := 11, ground := Ground.data }, { on := 11, ground := Ground.chain }, { on := 0, ground := Ground.phase }, { on := 1, ground := Ground.phase }, { on := 2, ground := Ground.phase }, { on := 3, ground := Ground.phase }, { on := 4, ground := Ground.phase }, { on := 5, ground := Ground.phase }, { on := 6, ground := Ground.phase }, { on := 7, ground := Ground.phase }, { on := 8, ground := Ground.phase }, { on := 9, ground := Ground.phase }, { on := 10, ground := Ground.phase }, { on := 11, ground := Ground.phase }], guard := none }) rfl (fun KQ hK => ?_) AllReadyH.nil)
        go_simp
        refine hK.out _ _ H2.below (fun hHeld => ?_)
        clear hK KQ
        try simp only [Act.put, List.setIfInBounds_toArray, List.set_cons_zero, List.set_cons_succ]
        refine wpAnyH_done (by kernel_rfl) ?_ _
        clear hHeld
        have HN2 := hid H2
        clear H2
        go_wp2_with fail
        go_roundw
        case measure => simp [intOf] <;> omega
        case rel => exact ⟨j + 1, by omega, by go_num, by rw [HT.out]; exact HN2⟩
      · obtain rfl : j = N := by omega
        have HX2 : Hid ((j : Int) < off → ¬ (j : Int) < 1100) := hid (by have := HNN.out; omega)
        by_cases e1 : (j : Int) < off
        · have e2 := HX2.out e1
          go_wp2_with fail
          go_ret
          exact ⟨_, rfl, F.out.from hB.out⟩
        · go_wp2_with fail
          go_ret
          exact ⟨_, rfl, F.out.from hB.out⟩
end Go.Proofs.Ytnmdhnbgikbpoaa
