import Derived.Test.YtmomidkodjihjaaDoorP21
namespace Go.Proofs.YtmomidkodjihjaaDoor
open Go.RowKit
open H
set_option maxHeartbeats 4000000
set_option maxRecDepth 100000
def kl : List Ov := [⟨⟨2, 0, []⟩, none, 0⟩, ⟨⟨1, 4096, []⟩, none, 0⟩, ⟨⟨4, 8195, []⟩, none, 0⟩]
theorem kl_enc : enc (kl.map Ov.o) = [2, 0, 1, 4096, 4, 8195] := rfl
theorem kl_sum : sumW [2, 0, 1, 4096, 4, 8195] = [2695067093, 1055369375, 3670750559, 290707688, 3787623333, 1020522477, 3831721539, 3008966724] := by decide +kernel
theorem kl_ok : ∀ o ∈ kl.map Ov.o, o.Ok := by decide
theorem kl_at (W : World) : OL (W.alloc (.cells #[.int .i64 2, .int .u32 0, .slice none 0 0, .int .i64 1, .int .u32 4096, .slice none 0 0, .int .i64 4, .int .u32 8195, .slice none 0 0] 43)) (some ⟨W.heap.size, 0, none⟩) kl := by
  have hc : Cel (W.alloc (.cells #[.int .i64 2, .int .u32 0, .slice none 0 0, .int .i64 1, .int .u32 4096, .slice none 0 0, .int .i64 4, .int .u32 8195, .slice none 0 0] 43)) W.heap.size 43 [.int .i64 2, .int .u32 0, .slice none 0 0, .int .i64 1, .int .u32 4096, .slice none 0 0, .int .i64 4, .int .u32 8195, .slice none 0 0] := heap_alloc_new _ _
  refine ⟨.inr ⟨W.heap.size, 0, rfl, by simp, fun i x hx => ?_⟩, fun x hx => ?_⟩
  · have hi : i < 3 := (List.getElem?_eq_some_iff.1 hx).1
    rw [hc.cell, hc.cell, hc.cell]
    match i, hi, hx with
    | 0, _, hx | 1, _, hx | 2, _, hx => cases hx; exact ⟨rfl, rfl, rfl⟩
  · simp only [kl, List.mem_cons, List.not_mem_nil, or_false] at hx
    rcases hx with rfl | rfl | rfl <;> exact .inl rfl
theorem known_any (W : World) (hT : Tab W) (h2 : 1 < W.heap.size) : Calls Tryd.prog 9 #[] W fun e W' => e = .returned (.bool true) ∧ Below W.heap.size W W' := by
  have heq := eq27 [2695067093, 1055369375, 3670750559, 290707688, 3787623333, 1020522477, 3831721539, 3008966724] [2695067093, 1055369375, 3670750559, 290707688, 3787623333, 1020522477, 3831721539, 3008966724] rfl rfl
  rw [decide_eq_true rfl] at heq
  have heq' : ∀ w, (Op.equalIn 10000 44 (.agg #[.int .u32 2695067093, .int .u32 1055369375, .int .u32 3670750559, .int .u32 290707688, .int .u32 3787623333, .int .u32 1020522477, .int .u32 3831721539, .int .u32 3008966724]) (.agg #[.int .u32 2695067093, .int .u32 1055369375, .int .u32 3670750559, .int .u32 290707688, .int .u32 3787623333, .int .u32 1020522477, .int .u32 3831721539, .int .u32 3008966724])).run Tryd.prog w = .ok true w := heq
  have B1 := hid (below_one W (.cells #[.int .i64 2, .int .u32 0, .slice none 0 0, .int .i64 1, .int .u32 4096, .slice none 0 0, .int .i64 4, .int .u32 8195, .slice none 0 0] 43))
  have HE := hid (fun w (hw : Below (W.alloc (.cells #[.int .i64 2, .int .u32 0, .slice none 0 0, .int .i64 1, .int .u32 4096, .slice none 0 0, .int .i64 4, .int .u32 8195, .slice none 0 0] 43)).heap.size (W.alloc (.cells #[.int .i64 2, .int .u32 0, .slice none 0 0, .int .i64 1, .int .u32 4096, .slice none 0 0, .int .i64 4, .int .u32 8195, .slice none 0 0] 43)) w) => encode_ok w (some ⟨W.heap.size, 0, none⟩) 3 3 kl rfl ((kl_at W).on hw) (by decide) kl_ok (by rw [kl_enc]; decide))
  have HM := hid (fun w (hw : Below (W.alloc (.cells #[.int .i64 2, .int .u32 0, .slice none 0 0, .int .i64 1, .int .u32 4096, .slice none 0 0, .int .i64 4, .int .u32 8195, .slice none 0 0] 43)).heap.size (W.alloc (.cells #[.int .i64 2, .int .u32 0, .slice none 0 0, .int .i64 1, .int .u32 4096, .slice none 0 0, .int .i64 4, .int .u32 8195, .slice none 0 0] 43)) w) => measure_ok w (hT.below (below_on (below_one _ _) hw) h2) (by have := hw.size; simp at this; omega) (some ⟨W.heap.size, 0, none⟩) 3 3 kl rfl ((kl_at W).on hw) (by decide) kl_ok (by rw [kl_enc]; decide))
  rw [kl_enc] at HE HM
  rw [kl_sum] at HM
  simp only [Ag, List.map_cons, List.map_nil, List.length_cons, List.length_nil] at HE HM
  have HS := hid (fun w p cp g (hp : At w .u32 p [2, 0, 1, 4096, 4, 8195]) (hg : Blk w g .u32 24 [2, 0, 1, 4096, 4, 8195]) => same_any w p (some ⟨g, 0, none⟩) 6 6 cp 6 _ _ rfl rfl hp hg.at (by decide))
  rw [decide_eq_true rfl] at HS
  clear heq hT h2
  go_enter Tryd.func9, Tryd.ntmps9
  go_wp2_with (first | (go_at_call 10; refine (HE.out _ (Below.refl _ _)).mono ?_; rintro e w1 ⟨p, cp, rfl, hh⟩; have HA : Hid (At w1 .u32 p [2, 0, 1, 4096, 4, 8195]) := hid (by obtain ⟨p', cp', e, _, ha, _⟩ := hh.at'; injection e with e1; rw [e1]; exact ha); have B2 := hid hh.below; clear hh) | (go_at_call 17; refine (HM.out _ B2.out).mono ?_; rintro e w2 ⟨rfl, hb⟩; have B3 := hid (below_on B2.out hb); have HA2 := hid (HA.out.below hb); clear hb) | (go_at_call 11; refine (HS.out _ p cp _ ((HA2.out.below (below_one _ _)).below (below_one _ _)) (Blk.newAt (by simp) .u32 24 [2, 0, 1, 4096, 4, 8195])).mono ?_; rintro e w3 ⟨rfl, hb⟩; have B4 := hid (below_on (below_on (below_on B3.out (below_one _ _)) (below_one _ _)) hb); have HC : Cel w3 w2.heap.size 44 [.int .u32 2695067093, .int .u32 1055369375, .int .u32 3670750559, .int .u32 290707688, .int .u32 3787623333, .int .u32 1020522477, .int .u32 3831721539, .int .u32 3008966724] := (H.Cel.on (H.Cel.on (show Cel (w2.alloc (.cells #[.int .u32 2695067093, .int .u32 1055369375, .int .u32 3670750559, .int .u32 290707688, .int .u32 3787623333, .int .u32 1020522477, .int .u32 3831721539, .int .u32 3008966724] 44)) w2.heap.size 44 [.int .u32 2695067093, .int .u32 1055369375, .int .u32 3670750559, .int .u32 290707688, .int .u32 3787623333, .int .u32 1020522477, .int .u32 3831721539, .int .u32 3008966724] from heap_alloc_new _ _) (below_one _ _)) hb); have c0 := HC.cell 0; have c1 := HC.cell 1; have c2 := HC.cell 2; have c3 := HC.cell 3; have c4 := HC.cell 4; have c5 := HC.cell 5; have c6 := HC.cell 6; have c7 := HC.cell 7; simp only [List.getElem?_cons_zero, List.getElem?_cons_succ] at c0 c1 c2 c3 c4 c5 c6 c7; clear hb HC))
  go_ret
  exact ⟨rfl, below_on B1.out B4.out⟩
end Go.Proofs.YtmomidkodjihjaaDoor
namespace Go.Proofs.YtmomidkodjihjaaDoor
open Go.RowKit
open H
set_option maxHeartbeats 4000000
set_option maxRecDepth 100000
theorem Tryd.info94 : (Tryd.prog.info? 94).map (fun i => (i.zero, i.size, i.bytes)) = some (some (.agg #[.int .i64 0, .int .u32 0, .slice none 0 0, .int .i64 0, .int .u32 0]), 5, 56) := by kernel_rfl
structure Lv where
  k : Int
  a : Int
  ld : List Int
  p : Option Addr
  c : Nat
  lg : Int
  fl : Int
def Lv.cs (x : Lv) : List Value := [.int .i64 x.k, .int .u32 x.a, .slice x.p x.ld.length x.c, .int .i64 x.lg, .int .u32 x.fl]
def lwd (ld : List Int) (fl : Int) (n : Nat) : List Int := (List.range n).map (fun i => if i < ld.length then ld.getD i 0 else fl)
theorem lwd_len (ld : List Int) (fl : Int) (n : Nat) : (lwd ld fl n).length = n := by simp [lwd]
theorem lwd_snoc (ld : List Int) (fl : Int) (n : Nat) : lwd ld fl (n + 1) = lwd ld fl n ++ [if n < ld.length then ld.getD n 0 else fl] := by simp [lwd, List.range_succ]
theorem wpList_append_k {V w : World} {ops : Array Oper} {rest : List Oper} {o : Oper} {a : Act} {Q : Exit → Act → World → Prop} (hgd : o.guard = none) (s x : Operand)
    (ho : o.op = .call { callee := .builtin .append, args := #[s, x], argTypes := #[22, 22] }) (v : Value) (L : List Int) (hs : a.eval s = v) (H : Holds V w .u32 24 v L) (ad : Addr) (m c : Nat) (xs : List Int) (hx : a.eval x = .slice (some ad) m c) (hl : xs.length = m) (hat : At w .u32 (some ad) xs) (hb : (L.length + m) * 4 ≤ 140737488355328) {g t : Nat} {cs : List Value} (hc : Cel w g t cs) (ht : t ≠ 24)
    (h : ∀ v' w', Holds V w' .u32 24 v' (L ++ xs) → Cel w' g t cs → wpList Tryd.prog ops Q rest (a.put o.dst v') w') : wpList Tryd.prog ops Q (o :: rest) a w := by
  obtain ⟨v', w', hr, hh, hk⟩ := run_append_k o.type H ad m c xs hl hat hb hc ht
  refine wpList_plain hgd fun K hK => ?_
  exact wp_append_r s x ho v hs _ hx hr (hK _ _ (h v' w' hh hk))
theorem words_any (W : World) (k a : Int) (p : Option Addr) (m c : Nat) (lg fl : Int) (ld : List Int) (hm : ld.length = m) (hat : At W .u32 p ld) (hmm : m ≤ 9223372036854775807) (n : Nat) (hn : (n : Int) = wit lg 2100) :
    Calls Tryd.prog 40 #[.agg #[.int .i64 k, .int .u32 a, .slice p m c, .int .i64 lg, .int .u32 fl]] W fun e W' => ∃ q cq, e = .returned (.slice q n cq) ∧ Holds W W' .u32 24 (.slice q n cq) (lwd ld fl n) := by
  have HI := hid (fun w => within_any w lg 0 2099 2100 (by decide) (by decide) (by decide) (by decide))
  have hn2 : (n : Int) < 2100 := by rw [hn]; exact wit_hi lg 2100 (by decide)
  rw [← hn] at HI
  simp only [Int.zero_add] at HI
  have X0 : Hid (Holds W (W.alloc (.cells #[.int .i64 k, .int .u32 a, .slice p m c, .int .i64 lg, .int .u32 fl] 94)) .u32 24 (.slice none 0 0) [] ∧ Cel (W.alloc (.cells #[.int .i64 k, .int .u32 a, .slice p m c, .int .i64 lg, .int .u32 fl] 94)) W.heap.size 94 [.int .i64 k, .int .u32 a, .slice p m c, .int .i64 lg, .int .u32 fl]) := hid ⟨(Holds.start W .u32 24).alloc _, heap_alloc_new _ _⟩
  have HM := hid hm
  have HA := hid hat
  have q0 : (m : Int) ≤ 9223372036854775807 := by omega
  clear hm hat hmm hn
  go_enter Tryd.func40, Tryd.ntmps40
  go_wp2_with (go_at_call 14; refine (HI.out _).mono ?_; rintro e w1 ⟨rfl, hw1⟩; subst w1)
  generalize World.alloc W _ = X at *
  go_loopw [4, 5] (fun v i wr => ∃ j : Nat, j ≤ n ∧ i = .int .i64 (j : Int) ∧ Hid (Holds W wr .u32 24 v (lwd ld fl j) ∧ Cel wr W.heap.size 94 [.int .i64 k, .int .u32 a, .slice p m c, .int .i64 lg, .int .u32 fl])) (fun _ i _ => n - (intOf i).toNat)
  case atStart => exact ⟨0, Nat.zero_le _, rfl, hid X0.out⟩
  case round =>
    obtain ⟨j, hj, rfl, HQ⟩ := hrel
    obtain ⟨av, cv, hv, _⟩ := HQ.out.1.at'
    rw [lwd_len] at hv
    subst hv
    clear X0
    by_cases hlt : j < n
    · have q1 : (j : Int) < (n : Int) := by omega
      have HJ := hid hlt
      have HL : Hid (((lwd ld fl j).length + 1) * 4 ≤ 140737488355328) := hid (by rw [lwd_len]; omega)
      have c2 := HQ.out.2.cell 2
      have c4 := HQ.out.2.cell 4
      simp only [List.getElem?_cons_zero, List.getElem?_cons_succ] at c2 c4
      have hj3 : j < 2100 := by omega
      have HS := hid (lwd_snoc ld fl j)
      by_cases hl : j < m
      · rw [if_pos (by rw [HM.out]; exact hl)] at HS
        obtain ⟨b, off, rfl, hb, hrow⟩ : ∃ b off, p = some ⟨b, off, none⟩ ∧ b < W.heap.size ∧ Row W .u32 b off ld := HA.out.resolve_left (by intro e; have := HM.out; rw [e] at this; simp at this; omega)
        have cx := (hrow.below HQ.out.1.below hb) j (by rw [HM.out]; exact hl)
        have q2 : (j : Int) < (m : Int) := by omega
        generalize ld.getD j 0 = x at *
        clear hl hlt hj hj3 hrow hb
        go_wp2_with (at_builtin; refine wpList_append_k rfl _ _ rfl _ (lwd ld fl j) rfl (HQ.out.1.alloc _) _ 1 1 [x] rfl rfl (at_one _ _) HL.out (HQ.out.2.on (below_one _ _)) (by decide) ?_; intro v2 w2 h2 h3; have H2 := hid (And.intro h2 h3); clear h2 h3)
        go_roundw
        case measure => have := HJ.out; simp [intOf] <;> omega
        case rel => exact ⟨j + 1, HJ.out, by simp, hid ⟨by rw [HS.out]; exact H2.out.1, H2.out.2⟩⟩
      · rw [if_neg (by rw [HM.out]; exact hl)] at HS
        have q2 : ¬ ((j : Int) < (m : Int)) := by omega
        clear hl hlt hj hj3
        go_wp2_with (at_builtin; refine wpList_append_k rfl _ _ rfl _ (lwd ld fl j) rfl (HQ.out.1.alloc _) _ 1 1 [fl] rfl rfl (at_one _ _) HL.out (HQ.out.2.on (below_one _ _)) (by decide) ?_; intro v2 w2 h2 h3; have H2 := hid (And.intro h2 h3); clear h2 h3)
        go_roundw
        case measure => have := HJ.out; simp [intOf] <;> omega
        case rel => exact ⟨j + 1, HJ.out, by simp, hid ⟨by rw [HS.out]; exact H2.out.1, H2.out.2⟩⟩
    · obtain rfl : j = n := by omega
      clear hlt hj
      go_wp2_with fail
      go_ret
      exact ⟨_, _, rfl, HQ.out.1⟩
theorem wpList_append_q {w w' : World} {ops : Array Oper} {rest : List Oper} {o : Oper} {a : Act} {Q : Exit → Act → World → Prop} (hgd : o.guard = none) (s x : Operand) {t1 t2 : TypeId} (ho : o.op = .call { callee := .builtin .append, args := #[s, x], argTypes := #[t1, t2] }) (v : Value) (hs : a.eval s = v) (vx : Value) (hx : a.eval x = vx) {v' : Value}
    (hr : (Builtin.append_ #[t1, t2] o.type #[v, vx]).run Tryd.prog w = .ok v' w') (h : wpList Tryd.prog ops Q rest (a.put o.dst v') w') : wpList Tryd.prog ops Q (o :: rest) a w := by
  refine wpList_plain hgd fun K hK => ?_
  unfold Oper.wp execOp
  simp only [ho, resolve, invoke, builtin, Sem.run_bind, Sem.run_pure, Result.andThen_ok, List.map_toArray, List.map_cons, List.map_nil, hs, hx, hr]
  exact hK _ _ h
structure LL (W : World) (ao : Option Addr) (l : List Lv) : Prop where
  row : l = [] ∨ ∃ b off, ao = some ⟨b, off, none⟩ ∧ b < W.heap.size ∧ ∀ j u, (l.flatMap Lv.cs)[j]? = some u → W.cell? ⟨b, off + j, none⟩ = some u
  ld : ∀ x ∈ l, At W .u32 x.p x.ld ∧ x.ld.length ≤ 9223372036854775807
theorem LL.on {W w : World} {ao : Option Addr} {l : List Lv} (h : LL W ao l) (hb : Below W.heap.size W w) : LL w ao l := by
  refine ⟨?_, fun x hx => ⟨(h.ld x hx).1.below hb, (h.ld x hx).2⟩⟩
  rcases h.row with h0 | ⟨b, off, h1, h2, h3⟩
  · exact .inl h0
  · exact .inr ⟨b, off, h1, by have := hb.size; omega, fun j u hu => (hb.cell (p := ⟨b, _, none⟩) h2).trans (h3 j u hu)⟩
theorem lcs_len (l : List Lv) : (l.flatMap Lv.cs).length = l.length * 5 := by
  induction l with
  | nil => rfl
  | cons x l ih => rw [List.flatMap_cons, List.length_append, ih]; simp [Lv.cs]; omega
theorem lcs_get (l : List Lv) (i j : Nat) (x : Lv) (h : l[i]? = some x) (hj : j < 5) : (l.flatMap Lv.cs)[i * 5 + j]? = x.cs[j]? := by
  induction l generalizing i with
  | nil => simp at h
  | cons y l ih =>
    cases i with
    | zero =>
      simp only [List.getElem?_cons_zero, Option.some.injEq] at h
      subst h
      rw [List.flatMap_cons, List.getElem?_append_left (by simp [Lv.cs]; omega)]
      simp
    | succ i =>
      rw [List.getElem?_cons_succ] at h
      rw [List.flatMap_cons, List.getElem?_append_right (by simp [Lv.cs]; omega), show (i + 1) * 5 + j - y.cs.length = i * 5 + j by simp [Lv.cs]; omega]
      exact ih i h
theorem lcs_one (l : List Lv) : ∀ u ∈ l.flatMap Lv.cs, u.oneCell' = true := fun u hu => by
  simp only [List.mem_flatMap] at hu
  obtain ⟨x, _, hx⟩ := hu
  simp only [Lv.cs, List.mem_cons, List.not_mem_nil, or_false] at hx
  rcases hx with rfl | rfl | rfl | rfl | rfl <;> rfl
structure HL (W w : World) (v : Value) (l : List Lv) : Prop where
  own : w.ownsRow W.heap.size 94 5 v l.length (l.flatMap Lv.cs)
  below : Below W.heap.size W w
theorem copied_any (W : World) (ao : Option Addr) (n c : Nat) (l : List Lv) (hn : l.length = n) (h : LL W ao l) (hb : n * 56 ≤ 140737488355328) :
    Calls Tryd.prog 13 #[.slice ao n c] W fun e W' => ∃ v, e = .returned v ∧ HL W W' v l := by
  have key : ∀ ty, ∃ v' w', (Builtin.append_ #[23, 23] ty #[.slice none 0 0, .slice ao n c]).run Tryd.prog W = .ok v' w' ∧ HL W w' v' l := fun ty => by
    obtain ⟨i, hi, hz, hsize, hby⟩ := info_parts Tryd.info94
    rcases h.row with h0 | ⟨b, off, h1, h2, h3⟩
    · subst h0
      simp at hn
      subst hn
      cases ao with
      | none =>
        refine ⟨.slice none 0 0, W, ?_, World.ownsRow_nil _ _ _ _, Below.refl _ _⟩
        simp [Builtin.append_, run_underlying Tryd.underlying23, sizeOf, typeInfo, hi, Builtin.lenOf, Builtin.firstCells]
      | some ad =>
        obtain ⟨v', w', hr, h1, h2, _⟩ := run_append_own (P := Tryd.prog) W W.heap.size 23 ty 94 i _ 5 56 Tryd.underlying23 hi hz hsize hby rfl (by decide) (.slice none 0 0) 0 [] (World.ownsRow_nil W _ 94 5) ad 0 c [] rfl (fun j u hu => by simp at hu) (by simp) (by unfold maxLen; omega) (by omega) (Nat.le_refl _)
        exact ⟨v', w', hr, by simpa using h1, (Below.refl _ W).grown h2 (Nat.le_refl _) (fun _ h => by cases h)⟩
    · subst h1
      obtain ⟨v', w', hr, h1, h2, _⟩ := run_append_own (P := Tryd.prog) W W.heap.size 23 ty 94 i _ 5 56 Tryd.underlying23 hi hz hsize hby rfl (by decide) (.slice none 0 0) 0 [] (World.ownsRow_nil W _ 94 5) ⟨b, off, none⟩ n c (l.flatMap Lv.cs) (by rw [lcs_len, hn]) (fun j u hu => by rw [Addr.add_mid]; exact h3 j u hu) (lcs_one l) (by unfold maxLen; omega) (by omega) (Nat.le_refl _)
      exact ⟨v', w', hr, by rw [hn]; simpa using h1, (Below.refl _ W).grown h2 (Nat.le_refl _) (fun _ h => by cases h)⟩
  have HK := hid key
  clear key h hb hn
  go_enter Tryd.func13, Tryd.ntmps13
  go_wp2_with (at_builtin; obtain ⟨v1, w1, hr, h1⟩ := HK.out 23; refine wpList_append_q rfl _ _ rfl _ rfl _ rfl hr ?_; have H1 := hid h1; clear h1 hr)
  go_ret
  exact ⟨_, rfl, H1.out⟩
end Go.Proofs.YtmomidkodjihjaaDoor
