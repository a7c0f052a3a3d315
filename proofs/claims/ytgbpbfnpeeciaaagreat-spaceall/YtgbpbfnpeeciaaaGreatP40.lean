import Derived.Test.YtgbpbfnpeeciaaaGreatP26
import Derived.Test.YtgbpbfnpeeciaaaGreatP39
import Derived.Test.YtgbpbfnpeeciaaaGreatP01
namespace Go.Proofs.YtgbpbfnpeeciaaaGreat
open Go.RowKit
set_option maxHeartbeats 4000000
set_option maxRecDepth 100000
theorem has_any (w : World) (f : Fp) (m : MS) (h : Mem w f m) (s : Bool) (p : Int) :
    Calls Tryz.prog 117 #[ptr f.gm, fr s p] w fun x w' => x = .returned (.bool (m.at s p).isSome) ∧ Below w.heap.size w w' := by
  have hX := h.on (below_one w (.cells #[.bool s, .int .i64 p] 67))
  have hB := hid (below_one w (.cells #[.bool s, .int .i64 p] 67))
  have HF := hid (find_any _ f m hX s p)
  clear h hX
  generalize hr : m.at s p = r at *
  cases r <;> simp only [fr, ptr, pv, Option.isSome] at *
  all_goals go_enter Tryz.func117, Tryz.ntmps117
  all_goals go_wp2_with fail
  all_goals refine HF.out.mono ?_
  all_goals rintro x w1 ⟨rfl, hb1⟩
  all_goals have HB1 := hid (below_on hB.out hb1)
  all_goals clear hb1
  all_goals go_wp2_with fail
  all_goals go_ret
  all_goals exact ⟨rfl, HB1.out⟩
theorem mapped2_any (W : World) (p : Dp) (d : DS) (h : DB W p d) (hU : d.m.U) (pg off : Int) :
    Calls Tryz.prog 91 #[ptr p.f.gm, rdF p.f pg off] W fun x W' => x = .returned (.tuple #[(d.m.mM (d.m.word true pg off)).v, .int .i64 (d.m.mE (d.m.word true pg off))]) ∧ DB W' p (d.rd pg off) ∧ ButL p.f.w W W' := by
  have D0 := hid ((DG.startw h).new 88 [.bool false, .int .i64 0, .bool false, .bool false])
  have HW := hU.word true pg off
  have HR := hid (fun w (hw : DB w p d) => readd_any w p d hw pg off)
  have HF := hid (fun w => ps_any w _ HW.1 HW.2)
  have HH := hid (fun w (hw : DB w p (d.rd pg off)) => has_any w p.f _ hw.mem (ps (d.m.word true pg off)).s (ps (d.m.word true pg off)).p)
  rw [show (d.rd pg off).m = d.m.read true pg off from rfl, MS.read_at] at HH
  unfold MS.mM MS.mE rdF
  clear h hU HW
  have hz := @ps_z (d.m.word true pg off)
  generalize d.m.word true pg off = F at *
  generalize ps F = M at *
  generalize psE F = e at *
  generalize (d.m.at M.s M.p).isSome = O at *
  simp only [ptr, plV, Mp.v, fr] at *
  go_enter Tryz.func91, Tryz.ntmps91
  go_upto_region 1 with fail
  generalize W.alloc _ = X at *
  generalize hg : W.heap.size = g4 at D0 ⊢
  clear hg
  go_upto_region 2 with (first | (go_at_call 79; refine (HR.out _ D0.out.db).mono ?_; rintro x w2 ⟨rfl, hd, hb⟩; have D1 := hid (D0.out.step hd hb (fun _ hk => hk)); clear hb hd) | (go_at_call 116; refine (HF.out _).mono ?_; rintro x w3 ⟨rfl, hb⟩; have D2 := hid ((D1.out.on hb).new 88 [.bool M.s, .int .i64 M.p, .bool M.wr, .bool M.ex]); have HN : Hid (w3.heap.size ≠ g4) := hid (fun e => by have := ((D1.out.on hb).get 0 rfl).lt; omega); clear hb))
  clear D0 D1 HR HF
  generalize w3.alloc _ = w4 at *
  generalize w3.heap.size = g6 at *
  by_cases he : e = 0
  · subst he
    cases O with
    | true =>
      go_wp2_with (first | (go_at_call 117; refine (HH.out _ D2.out.db).mono ?_; rintro x w5 ⟨rfl, hb⟩; have D3 := hid (D2.out.on hb); clear hb) | (refine wpList_load_gm rfl 67 _ rfl g6 0 rfl _ _ (D2.out.get 0 rfl).frm under47 rfl size47 ?_) | (refine wpList_load_g rfl 88 _ rfl g6 rfl (D3.out.get 0 rfl) rfl under49 size49 ?_) | (refine wpList_store_st rfl 88 _ _ rfl g4 [.bool M.s, .int .i64 M.p, .bool M.wr, .bool M.ex] rfl rfl (D3.out.get 1 rfl) size49 rfl rfl ?_; intro w6 hc hb hs; have D4 := hid (D3.out.tail.put (by simp) hc hb); have HC := hid hc; clear hc hb hs))
      exact ret_st2 rfl rfl g4 _ rfl HC.out under49 rfl size49 ⟨rfl, D4.out.db, D4.out.but⟩
    | false =>
      go_wp2_with (first | (go_at_call 117; refine (HH.out _ D2.out.db).mono ?_; rintro x w5 ⟨rfl, hb⟩; have D3 := hid (D2.out.on hb); clear hb) | (refine wpList_build_z49 rfl rfl ?_) | (refine wpList_load_gm rfl 67 _ rfl g6 0 rfl _ _ (D2.out.get 0 rfl).frm under47 rfl size47 ?_) | (refine wpList_store_st rfl 88 _ _ rfl g4 [.bool false, .int .i64 0, .bool false, .bool false] rfl rfl (D3.out.get 1 rfl) size49 rfl rfl ?_; intro w6 hc hb hs; have D4 := hid (D3.out.tail.put (by simp) hc hb); have HC := hid hc; clear hc hb hs))
      exact ret_st2 rfl rfl g4 _ rfl HC.out under49 rfl size49 ⟨rfl, D4.out.db, D4.out.but⟩
  · obtain rfl := hz he
    go_wp2_with (first | (refine wpList_load_g rfl 88 _ rfl g6 rfl (D2.out.get 0 rfl) rfl under49 size49 ?_) | (refine wpList_store_st rfl 88 _ _ rfl g4 [.bool Mp.z.s, .int .i64 Mp.z.p, .bool Mp.z.wr, .bool Mp.z.ex] rfl rfl (D2.out.get 1 rfl) size49 rfl rfl ?_; intro w6 hc hb hs; have D4 := hid (D2.out.tail.put (by simp) hc hb); have HC := hid hc; clear hc hb hs))
    exact ret_st2 rfl rfl g4 _ rfl HC.out under49 rfl size49 ⟨rfl, D4.out.db, D4.out.but⟩
end Go.Proofs.YtgbpbfnpeeciaaaGreat
namespace Go.Proofs.YtgbpbfnpeeciaaaGreat
open Go.RowKit Go.Shelf
set_option maxHeartbeats 8000000
set_option maxRecDepth 100000
attribute [local go_sem] Oper.semAt_some
theorem join_any (W : World) (i j o : Int) :
    Calls Tryz.prog 120 #[.int .i64 i, .int .i64 j, .int .i64 o] W fun x W' => x = .returned (.tuple #[.int .u32 (jW i j o), .int .i64 (jE i j o)]) ∧ W' = W := by
  unfold jW jE
  by_cases h1 : 0 ≤ i ∧ i < 256
  · have HB := hid (w_below_any W i 256 true (decide_eq_true h1))
    by_cases h2 : 0 ≤ j ∧ j < 1024
    · have HC := hid (w_below_any W j 1024 true (decide_eq_true h2))
      by_cases h3 : 0 ≤ o ∧ o < 1024
      · have HD := hid (w_below_any W o 1024 true (decide_eq_true h3))
        simp only [if_pos (show JoinOk i j o from ⟨h1, h2, h3⟩)]
        obtain ⟨a1, a2⟩ := h1
        obtain ⟨b1, b2⟩ := h2
        obtain ⟨c1, c2⟩ := h3
        have q1 := or_eq i (j * 4096) 22 a1 (by omega) (by simp; omega) (by simp; omega) (by omega)
        have q2 := or_eq (i * 1024 + j) (o * 4) 12 (by omega) (by omega) (by simp; omega) (by simp; omega) (by omega)
        simp only [Int.reducePow] at q1 q2
        have q3 : (i * 1024 + j) * 4096 = i * 4194304 + j * 4096 := by omega
        rw [q3] at q2
        clear q3
        go_enter Tryz.func120, Tryz.ntmps120
        go_wp2_with fail
        refine HB.out.mono ?_
        rintro x w1 ⟨rfl, rfl⟩
        go_wp2_with fail
        refine HC.out.mono ?_
        rintro x w1 ⟨rfl, rfl⟩
        go_wp2_with fail
        refine HD.out.mono ?_
        rintro x w1 ⟨rfl, rfl⟩
        go_wp2_with fail
        go_returns
        simp
      · have HD := hid (w_below_any W o 1024 false (decide_eq_false h3))
        simp only [if_neg (show ¬ JoinOk i j o from fun h => h3 h.2.2)]
        clear h1 h2 h3
        go_enter Tryz.func120, Tryz.ntmps120
        go_wp2_with fail
        refine HB.out.mono ?_
        rintro x w1 ⟨rfl, rfl⟩
        go_wp2_with fail
        refine HC.out.mono ?_
        rintro x w1 ⟨rfl, rfl⟩
        go_wp2_with fail
        refine HD.out.mono ?_
        rintro x w1 ⟨rfl, rfl⟩
        go_wp2_with fail
        go_returns
        exact ⟨rfl, rfl⟩
    · have HC := hid (w_below_any W j 1024 false (decide_eq_false h2))
      simp only [if_neg (show ¬ JoinOk i j o from fun h => h2 h.2.1)]
      clear h1 h2
      go_enter Tryz.func120, Tryz.ntmps120
      go_wp2_with fail
      refine HB.out.mono ?_
      rintro x w1 ⟨rfl, rfl⟩
      go_wp2_with fail
      refine HC.out.mono ?_
      rintro x w1 ⟨rfl, rfl⟩
      go_wp2_with fail
      go_returns
      exact ⟨rfl, rfl⟩
  · have HB := hid (w_below_any W i 256 false (decide_eq_false h1))
    simp only [if_neg (show ¬ JoinOk i j o from fun h => h1 h.1)]
    clear h1
    go_enter Tryz.func120, Tryz.ntmps120
    go_wp2_with fail
    refine HB.out.mono ?_
    rintro x w1 ⟨rfl, rfl⟩
    go_wp2_with fail
    go_returns
    exact ⟨rfl, rfl⟩
theorem under_in (n : Nat) (w : World) (p : Dp) (d : DS) (h : DB w p d) (hU : d.m.U) (s t i tb : Int) :
    CallsIn .wide n Tryz.prog 97 #[.agg #[.pointer (some ⟨p.g, 0, none⟩), .int .i64 s, .int .i64 t], .int .i64 i, .int .i64 tb] w fun x w' => ∃ v c, x = .returned v ∧ w'.ownsRow w.heap.size 177 5 v (d.m.und i tb 1024).length (flat (d.m.und i tb 1024)) ∧ DB w' p (d.wc c) ∧ ButL p.f.w w w' := by
  have hB0 := ((Bag.two w 139 3 (tbC p s t) [.int .i64 i]).add (u := 95) (ds := [.slice none 0 0]) (es := [.slice none 0 0]) (Cel.new _ 95 [.slice none 0 0]) (.refl _ _))
  simp only [World.size_alloc] at hB0
  unfold tbC ptr at hB0
  have B0 := hid hB0
  have y0 := (hB0.get 2 rfl).cell 0
  have y1 := (hB0.get 2 rfl).cell 1
  have y2 := (hB0.get 2 rfl).cell 2
  simp only [List.getElem?_cons_zero, List.getElem?_cons_succ] at y0 y1 y2
  clear hB0
  refine callsIn_of_wp_marks Tryz.func97 rfl trivial ?_ rfl
  simp only [Tryz.ntmps97, List.size_toArray, List.length_cons, List.length_nil, Nat.reduceAdd, Nat.reduceSub, Array.replicate_succ, Array.replicate_zero, List.push_toArray, List.append_toArray, List.nil_append, List.cons_append]
  gi_wp2
  have HP := hid (places_any (((w.alloc (.cells #[.pointer (some ⟨p.g, 0, none⟩), .int .i64 s, .int .i64 t] 139)).alloc (.cells #[.int .i64 i] 3)).alloc (.cells #[.slice none 0 0] 95)) p s t tb 1024)
  unfold tbV ptr at HP
  refine ⟨trivial, (fun h => by cases h), CallsIn.mono (callsIn_wide.2 HP.out) ?_⟩
  rintro x w3 ⟨b3, b4, b5, rfl, hB, l3, l4, l5⟩
  clear HP y0 y1 y2
  unfold tbC ptr at hB
  simp only [World.size_alloc] at l3 l4 l5
  have hb3 := hB.below
  have HB1 := hid (B0.out.on hB.below)
  have HB2 := hid hB
  clear hB B0
  gi_wp2
  refine range_out rfl rfl (gf := 118) (lb := #[.pointer (some ⟨b5, 0, none⟩), .pointer (some ⟨b3, 0, none⟩), .pointer (some ⟨b4, 0, none⟩)]) rfl trivial (enters_of Tryz.func118 (by kernel_rfl) rfl) ?_
  intro fn hfn
  generalize hr0 : recOf fn _ _ _ _ _ = r0
  have hW1 : Below w3.heap.size w3 ((w3.alloc (.deferred (some []))).alloc (.loop r0)) := below_on (below_one _ _) (below_one _ _)
  have hD : Ob ((w3.alloc (.deferred (some []))).alloc (.loop r0)) w3.heap.size (.deferred (some [])) := Ob.on (heap_alloc_new w3 _) (below_one _ _)
  have hL : Ob ((w3.alloc (.deferred (some []))).alloc (.loop r0)) (w3.heap.size + 1) (.loop r0) := by
    have := heap_alloc_new (w3.alloc (.deferred (some []))) (.loop r0)
    rw [World.size_alloc] at this
    exact this
  generalize (w3.alloc (.deferred (some []))).alloc (.loop r0) = W1 at *
  have hsz := HB1.out.below.size
  obtain ⟨os, hos⟩ : ∃ os : List (Nat × Obj), os = [(w.heap.size, .cells #[.pointer (some ⟨p.g, 0, none⟩), .int .i64 s, .int .i64 t] 139 (0, 0)), (w.heap.size + 1, .cells #[.int .i64 i] 3 (0, 0)), (b5, .cells #[.int .i64 1024] 3 (0, 0)), (b3, .cells #[.pointer (some ⟨p.g, 0, none⟩), .int .i64 s, .int .i64 t] 139 (0, 0)), (b4, .cells #[.int .i64 tb] 3 (0, 0)), (w3.heap.size, .deferred (some []))] := ⟨_, rfl⟩
  have hJ0 : QJ w W1 p (d.wc d.m.c) os (w.heap.size + 1 + 1) (w3.heap.size + 1) r0 (d.m.und i tb 0) := by
    refine ⟨(h.on HB1.out.below).on hW1, (ButL.of HB1.out.below).on hW1, h.lt, fun q hq => ?_, by omega, by omega, hL, _, Ob.on (HB1.out.get 0 rfl) hW1, World.ownsRow_nil _ _ _ _⟩
    rw [hos] at hq
    simp only [List.mem_cons, List.not_mem_nil, or_false] at hq
    rcases hq with rfl | rfl | rfl | rfl | rfl | rfl
    · exact ⟨Ob.on (HB1.out.get 2 rfl) hW1, Nat.le_refl _, rfl⟩
    · exact ⟨Ob.on (HB1.out.get 1 rfl) hW1, Nat.le_succ _, rfl⟩
    · exact ⟨Ob.on (HB2.out.get 0 rfl) hW1, by simp only; omega, rfl⟩
    · exact ⟨Ob.on (HB2.out.get 2 rfl) hW1, by simp only; omega, rfl⟩
    · exact ⟨Ob.on (HB2.out.get 1 rfl) hW1, by simp only; omega, rfl⟩
    · exact ⟨hD, hsz, rfl⟩
  have ho0 : os[0]? = some (w.heap.size, .cells #[.pointer (some ⟨p.g, 0, none⟩), .int .i64 s, .int .i64 t] 139 (0, 0)) := by rw [hos]; rfl
  have ho1 : os[1]? = some (w.heap.size + 1, .cells #[.int .i64 i] 3 (0, 0)) := by rw [hos]; rfl
  have ho2 : os[2]? = some (b5, .cells #[.int .i64 1024] 3 (0, 0)) := by rw [hos]; rfl
  have ho3 : os[3]? = some (b3, .cells #[.pointer (some ⟨p.g, 0, none⟩), .int .i64 s, .int .i64 t] 139 (0, 0)) := by rw [hos]; rfl
  have ho4 : os[4]? = some (b4, .cells #[.int .i64 tb] 3 (0, 0)) := by rw [hos]; rfl
  have ho5 : os[5]? = some (w3.heap.size, .deferred (some [])) := by rw [hos]; rfl
  generalize w3.heap.size = D at *
  clear hos HB1 HB2 hb3 hsz hD hL hW1 l3 l4 l5
  generalize w.heap.size + 1 + 1 = gl at *
  generalize w.heap.size + 1 = g4 at *
  generalize D + 1 = l at *
  refine CallsIn.mono (plc_in (n - 1) l b5 b3 b4 p s t tb 1024 (by decide) (fun k W => ∃ c, QJ w W p (d.wc c) os gl l r0 (d.m.und i tb k)) ?hJ ?hS W1 ⟨_, hJ0⟩) ?post
  case hJ =>
    rintro k W ⟨c, hj⟩
    exact ⟨⟨_, hj.db⟩, (hj.cel (cs := [.int .i64 1024]) 2 ho2).cell 0, hj.cel (cs := [.pointer (some ⟨p.g, 0, none⟩), .int .i64 s, .int .i64 t]) 3 ho3, (hj.cel (cs := [.int .i64 tb]) 4 ho4).cell 0⟩
  case post =>
    rintro e W2 ⟨⟨v, rfl⟩, c, hj⟩
    refine ⟨⟨v, rfl⟩, hj.loop, ?_⟩
    have hj3 := hj.putL { r0 with state := .exhausted }
    obtain ⟨vl, hv, hown⟩ := hj3.lst
    have hd3 := hj3.ob 5 ho5
    obtain ⟨f1, f2, f3⟩ := hj3.fin 5 ho5 (.deferred none)
    have ho9 := f3 vl hv hown
    generalize W2.putObj l (.loop { r0 with state := .exhausted }) = W3 at *
    have y0 := hv.cell
    gi_wp2
    refine ⟨by simp, .inl ⟨_, _, rfl, run_takeDeferred hd3, ?_⟩⟩
    exact ⟨_, results_tmp rfl _ _ _, vl, rfl, ho9, ⟨c, f1⟩, f2⟩
  case hS =>
    rintro k W2 W' hk ⟨c, hj0⟩ hbe
    have hj := hj0.on hbe
    clear hj0 hbe
    refine yield_b (r := r0) hj.loop (by rw [← hr0]; rfl) (by rw [← hr0]; rfl) (by rw [← hr0]; rfl) ?_
    rw [← congrArg Loop.assign hr0, ← congrArg Loop.body hr0, ← congrArg Loop.params hr0, ← congrArg Loop.tmps hr0]
    dsimp only [recOf]
    unfold plV ptr
    have hj2 := hj.new 147 [.pointer (some ⟨p.f.gm, 0, none⟩), .int .i64 tb, .int .i64 (k : Int)] (by decide)
    have HN9 : Hid (∀ q ∈ os, q.1 ≠ W'.heap.size) := hid (fun q hq e => by have := (hj.obs q hq).1.lt; omega)
    gi_wp2
    refine ⟨hj2.loop, ?_⟩
    have J1 := hid (hj2.putL (busyOf r0))
    clear hj hj2
    generalize (W'.alloc _).putObj l _ = Y at *
    generalize W'.heap.size = g9 at *
    have HM := hid (fun w (hw : DB w p (d.wc c)) => memory_any w p (d.wc c) hw)
    have HT := hid (fun w (hw : DB w p (d.wc c)) => mapped2_any w p (d.wc c) hw hU tb (k : Int))
    rw [show (d.wc c).m.word true tb (k : Int) = d.m.word true tb (k : Int) from rfl, DS.wc_rd] at HT
    simp only [show ∀ x, (d.wc c).m.mE x = d.m.mE x from fun _ => rfl, show ∀ x, (d.wc c).m.mM x = d.m.mM x from fun _ => rfl] at HT
    have hun : d.m.und i tb (k + 1) = d.m.und i tb k ++ (if d.m.mE (d.m.word true tb (k : Int)) = 0 then [(jW i (k : Int) 0, d.m.mM (d.m.word true tb (k : Int)))] else []) := rfl
    have hul := d.m.und_len i tb k
    rw [hun]
    clear hun
    generalize d.m.mE (d.m.word true tb (k : Int)) = E at *
    generalize d.m.mM (d.m.word true tb (k : Int)) = M at *
    generalize d.m.und i tb k = A at *
    generalize ((d.m.wc c).read true tb (k : Int)).c = c2 at *
    simp only [rdF, plV, ptr, Mp.v] at HT HM
    gi_wp2
    refine region_round (S := fun w0 => Cel w0 w.heap.size 139 [.pointer (some ⟨p.g, 0, none⟩), .int .i64 s, .int .i64 t] ∧ Cel w0 g9 147 [.pointer (some ⟨p.f.gm, 0, none⟩), .int .i64 tb, .int .i64 (k : Int)]) (by kernel_rfl) (by rfl) (fun a w h => by cases h.1) ⟨J1.out.cel (cs := [.pointer (some ⟨p.g, 0, none⟩), .int .i64 s, .int .i64 t]) 1 ho0, J1.out.cel (cs := [.pointer (some ⟨p.f.gm, 0, none⟩), .int .i64 tb, .int .i64 (k : Int)]) 0 rfl⟩ (fun hHeld => ?_)
    have J1b := hid (J1.out.on (Below.refl _ _).drew)
    clear J1
    have J1 := J1b
    clear J1b
    generalize World.drew _ = y1 at *
    refine tk 0 ⟨some 20, .fieldAddr 139 (.tmp 3) 0, 0, "table.go:133", #[], none⟩ (.pointer (some ⟨w.heap.size, 0, none⟩)) ?_
    simp only [Act.put, List.setIfInBounds_toArray, List.set_cons_zero, List.set_cons_succ]
    refine tk 1 ⟨some 21, .load 43 (.tmp 20), 43, "table.go:133", #[⟨0, .data⟩], none⟩ (.pointer (some ⟨p.g, 0, none⟩)) ?_ (hy := Or.inl ⟨by rfl, by intro w hSw; have hc := hSw.1.cell 0; simp only [List.getElem?_cons_zero] at hc; go_simp⟩)
    simp only [Act.put, List.setIfInBounds_toArray, List.set_cons_zero, List.set_cons_succ]
    refine tk 3 ⟨some 23, .load 147 (.tmp 9), 147, "table.go:133", #[], none⟩ (.agg #[.pointer (some ⟨p.f.gm, 0, none⟩), .int .i64 tb, .int .i64 (k : Int)]) ?_ (hy := yieldsIf_load_mid (by rfl) _ _ rfl _ _ rfl _ _ (fun w hSw => hSw.2.range) under97 rfl (by rw [size97]; rfl))
    simp only [Act.put, List.setIfInBounds_toArray, List.set_cons_zero, List.set_cons_succ]
    refine tk 4 ⟨some 24, .makeFunc (Fn.func 79) #[.tmp 23] #[], 150, "table.go:133", #[⟨3, .data⟩], none⟩ (.func (.func 79) #[.agg #[.pointer (some ⟨p.f.gm, 0, none⟩), .int .i64 tb, .int .i64 (k : Int)]] #[]) ?_
    simp only [Act.put, List.setIfInBounds_toArray, List.set_cons_zero, List.set_cons_succ]
    refine wpAnyH_ready (rs := [2, 9]) (by kernel_rfl) (by simp) (AllReadyH.cons (o := ⟨some 22, .call { callee := .value (.func 92), args := #[.tmp 21], argTypes := #[43] }, 36, "table.go:133", #[⟨1, .data⟩], none⟩) rfl (fun KQ hK => ?_) (AllReadyH.cons (o := ⟨some 10, .alloc 88, 0, "table.go:133", #[], none⟩) rfl (fun KQ hK => ?_) AllReadyH.nil))
    · go_simp
      refine (HM.out _ J1.out.db).mono ?_
      rintro e w6 ⟨rfl, rfl⟩
      go_wp2_with fail
      refine hK.out _ _ ⟨J1.out.cel (cs := [.pointer (some ⟨p.g, 0, none⟩), .int .i64 s, .int .i64 t]) 1 ho0, J1.out.cel (cs := [.pointer (some ⟨p.f.gm, 0, none⟩), .int .i64 tb, .int .i64 (k : Int)]) 0 rfl⟩ (fun hHeld => ?_)
      clear hK KQ
      try simp only [Act.put, List.setIfInBounds_toArray, List.set_cons_zero, List.set_cons_succ]
      refine wpAnyH_ready (rs := [5, 9]) (by kernel_rfl) (by simp) (AllReadyH.cons (o := ⟨some 25, .call { callee := .value (.func 91), args := #[.tmp 22, .tmp 24], argTypes := #[36, 150] }, 91, "table.go:133", #[⟨2, .data⟩, ⟨4, .data⟩, ⟨2, .chain⟩], none⟩) rfl (fun KQ hK => ?_) (AllReadyH.cons (o := ⟨some 10, .alloc 88, 0, "table.go:133", #[], none⟩) rfl (fun KQ hK => ?_) AllReadyH.nil))
      · go_simp
        refine (HT.out _ J1.out.db).mono ?_
        rintro e w7 ⟨rfl, hd, hb⟩
        have J4 := hid (J1.out.mem hd hb)
        clear hb hd
        go_wp2_with fail
        refine hK.out _ _ ⟨J4.out.cel (cs := [.pointer (some ⟨p.g, 0, none⟩), .int .i64 s, .int .i64 t]) 1 ho0, J4.out.cel (cs := [.pointer (some ⟨p.f.gm, 0, none⟩), .int .i64 tb, .int .i64 (k : Int)]) 0 rfl⟩ (fun hHeld => ?_)
        clear hK KQ
        try simp only [Act.put, List.setIfInBounds_toArray, List.set_cons_zero, List.set_cons_succ]
        refine tk 6 ⟨some 19, .move (.tmp 25), 91, "table.go:133", #[⟨5, .data⟩], none⟩ (.tuple #[.agg #[.bool M.s, .int .i64 M.p, .bool M.wr, .bool M.ex], .int .i64 E]) ?_
        simp only [Act.put, List.setIfInBounds_toArray, List.set_cons_zero, List.set_cons_succ]
        refine tk 7 ⟨some 26, .extract (.tmp 19) 0, 88, "table.go:133", #[⟨6, .data⟩], none⟩ (.agg #[.bool M.s, .int .i64 M.p, .bool M.wr, .bool M.ex]) ?_
        simp only [Act.put, List.setIfInBounds_toArray, List.set_cons_zero, List.set_cons_succ]
        refine tk 8 ⟨some 27, .extract (.tmp 19) 1, 37, "table.go:133", #[⟨6, .data⟩, { on := 10, ground := .gcOnly Departure.lateStores }], none⟩ (.int .i64 E) ?_
        simp only [Act.put, List.setIfInBounds_toArray, List.set_cons_zero, List.set_cons_succ]
        refine wpAnyH_ready (rs := [9]) (by kernel_rfl) (by simp) (AllReadyH.cons (o := ⟨some 10, .alloc 88, 0, "table.go:133", #[], none⟩) rfl (fun KQ hK => ?_) AllReadyH.nil)
        go_simp
        have J5 := hid (J4.out.new 88 [.bool false, .int .i64 0, .bool false, .bool false] (by decide))
        have HN10 : Hid (∀ q ∈ ((g9, Obj.cells #[.pointer (some ⟨p.f.gm, 0, none⟩), .int .i64 tb, .int .i64 (k : Int)] 147 (0, 0)) :: os), q.1 ≠ w7.heap.size) := hid (fun q hq e => by have := (J4.out.obs q hq).1.lt; omega)
        generalize w7.alloc _ = w8 at *
        generalize w7.heap.size = g10 at *
        refine hK.out _ _ ⟨J5.out.cel (cs := [.pointer (some ⟨p.g, 0, none⟩), .int .i64 s, .int .i64 t]) 2 ho0, J5.out.cel (cs := [.pointer (some ⟨p.f.gm, 0, none⟩), .int .i64 tb, .int .i64 (k : Int)]) 1 rfl⟩ (fun hHeld => ?_)
        clear hK KQ
        try simp only [Act.put, List.setIfInBounds_toArray, List.set_cons_zero, List.set_cons_succ]
        refine wpAnyH_ready (rs := [10]) (by kernel_rfl) (by simp) (AllReadyH.cons (o := ⟨none, .store 88 (.tmp 10) (.tmp 26), 0, "table.go:133", #[⟨9, .data⟩, ⟨7, .data⟩, ⟨5, .chain⟩, ⟨0, .phase⟩, ⟨1, .phase⟩, ⟨2, .phase⟩, ⟨3, .phase⟩, ⟨4, .phase⟩, ⟨5, .phase⟩, ⟨6, .phase⟩, ⟨7, .phase⟩, { on := 8, ground := .textOnly Departure.lateStores }, ⟨9, .phase⟩], none⟩) rfl (fun KQ hK => ?_) AllReadyH.nil)
        rw [if_pos (by rfl)]
        refine wp_store_st 88 _ _ rfl g10 [.bool M.s, .int .i64 M.p, .bool M.wr, .bool M.ex] rfl rfl (J5.out.cel (cs := [.bool false, .int .i64 0, .bool false, .bool false]) 0 rfl) size49 rfl rfl ?_
        intro w9 hc hb hs
        have J7 := hid (J5.out.putC HN10.out hc hb)
        clear hc hb hs
        refine hK.out _ _ ⟨J7.out.cel (cs := [.pointer (some ⟨p.g, 0, none⟩), .int .i64 s, .int .i64 t]) 2 ho0, J7.out.cel (cs := [.pointer (some ⟨p.f.gm, 0, none⟩), .int .i64 tb, .int .i64 (k : Int)]) 1 rfl⟩ (fun hHeld => ?_)
        clear hK KQ
        try simp only [Act.put]
        refine wpAnyH_ready (rs := [11]) (by kernel_rfl) (by simp) (AllReadyH.cons (o := ⟨some 11, .assign (.tmp 27), 37, "table.go:133", #[⟨8, .data⟩, ⟨10, .chain⟩, ⟨0, .phase⟩, ⟨1, .phase⟩, ⟨2, .phase⟩, ⟨3, .phase⟩, ⟨4, .phase⟩, ⟨5, .phase⟩, ⟨6, .phase⟩, ⟨7, .phase⟩, ⟨8, .phase⟩, ⟨9, .phase⟩, ⟨10, .phase⟩], none⟩) rfl (fun KQ hK => ?_) AllReadyH.nil)
        go_simp
        refine hK.out _ _ ⟨J7.out.cel (cs := [.pointer (some ⟨p.g, 0, none⟩), .int .i64 s, .int .i64 t]) 2 ho0, J7.out.cel (cs := [.pointer (some ⟨p.f.gm, 0, none⟩), .int .i64 tb, .int .i64 (k : Int)]) 1 rfl⟩ (fun hHeld => ?_)
        clear hK KQ
        try simp only [Act.put, List.setIfInBounds_toArray, List.set_cons_zero, List.set_cons_succ]
        refine wpAnyH_done (by kernel_rfl) ?_ _
        have c4 := (J7.out.cel (cs := [.int .i64 i]) 3 ho1).cell 0
        simp only [List.getElem?_cons_zero] at c4
        obtain ⟨d0, d1, d2, d3⟩ := cel4 (J7.out.cel (cs := [.bool M.s, .int .i64 M.p, .bool M.wr, .bool M.ex]) 0 rfl)
        clear HM HT
        by_cases hE : E = 0
        · subst hE
          gi_wp2
          refine ⟨trivial, (fun h => by cases h), CallsIn.mono (callsIn_wide.2 (join_any _ _ _ _)) ?_⟩
          rintro x w10 ⟨rfl, rfl⟩
          generalize hva : jW i (k : Int) 0 = va at *
          generalize jE i (k : Int) 0 = ve at *
          obtain ⟨v, hv, hown⟩ := J7.out.lst
          have y0 := hv.cell
          obtain ⟨i0, hi, hz0, hz1, hz2⟩ := info_parts info67
          have hnew : ∀ j u, (atC (va, M))[j]? = some u → (w10.alloc (.cells #[.int .u32 va, .bool M.s, .int .i64 M.p, .bool M.wr, .bool M.ex] 177)).cell? ((⟨w10.heap.size, 0, none⟩ : Addr).add j) = some u := (Cel.new w10 177 (atC (va, M))).src
          have hYs : w.heap.size ≤ w10.heap.size := J7.out.but.size
          have hAm : A.length + 1 ≤ maxLen := by unfold maxLen; omega
          have hAb : (A.length + 1) * 32 ≤ 140737488355328 := by omega
          have HNEW := hid hnew
          have hvo := J7.out.ne_own hown hv (by intro cs z e; simp [box] at e)
          clear hnew
          gi_wp2_with (first | (gi_at_builtin; refine wpListIn_append_own _ rfl _ _ 95 rfl w.heap.size 177 i0 _ 5 32 under60 hi hz0 hz1 hz2 rfl (by decide) v A.length (flat A) rfl (hown.alloc _) ⟨w10.heap.size, 0, none⟩ 1 1 (atC (va, M)) rfl rfl HNEW.out (by intro u hu; simp only [atC, List.mem_cons, List.not_mem_nil, or_false] at hu; rcases hu with rfl | rfl | rfl | rfl | rfl <;> rfl) hAm hAb (by simp; omega) ?_; intro v' w5 hown5 hgrow _; obtain ⟨g', cap', rfl⟩ := ownsRow_succ hown5; have hv5 : Ob w5 gl (box v 95) := (hgrow.block gl (hv.on (below_one _ _)).lt hvo).trans (hv.on (below_one _ _)); have c5 := hv5.cell; have f5 := hv5.free))
          rw [show A.length + 1 = (A ++ [(va, M)]).length by simp, ← flat_snoc] at hown5
          have hJ8 := ((J7.out.on (below_one w10 (.cells #[.int .u32 va, .bool M.s, .int .i64 M.p, .bool M.wr, .bool M.ex] 177))).app (hv.on (below_one _ _)) (hown.alloc _) hgrow hown5).tl.tl
          rw [List.length_append, List.length_singleton] at hJ8
          exact ⟨hJ8.loop, c2, hJ8.putL r0⟩
        · gi_wp2
          exact ⟨J7.out.loop, c2, J7.out.tl.tl.putL r0⟩
      · go_simp
        have J5 := hid (J1.out.new 88 [.bool false, .int .i64 0, .bool false, .bool false] (by decide))
        have HN10 : Hid (∀ q ∈ ((g9, Obj.cells #[.pointer (some ⟨p.f.gm, 0, none⟩), .int .i64 tb, .int .i64 (k : Int)] 147 (0, 0)) :: os), q.1 ≠ y1.heap.size) := hid (fun q hq e => by have := (J1.out.obs q hq).1.lt; omega)
        generalize y1.alloc _ = w8 at *
        generalize y1.heap.size = g10 at *
        refine hK.out _ _ ⟨J5.out.cel (cs := [.pointer (some ⟨p.g, 0, none⟩), .int .i64 s, .int .i64 t]) 2 ho0, J5.out.cel (cs := [.pointer (some ⟨p.f.gm, 0, none⟩), .int .i64 tb, .int .i64 (k : Int)]) 1 rfl⟩ (fun hHeld => ?_)
        clear hK KQ
        try simp only [Act.put, List.setIfInBounds_toArray, List.set_cons_zero, List.set_cons_succ]
        refine wpAnyH_ready (rs := [5]) (by kernel_rfl) (by simp) (AllReadyH.cons (o := ⟨some 25, .call { callee := .value (.func 91), args := #[.tmp 22, .tmp 24], argTypes := #[36, 150] }, 91, "table.go:133", #[⟨2, .data⟩, ⟨4, .data⟩, ⟨2, .chain⟩], none⟩) rfl (fun KQ hK => ?_) AllReadyH.nil)
        go_simp
        refine (HT.out _ J5.out.db).mono ?_
        rintro e w7 ⟨rfl, hd, hb⟩
        have J4 := hid (J5.out.mem hd hb)
        clear hb hd
        go_wp2_with fail
        refine hK.out _ _ ⟨J4.out.cel (cs := [.pointer (some ⟨p.g, 0, none⟩), .int .i64 s, .int .i64 t]) 2 ho0, J4.out.cel (cs := [.pointer (some ⟨p.f.gm, 0, none⟩), .int .i64 tb, .int .i64 (k : Int)]) 1 rfl⟩ (fun hHeld => ?_)
        clear hK KQ
        try simp only [Act.put, List.setIfInBounds_toArray, List.set_cons_zero, List.set_cons_succ]
        refine tk 6 ⟨some 19, .move (.tmp 25), 91, "table.go:133", #[⟨5, .data⟩], none⟩ (.tuple #[.agg #[.bool M.s, .int .i64 M.p, .bool M.wr, .bool M.ex], .int .i64 E]) ?_
        simp only [Act.put, List.setIfInBounds_toArray, List.set_cons_zero, List.set_cons_succ]
        refine tk 7 ⟨some 26, .extract (.tmp 19) 0, 88, "table.go:133", #[⟨6, .data⟩], none⟩ (.agg #[.bool M.s, .int .i64 M.p, .bool M.wr, .bool M.ex]) ?_
        simp only [Act.put, List.setIfInBounds_toArray, List.set_cons_zero, List.set_cons_succ]
        refine tk 8 ⟨some 27, .extract (.tmp 19) 1, 37, "table.go:133", #[⟨6, .data⟩, { on := 10, ground := .gcOnly Departure.lateStores }], none⟩ (.int .i64 E) ?_
        simp only [Act.put, List.setIfInBounds_toArray, List.set_cons_zero, List.set_cons_succ]
        refine wpAnyH_ready (rs := [10]) (by kernel_rfl) (by simp) (AllReadyH.cons (o := ⟨none, .store 88 (.tmp 10) (.tmp 26), 0, "table.go:133", #[⟨9, .data⟩, ⟨7, .data⟩, ⟨5, .chain⟩, ⟨0, .phase⟩, ⟨1, .phase⟩, ⟨2, .phase⟩, ⟨3, .phase⟩, ⟨4, .phase⟩, ⟨5, .phase⟩, ⟨6, .phase⟩, ⟨7, .phase⟩, { on := 8, ground := .textOnly Departure.lateStores }, ⟨9, .phase⟩], none⟩) rfl (fun KQ hK => ?_) AllReadyH.nil)
        rw [if_pos (by rfl)]
        refine wp_store_st 88 _ _ rfl g10 [.bool M.s, .int .i64 M.p, .bool M.wr, .bool M.ex] rfl rfl (J4.out.cel (cs := [.bool false, .int .i64 0, .bool false, .bool false]) 0 rfl) size49 rfl rfl ?_
        intro w9 hc hb hs
        have J7 := hid (J4.out.putC HN10.out hc hb)
        clear hc hb hs
        refine hK.out _ _ ⟨J7.out.cel (cs := [.pointer (some ⟨p.g, 0, none⟩), .int .i64 s, .int .i64 t]) 2 ho0, J7.out.cel (cs := [.pointer (some ⟨p.f.gm, 0, none⟩), .int .i64 tb, .int .i64 (k : Int)]) 1 rfl⟩ (fun hHeld => ?_)
        clear hK KQ
        try simp only [Act.put]
        refine wpAnyH_ready (rs := [11]) (by kernel_rfl) (by simp) (AllReadyH.cons (o := ⟨some 11, .assign (.tmp 27), 37, "table.go:133", #[⟨8, .data⟩, ⟨10, .chain⟩, ⟨0, .phase⟩, ⟨1, .phase⟩, ⟨2, .phase⟩, ⟨3, .phase⟩, ⟨4, .phase⟩, ⟨5, .phase⟩, ⟨6, .phase⟩, ⟨7, .phase⟩, ⟨8, .phase⟩, ⟨9, .phase⟩, ⟨10, .phase⟩], none⟩) rfl (fun KQ hK => ?_) AllReadyH.nil)
        go_simp
        refine hK.out _ _ ⟨J7.out.cel (cs := [.pointer (some ⟨p.g, 0, none⟩), .int .i64 s, .int .i64 t]) 2 ho0, J7.out.cel (cs := [.pointer (some ⟨p.f.gm, 0, none⟩), .int .i64 tb, .int .i64 (k : Int)]) 1 rfl⟩ (fun hHeld => ?_)
        clear hK KQ
        try simp only [Act.put, List.setIfInBounds_toArray, List.set_cons_zero, List.set_cons_succ]
        refine wpAnyH_done (by kernel_rfl) ?_ _
        have c4 := (J7.out.cel (cs := [.int .i64 i]) 3 ho1).cell 0
        simp only [List.getElem?_cons_zero] at c4
        obtain ⟨d0, d1, d2, d3⟩ := cel4 (J7.out.cel (cs := [.bool M.s, .int .i64 M.p, .bool M.wr, .bool M.ex]) 0 rfl)
        clear HM HT
        by_cases hE : E = 0
        · subst hE
          gi_wp2
          refine ⟨trivial, (fun h => by cases h), CallsIn.mono (callsIn_wide.2 (join_any _ _ _ _)) ?_⟩
          rintro x w10 ⟨rfl, rfl⟩
          generalize hva : jW i (k : Int) 0 = va at *
          generalize jE i (k : Int) 0 = ve at *
          obtain ⟨v, hv, hown⟩ := J7.out.lst
          have y0 := hv.cell
          obtain ⟨i0, hi, hz0, hz1, hz2⟩ := info_parts info67
          have hnew : ∀ j u, (atC (va, M))[j]? = some u → (w10.alloc (.cells #[.int .u32 va, .bool M.s, .int .i64 M.p, .bool M.wr, .bool M.ex] 177)).cell? ((⟨w10.heap.size, 0, none⟩ : Addr).add j) = some u := (Cel.new w10 177 (atC (va, M))).src
          have hYs : w.heap.size ≤ w10.heap.size := J7.out.but.size
          have hAm : A.length + 1 ≤ maxLen := by unfold maxLen; omega
          have hAb : (A.length + 1) * 32 ≤ 140737488355328 := by omega
          have HNEW := hid hnew
          have hvo := J7.out.ne_own hown hv (by intro cs z e; simp [box] at e)
          clear hnew
          gi_wp2_with (first | (gi_at_builtin; refine wpListIn_append_own _ rfl _ _ 95 rfl w.heap.size 177 i0 _ 5 32 under60 hi hz0 hz1 hz2 rfl (by decide) v A.length (flat A) rfl (hown.alloc _) ⟨w10.heap.size, 0, none⟩ 1 1 (atC (va, M)) rfl rfl HNEW.out (by intro u hu; simp only [atC, List.mem_cons, List.not_mem_nil, or_false] at hu; rcases hu with rfl | rfl | rfl | rfl | rfl <;> rfl) hAm hAb (by simp; omega) ?_; intro v' w5 hown5 hgrow _; obtain ⟨g', cap', rfl⟩ := ownsRow_succ hown5; have hv5 : Ob w5 gl (box v 95) := (hgrow.block gl (hv.on (below_one _ _)).lt hvo).trans (hv.on (below_one _ _)); have c5 := hv5.cell; have f5 := hv5.free))
          rw [show A.length + 1 = (A ++ [(va, M)]).length by simp, ← flat_snoc] at hown5
          have hJ8 := ((J7.out.on (below_one w10 (.cells #[.int .u32 va, .bool M.s, .int .i64 M.p, .bool M.wr, .bool M.ex] 177))).app (hv.on (below_one _ _)) (hown.alloc _) hgrow hown5).tl.tl
          rw [List.length_append, List.length_singleton] at hJ8
          exact ⟨hJ8.loop, c2, hJ8.putL r0⟩
        · gi_wp2
          exact ⟨J7.out.loop, c2, J7.out.tl.tl.putL r0⟩
    · go_simp
      have J5 := hid (J1.out.new 88 [.bool false, .int .i64 0, .bool false, .bool false] (by decide))
      have HN10 : Hid (∀ q ∈ ((g9, Obj.cells #[.pointer (some ⟨p.f.gm, 0, none⟩), .int .i64 tb, .int .i64 (k : Int)] 147 (0, 0)) :: os), q.1 ≠ y1.heap.size) := hid (fun q hq e => by have := (J1.out.obs q hq).1.lt; omega)
      generalize y1.alloc _ = w8 at *
      generalize y1.heap.size = g10 at *
      refine hK.out _ _ ⟨J5.out.cel (cs := [.pointer (some ⟨p.g, 0, none⟩), .int .i64 s, .int .i64 t]) 2 ho0, J5.out.cel (cs := [.pointer (some ⟨p.f.gm, 0, none⟩), .int .i64 tb, .int .i64 (k : Int)]) 1 rfl⟩ (fun hHeld => ?_)
      clear hK KQ
      try simp only [Act.put, List.setIfInBounds_toArray, List.set_cons_zero, List.set_cons_succ]
      refine wpAnyH_ready (rs := [2]) (by kernel_rfl) (by simp) (AllReadyH.cons (o := ⟨some 22, .call { callee := .value (.func 92), args := #[.tmp 21], argTypes := #[43] }, 36, "table.go:133", #[⟨1, .data⟩], none⟩) rfl (fun KQ hK => ?_) AllReadyH.nil)
      go_simp
      refine (HM.out _ J5.out.db).mono ?_
      rintro e w6 ⟨rfl, rfl⟩
      go_wp2_with fail
      refine hK.out _ _ ⟨J5.out.cel (cs := [.pointer (some ⟨p.g, 0, none⟩), .int .i64 s, .int .i64 t]) 2 ho0, J5.out.cel (cs := [.pointer (some ⟨p.f.gm, 0, none⟩), .int .i64 tb, .int .i64 (k : Int)]) 1 rfl⟩ (fun hHeld => ?_)
      clear hK KQ
      try simp only [Act.put, List.setIfInBounds_toArray, List.set_cons_zero, List.set_cons_succ]
      refine wpAnyH_ready (rs := [5]) (by kernel_rfl) (by simp) (AllReadyH.cons (o := ⟨some 25, .call { callee := .value (.func 91), args := #[.tmp 22, .tmp 24], argTypes := #[36, 150] }, 91, "table.go:133", #[⟨2, .data⟩, ⟨4, .data⟩, ⟨2, .chain⟩], none⟩) rfl (fun KQ hK => ?_) AllReadyH.nil)
      go_simp
      refine (HT.out _ J5.out.db).mono ?_
      rintro e w7 ⟨rfl, hd, hb⟩
      have J4 := hid (J5.out.mem hd hb)
      clear hb hd
      go_wp2_with fail
      refine hK.out _ _ ⟨J4.out.cel (cs := [.pointer (some ⟨p.g, 0, none⟩), .int .i64 s, .int .i64 t]) 2 ho0, J4.out.cel (cs := [.pointer (some ⟨p.f.gm, 0, none⟩), .int .i64 tb, .int .i64 (k : Int)]) 1 rfl⟩ (fun hHeld => ?_)
      clear hK KQ
      try simp only [Act.put, List.setIfInBounds_toArray, List.set_cons_zero, List.set_cons_succ]
      refine tk 6 ⟨some 19, .move (.tmp 25), 91, "table.go:133", #[⟨5, .data⟩], none⟩ (.tuple #[.agg #[.bool M.s, .int .i64 M.p, .bool M.wr, .bool M.ex], .int .i64 E]) ?_
      simp only [Act.put, List.setIfInBounds_toArray, List.set_cons_zero, List.set_cons_succ]
      refine tk 7 ⟨some 26, .extract (.tmp 19) 0, 88, "table.go:133", #[⟨6, .data⟩], none⟩ (.agg #[.bool M.s, .int .i64 M.p, .bool M.wr, .bool M.ex]) ?_
      simp only [Act.put, List.setIfInBounds_toArray, List.set_cons_zero, List.set_cons_succ]
      refine tk 8 ⟨some 27, .extract (.tmp 19) 1, 37, "table.go:133", #[⟨6, .data⟩, { on := 10, ground := .gcOnly Departure.lateStores }], none⟩ (.int .i64 E) ?_
      simp only [Act.put, List.setIfInBounds_toArray, List.set_cons_zero, List.set_cons_succ]
      refine wpAnyH_ready (rs := [10]) (by kernel_rfl) (by simp) (AllReadyH.cons (o := ⟨none, .store 88 (.tmp 10) (.tmp 26), 0, "table.go:133", #[⟨9, .data⟩, ⟨7, .data⟩, ⟨5, .chain⟩, ⟨0, .phase⟩, ⟨1, .phase⟩, ⟨2, .phase⟩, ⟨3, .phase⟩, ⟨4, .phase⟩, ⟨5, .phase⟩, ⟨6, .phase⟩, ⟨7, .phase⟩, { on := 8, ground := .textOnly Departure.lateStores }, ⟨9, .phase⟩], none⟩) rfl (fun KQ hK => ?_) AllReadyH.nil)
      rw [if_pos (by rfl)]
      refine wp_store_st 88 _ _ rfl g10 [.bool M.s, .int .i64 M.p, .bool M.wr, .bool M.ex] rfl rfl (J4.out.cel (cs := [.bool false, .int .i64 0, .bool false, .bool false]) 0 rfl) size49 rfl rfl ?_
      intro w9 hc hb hs
      have J7 := hid (J4.out.putC HN10.out hc hb)
      clear hc hb hs
      refine hK.out _ _ ⟨J7.out.cel (cs := [.pointer (some ⟨p.g, 0, none⟩), .int .i64 s, .int .i64 t]) 2 ho0, J7.out.cel (cs := [.pointer (some ⟨p.f.gm, 0, none⟩), .int .i64 tb, .int .i64 (k : Int)]) 1 rfl⟩ (fun hHeld => ?_)
      clear hK KQ
      try simp only [Act.put]
      refine wpAnyH_ready (rs := [11]) (by kernel_rfl) (by simp) (AllReadyH.cons (o := ⟨some 11, .assign (.tmp 27), 37, "table.go:133", #[⟨8, .data⟩, ⟨10, .chain⟩, ⟨0, .phase⟩, ⟨1, .phase⟩, ⟨2, .phase⟩, ⟨3, .phase⟩, ⟨4, .phase⟩, ⟨5, .phase⟩, ⟨6, .phase⟩, ⟨7, .phase⟩, ⟨8, .phase⟩, ⟨9, .phase⟩, ⟨10, .phase⟩], none⟩) rfl (fun KQ hK => ?_) AllReadyH.nil)
      go_simp
      refine hK.out _ _ ⟨J7.out.cel (cs := [.pointer (some ⟨p.g, 0, none⟩), .int .i64 s, .int .i64 t]) 2 ho0, J7.out.cel (cs := [.pointer (some ⟨p.f.gm, 0, none⟩), .int .i64 tb, .int .i64 (k : Int)]) 1 rfl⟩ (fun hHeld => ?_)
      clear hK KQ
      try simp only [Act.put, List.setIfInBounds_toArray, List.set_cons_zero, List.set_cons_succ]
      refine wpAnyH_done (by kernel_rfl) ?_ _
      have c4 := (J7.out.cel (cs := [.int .i64 i]) 3 ho1).cell 0
      simp only [List.getElem?_cons_zero] at c4
      obtain ⟨d0, d1, d2, d3⟩ := cel4 (J7.out.cel (cs := [.bool M.s, .int .i64 M.p, .bool M.wr, .bool M.ex]) 0 rfl)
      clear HM HT
      by_cases hE : E = 0
      · subst hE
        gi_wp2
        refine ⟨trivial, (fun h => by cases h), CallsIn.mono (callsIn_wide.2 (join_any _ _ _ _)) ?_⟩
        rintro x w10 ⟨rfl, rfl⟩
        generalize hva : jW i (k : Int) 0 = va at *
        generalize jE i (k : Int) 0 = ve at *
        obtain ⟨v, hv, hown⟩ := J7.out.lst
        have y0 := hv.cell
        obtain ⟨i0, hi, hz0, hz1, hz2⟩ := info_parts info67
        have hnew : ∀ j u, (atC (va, M))[j]? = some u → (w10.alloc (.cells #[.int .u32 va, .bool M.s, .int .i64 M.p, .bool M.wr, .bool M.ex] 177)).cell? ((⟨w10.heap.size, 0, none⟩ : Addr).add j) = some u := (Cel.new w10 177 (atC (va, M))).src
        have hYs : w.heap.size ≤ w10.heap.size := J7.out.but.size
        have hAm : A.length + 1 ≤ maxLen := by unfold maxLen; omega
        have hAb : (A.length + 1) * 32 ≤ 140737488355328 := by omega
        have HNEW := hid hnew
        have hvo := J7.out.ne_own hown hv (by intro cs z e; simp [box] at e)
        clear hnew
        gi_wp2_with (first | (gi_at_builtin; refine wpListIn_append_own _ rfl _ _ 95 rfl w.heap.size 177 i0 _ 5 32 under60 hi hz0 hz1 hz2 rfl (by decide) v A.length (flat A) rfl (hown.alloc _) ⟨w10.heap.size, 0, none⟩ 1 1 (atC (va, M)) rfl rfl HNEW.out (by intro u hu; simp only [atC, List.mem_cons, List.not_mem_nil, or_false] at hu; rcases hu with rfl | rfl | rfl | rfl | rfl <;> rfl) hAm hAb (by simp; omega) ?_; intro v' w5 hown5 hgrow _; obtain ⟨g', cap', rfl⟩ := ownsRow_succ hown5; have hv5 : Ob w5 gl (box v 95) := (hgrow.block gl (hv.on (below_one _ _)).lt hvo).trans (hv.on (below_one _ _)); have c5 := hv5.cell; have f5 := hv5.free))
        rw [show A.length + 1 = (A ++ [(va, M)]).length by simp, ← flat_snoc] at hown5
        have hJ8 := ((J7.out.on (below_one w10 (.cells #[.int .u32 va, .bool M.s, .int .i64 M.p, .bool M.wr, .bool M.ex] 177))).app (hv.on (below_one _ _)) (hown.alloc _) hgrow hown5).tl.tl
        rw [List.length_append, List.length_singleton] at hJ8
        exact ⟨hJ8.loop, c2, hJ8.putL r0⟩
      · gi_wp2
        exact ⟨J7.out.loop, c2, J7.out.tl.tl.putL r0⟩
end Go.Proofs.YtgbpbfnpeeciaaaGreat
