/- List 26. -/
import Derived.Test.YtgbpbfnpeeciaaaIt5
namespace Go.Proofs.Ytgbpbfnpeeciaaa
open Go.RowKit Go.Shelf
set_option maxHeartbeats 8000000
set_option maxRecDepth 100000
attribute [local go_sem] Oper.semAt_some
theorem mapped_any (W : World) (gm : Nat) (l1 : Int) :
    Calls Try.prog 48 #[.pointer (some ⟨gm, 0, none⟩), .int .i64 l1] W fun x W' => ∃ bm bl, x = .returned (.func (.func 84) #[] #[.pointer (some ⟨bm, 0, none⟩), .pointer (some ⟨bl, 0, none⟩)]) ∧ Ob W' bm (box (.pointer (some ⟨gm, 0, none⟩)) 65) ∧ Ob W' bl (box (.int .i64 l1) 3) ∧ W.heap.size ≤ bm ∧ W.heap.size ≤ bl ∧ Below W.heap.size W W' := by
  have h1 : Ob (W.alloc (.cells #[.pointer (some ⟨gm, 0, none⟩)] 65)) W.heap.size (box (.pointer (some ⟨gm, 0, none⟩)) 65) := heap_alloc_new _ _
  have h2 := heap_alloc_new (W.alloc (.cells #[.pointer (some ⟨gm, 0, none⟩)] 65)) (.cells #[.int .i64 l1] 3)
  rw [World.size_alloc] at h2
  have H : Hid (Ob ((W.alloc (.cells #[.pointer (some ⟨gm, 0, none⟩)] 65)).alloc (.cells #[.int .i64 l1] 3)) W.heap.size (box (.pointer (some ⟨gm, 0, none⟩)) 65) ∧ Ob ((W.alloc (.cells #[.pointer (some ⟨gm, 0, none⟩)] 65)).alloc (.cells #[.int .i64 l1] 3)) (W.heap.size + 1) (box (.int .i64 l1) 3)) := hid ⟨h1.on (below_one _ _), h2⟩
  clear h1 h2
  go_enter Try.func48, Try.ntmps48
  go_wp2_with fail
  go_ret
  exact ⟨_, _, rfl, H.out.1, H.out.2, Nat.le_refl _, Nat.le_succ _, below_on (below_one _ _) (below_one _ _)⟩
def atC (x : Int × Mp) : List Value := [.int .u32 x.1, .bool x.2.s, .int .i64 x.2.p, .bool x.2.wr, .bool x.2.ex]
def flat (A : List (Int × Mp)) : List Value := A.flatMap atC
theorem flat_snoc (A : List (Int × Mp)) (x : Int × Mp) : flat (A ++ [x]) = flat A ++ atC x := by simp [flat]
/-- What List holds between two rounds. -/
structure LJ (w W : World) (f : Fp) (m : MS) (gl bm bl L D : Nat) (l1 : Int) (r : Loop) (A : List (Int × Mp)) (c : Int) : Prop where
  mem : Mem W f (m.wc c)
  but : ButL f.w w W
  cm : Ob W bm (box (.pointer (some ⟨f.gm, 0, none⟩)) 65)
  cl : Ob W bl (box (.int .i64 l1) 3)
  l : Ob W L (.loop r)
  d : Ob W D (.deferred (some []))
  lst : ∃ v, Ob W gl (box v 43) ∧ W.ownsRow w.heap.size 55 5 v A.length (flat A)
theorem ownsRow_same {W W' : World} {b : Nat} {e : TypeId} {size : Nat} {v : Value} {n : Nat} {xs : List Value} (h : W.ownsRow b e size v n xs) (hk : ∀ k cs t z, b ≤ k → W.heap[k]? = some (.cells cs t z) → W'.heap[k]? = W.heap[k]?) : W'.ownsRow b e size v n xs := by
  refine ⟨h.1, h.2.imp id ?_⟩
  rintro ⟨g, cap, cur, rfl, h1, h2, h3⟩
  exact ⟨g, cap, cur, rfl, h1, (hk g _ _ _ h1 h2).trans h2, h3⟩
theorem LJ.st {w W W' : World} {f : Fp} {m : MS} {gl bm bl L D : Nat} {l1 : Int} {r : Loop} {A : List (Int × Mp)} {c c' : Int} {B : Nat} (h : LJ w W f m gl bm bl L D l1 r A c) (hs : St B f W W') (hm : Mem W' f (m.wc c')) (_hB : w.heap.size ≤ B) (hf : ∀ k, w.heap.size ≤ k → k ∉ f.w)
    (h1 : w.heap.size ≤ gl ∧ w.heap.size ≤ bm ∧ w.heap.size ≤ bl ∧ w.heap.size ≤ L ∧ w.heap.size ≤ D) (h2 : L < B ∧ D < B) : LJ w W' f m gl bm bl L D l1 r A c' := by
  obtain ⟨v, hv, ho⟩ := h.lst
  refine ⟨hm, ⟨hs.os.trans h.but.os, hs.tape.trans h.but.tape, hs.output.trans h.but.output, Nat.le_trans h.but.size hs.size, fun k hk hn => (hs.low k (by omega) hn (by have := h.but.size; omega)).trans (h.but.block k hk hn)⟩, (hs.cel _ _ _ _ (hf _ h1.2.1) h.cm).trans h.cm, (hs.cel _ _ _ _ (hf _ h1.2.2.1) h.cl).trans h.cl,
    (hs.low _ h2.1 (hf _ h1.2.2.2.1) h.l.lt).trans h.l, (hs.low _ h2.2 (hf _ h1.2.2.2.2) h.d.lt).trans h.d, v, (hs.cel _ _ _ _ (hf _ h1.1) hv).trans hv, ownsRow_same ho (fun k cs t z hk hc => hs.cel k cs t z (hf k hk) hc)⟩
theorem Ob.free {W : World} {k : Nat} {v : Value} {t : TypeId} (h : Ob W k (box v t)) : W.frozen? ⟨k, 0, none⟩ = false := frozen_of_row W k 0 _ t h
theorem under60 : Try.prog.underlying 43 = some (.slice 55) := by kernel_rfl
theorem info67 : (Try.prog.info? 55).map (fun i => (i.zero, i.size, i.bytes)) = some (some (.agg #[.int .u32 0, .bool false, .int .i64 0, .bool false, .bool false]), 5, 32) := by kernel_rfl
theorem list_in (n : Nat) (w : World) (f : Fp) (m : MS) (h : Mem w f m) (hU : m.U) (l1 : Int) :
    CallsIn .wide n Try.prog 20 #[.pointer (some ⟨f.gm, 0, none⟩), .int .i64 l1] w fun x w' =>
      ((m.at true l1).isSome = false ∧ x = .returned (.tuple #[.slice none 0 0, .int .i64 5]) ∧ Rd w w' f m) ∨
      ((m.at true l1).isSome = true ∧ ∃ v, x = .returned (.tuple #[v, .int .i64 0]) ∧ w'.ownsRow w.heap.size 55 5 v (m.lst l1 256).length (flat (m.lst l1 256)) ∧ Rd w w' f (m.wc (m.cn1 l1 m.c 256))) := by
  have HH := hid (fun w' (hm : Mem w' f m) => has_any w' f m hm true l1)
  have HR := hid (Rd.start h)
  unfold fr ptr at HH
  refine callsIn_of_wp_marks Try.func20 rfl trivial ?_ rfl
  simp only [Try.ntmps20, List.size_toArray, List.length_cons, List.length_nil, Nat.reduceAdd, Nat.reduceSub, Array.replicate_succ, Array.replicate_zero, List.push_toArray, List.append_toArray, List.nil_append, List.cons_append]
  gi_wp2
  refine ⟨trivial, (fun h => by cases h), CallsIn.mono (callsIn_wide.2 (w_secure_any _ _)) ?_⟩
  rintro x w1 ⟨rfl, hb1⟩
  have HR1 := hid (HR.out.on hb1)
  clear hb1 HR
  unfold fr
  gi_wp2
  refine ⟨trivial, (fun h => by cases h), CallsIn.mono (callsIn_wide.2 (HH.out _ HR1.out.mem)) ?_⟩
  rintro x w2 ⟨rfl, hb2⟩
  have HR2 := hid (HR1.out.on hb2)
  clear hb2 HR1 HH
  cases hat : (m.at true l1).isSome with
  | false =>
    gi_wp2
    exact ⟨_, results_tmp2 rfl _ _ _, .inl ⟨hat, rfl, HR2.out⟩⟩
  | true =>
    have HG : Hid (Ob (w2.alloc (.cells #[.slice none 0 0] 43)) w2.heap.size (box (.slice none 0 0) 43)) := hid (heap_alloc_new _ _)
    have HR3 := hid (HR2.out.on (below_one w2 (.cells #[.slice none 0 0] 43)))
    have hg0 := HR2.out.but.size
    have hgs : (w2.alloc (.cells #[.slice none 0 0] 43)).heap.size = w2.heap.size + 1 := World.size_alloc _ _
    gi_wp2
    refine ⟨trivial, (fun h => by cases h), CallsIn.mono (callsIn_wide.2 (mapped_any _ _ _)) ?_⟩
    rintro x w3 ⟨bm, bl, rfl, hcm, hcl, lm, ll, hb3⟩
    rw [hgs] at lm ll
    have HG3 := hid (HG.out.on hb3)
    have HR4 := hid (HR3.out.on hb3)
    have HCM := hid hcm
    have HCL := hid hcl
    clear hb3 hcm hcl HG HR3 hgs
    gi_wp2
    generalize w2.heap.size = gl at *
    refine range_out rfl rfl (gf := 84) (lb := #[.pointer (some ⟨bm, 0, none⟩), .pointer (some ⟨bl, 0, none⟩)]) rfl trivial (enters_of Try.func84 (by kernel_rfl) rfl) ?_
    intro fn hfn
    generalize hr0 : recOf fn _ _ _ _ _ = r0
    have hW1 : Below w3.heap.size w3 ((w3.alloc (.deferred (some []))).alloc (.loop r0)) := below_on (below_one _ _) (below_one _ _)
    have hD : Ob ((w3.alloc (.deferred (some []))).alloc (.loop r0)) w3.heap.size (.deferred (some [])) := Ob.on (heap_alloc_new w3 _) (below_one _ _)
    have hL : Ob ((w3.alloc (.deferred (some []))).alloc (.loop r0)) (w3.heap.size + 1) (.loop r0) := by
      have := heap_alloc_new (w3.alloc (.deferred (some []))) (.loop r0)
      rw [World.size_alloc] at this
      exact this
    generalize (w3.alloc (.deferred (some []))).alloc (.loop r0) = W1 at *
    have hw3 := HR4.out.but.size
    have hlt := HR4.out.lt
    have hfw : ∀ k, w.heap.size ≤ k → k ∉ f.w := fun k hk hm => by
      have := hlt k (by simp only [Fp.w, Fp.all, List.mem_cons] at hm ⊢; rcases hm with h | h <;> simp [h])
      omega
    have hlo : w.heap.size ≤ gl ∧ w.heap.size ≤ bm ∧ w.heap.size ≤ bl ∧ w.heap.size ≤ w3.heap.size + 1 ∧ w.heap.size ≤ w3.heap.size := ⟨by omega, by omega, by omega, by omega, by omega⟩
    have hhi : w3.heap.size + 1 < W1.heap.size ∧ w3.heap.size < W1.heap.size := ⟨hL.lt, hD.lt⟩
    have hglB : gl < W1.heap.size := (HG3.out.on hW1).lt
    have hLJ0 : LJ w W1 f m gl bm bl (w3.heap.size + 1) w3.heap.size l1 r0 [] m.c := ⟨HR4.out.mem.on hW1, HR4.out.but.on hW1, HCM.out.on hW1, HCL.out.on hW1, hL, hD, _, HG3.out.on hW1, World.ownsRow_nil _ _ _ _⟩
    refine CallsIn.mono (map70_in (n - 1) (w3.heap.size + 1) bm bl f m hU l1 W1 (fun A c W => LJ w W f m gl bm bl (w3.heap.size + 1) w3.heap.size l1 r0 A c) ?hJ ?hSt ?hY m.c hLJ0) ?post
    case hJ => exact fun A c W hj => ⟨hj.mem, hj.cm.cell, hj.cl.cell⟩
    case hSt => exact fun A c c' W W' hj hs hm => hj.st hs hm (by omega) hfw hlo hhi
    case post =>
      rintro e W2 ⟨⟨v, rfl⟩, hj⟩
      refine ⟨⟨v, rfl⟩, hj.l, ?_⟩
      obtain ⟨vl, hv, hown⟩ := hj.lst
      have hvL : gl ≠ w3.heap.size + 1 := hv.ne hj.l (fun h => by cases h)
      have hvD : gl ≠ w3.heap.size := hv.ne hj.d (fun h => by cases h)
      have hr2 : Rd w W2 f (m.wc (m.cn1 l1 m.c 256)) := ⟨hj.mem, hj.but, hlt⟩
      have hr3 := hr2.set (putObj_but W2 (w3.heap.size + 1) (.loop { r0 with state := .exhausted })) (by omega)
      have hv3 : Ob (W2.putObj (w3.heap.size + 1) (.loop { r0 with state := .exhausted })) gl (box vl 43) := (World.putObj_heap_other hvL).trans hv
      have hd3 : Ob (W2.putObj (w3.heap.size + 1) (.loop { r0 with state := .exhausted })) w3.heap.size (.deferred (some [])) := (World.putObj_heap_other (by omega)).trans hj.d
      have ho3 := ownsRow_putObj hown (.loop { r0 with state := .exhausted }) hj.l rfl
      generalize W2.putObj (w3.heap.size + 1) (.loop { r0 with state := .exhausted }) = W3 at *
      have y0 := hv3.cell
      have hr4 := hr3.set (putObj_but W3 w3.heap.size (.deferred none)) (by omega)
      have ho4 := ownsRow_putObj ho3 (.deferred none) hd3 rfl
      gi_wp2
      refine ⟨by simp, .inl ⟨_, _, rfl, run_takeDeferred hd3, ?_⟩⟩
      exact ⟨_, results_tmp2 rfl _ _ _, by first | exact .inr ⟨hat, vl, rfl, ho4, hr4⟩ | exact ⟨vl, rfl, ho4, hr4⟩⟩
    case hY =>
      intro A c W va q hA hj
      refine yield_b (r := r0) hj.l (by rw [← hr0]; rfl) (by rw [← hr0]; rfl) (by rw [← hr0]; rfl) ?_
      rw [← congrArg Loop.assign hr0, ← congrArg Loop.body hr0, ← congrArg Loop.params hr0, ← congrArg Loop.tmps hr0]
      dsimp only [recOf]
      obtain ⟨v, hv, hown⟩ := hj.lst
      have hX := below_one W (.cells #[.bool q.s, .int .i64 q.p, .bool q.wr, .bool q.ex] 49)
      have hc8 : Ob (W.alloc (.cells #[.bool q.s, .int .i64 q.p, .bool q.wr, .bool q.ex] 49)) W.heap.size (.cells #[.bool q.s, .int .i64 q.p, .bool q.wr, .bool q.ex] 49 (0, 0)) := heap_alloc_new _ _
      unfold Mp.v
      gi_wp2
      refine ⟨hj.l.on hX, ?_⟩
      have hvL : gl ≠ w3.heap.size + 1 := hv.ne hj.l (fun h => by cases h)
      have hb8L : W.heap.size ≠ w3.heap.size + 1 := by have := hj.l.lt; omega
      have hown0 := hown.alloc (.cells #[.bool q.s, .int .i64 q.p, .bool q.wr, .bool q.ex] 49)
      have hbY : ButL [w3.heap.size + 1] W ((W.alloc (.cells #[.bool q.s, .int .i64 q.p, .bool q.wr, .bool q.ex] 49)).putObj (w3.heap.size + 1) (.loop (busyOf r0))) := (ButL.of hX).trans (putObj_but _ _ _)
      have hLY := (hj.l.on hX).put (.loop (busyOf r0))
      have hvY : Ob ((W.alloc (.cells #[.bool q.s, .int .i64 q.p, .bool q.wr, .bool q.ex] 49)).putObj (w3.heap.size + 1) (.loop (busyOf r0))) gl (box v 43) := (World.putObj_heap_other hvL).trans (hv.on hX)
      have hoY := ownsRow_putObj hown0 (.loop (busyOf r0)) (hj.l.on hX) rfl
      have hcY : Cel ((W.alloc (.cells #[.bool q.s, .int .i64 q.p, .bool q.wr, .bool q.ex] 49)).putObj (w3.heap.size + 1) (.loop (busyOf r0))) W.heap.size 49 [.bool q.s, .int .i64 q.p, .bool q.wr, .bool q.ex] := (World.putObj_heap_other hb8L).trans hc8
      generalize W.heap.size = b8 at *
      generalize (W.alloc (.cells #[.bool q.s, .int .i64 q.p, .bool q.wr, .bool q.ex] 49)).putObj (w3.heap.size + 1) (.loop (busyOf r0)) = Y at *
      obtain ⟨d0, d1, d2, d3⟩ := cel4 hcY
      have y0 := hvY.cell
      have hvo : some gl ≠ v.ownBlock := fun e => by
        rcases hown.2 with ⟨hn, _⟩ | ⟨g, cap, cur, hn, _, hg, _⟩
        · rw [hn] at e; cases e
        · rw [hn] at e
          cases e
          unfold Ob at hv
          rw [hv] at hg
          cases hg
      obtain ⟨i0, hi, hz0, hz1, hz2⟩ := info_parts info67
      have hnew : ∀ j u, (atC (va, q))[j]? = some u → (Y.alloc (.cells #[.int .u32 va, .bool q.s, .int .i64 q.p, .bool q.wr, .bool q.ex] 55)).cell? ((⟨Y.heap.size, 0, none⟩ : Addr).add j) = some u := (Cel.new Y 55 (atC (va, q))).src
      have hYs : w.heap.size ≤ Y.heap.size := by have := hbY.size; have := hj.but.size; omega
      have hAm : A.length + 1 ≤ maxLen := by unfold maxLen; omega
      have hAb : (A.length + 1) * 32 ≤ 140737488355328 := by omega
      have HNEW := hid hnew
      clear hnew
      gi_wp2_with (first | (gi_at_builtin; refine wpListIn_append_own _ rfl _ _ 43 rfl w.heap.size 55 i0 _ 5 32 under60 hi hz0 hz1 hz2 rfl (by decide) v A.length (flat A) rfl (hoY.alloc _) ⟨Y.heap.size, 0, none⟩ 1 1 (atC (va, q)) rfl rfl HNEW.out (by intro u hu; simp only [atC, List.mem_cons, List.not_mem_nil, or_false] at hu; rcases hu with rfl | rfl | rfl | rfl | rfl <;> rfl) hAm hAb (by simp; omega) ?_; intro v' w5 hown5 hgrow _; obtain ⟨g', cap', rfl⟩ := ownsRow_succ hown5; have hv5 : Ob w5 gl (box v 43) := (hgrow.block gl (hvY.on (below_one _ _)).lt hvo).trans (hvY.on (below_one _ _)); have c5 := hv5.cell; have f5 := hv5.free))
      have hg60 : some gl ≠ some g' := fun e => by
        rcases hown5.2 with ⟨hn, _⟩ | ⟨g, cap, cur, hn, _, hg, _⟩
        · cases hn
        · cases hn
          cases e
          unfold Ob at hv5
          rw [hv5] at hg
          cases hg
      have hLo : some (w3.heap.size + 1) ≠ v.ownBlock := fun e => by
        rcases hown.2 with ⟨hn, _⟩ | ⟨g, cap, cur, hn, _, hg, _⟩
        · rw [hn] at e; cases e
        · rw [hn] at e
          cases e
          have hl := hj.l
          unfold Ob at hl
          rw [hl] at hg
          cases hg
      obtain ⟨G, hG⟩ : ∃ G : List Nat, G = (w3.heap.size + 1) :: gl :: v.ownBlock.toList := ⟨_, rfl⟩
      have hGL : w3.heap.size + 1 ∈ G := by rw [hG]; simp
      have hGg : gl ∈ G := by rw [hG]; simp
      have hGo : ∀ k, some k = v.ownBlock → k ∈ G := fun k e => by rw [hG, ← e]; simp
      have hGm : ∀ k ∈ G, k = w3.heap.size + 1 ∨ k = gl ∨ v.ownBlock = some k := fun k hk => by
        rw [hG] at hk
        simp only [List.mem_cons, Option.mem_toList] at hk
        rcases hk with h | h | h
        · exact .inl h
        · exact .inr (.inl h)
        · exact .inr (.inr (by simpa using h))
      have hb5 : ButL G W w5 := ((hbY.mono (fun k hk => by rw [List.mem_singleton] at hk; rw [hk]; exact hGL)).on (below_one Y _)).trans ⟨hgrow.os, hgrow.tape, hgrow.output, hgrow.size, fun k hk hn => hgrow.block k hk (fun e => hn (hGo k e))⟩
      have hL5 : Ob w5 (w3.heap.size + 1) (.loop (busyOf r0)) := (hgrow.block _ (hLY.on (below_one _ _)).lt hLo).trans (hLY.on (below_one _ _))
      obtain ⟨v6, hv6⟩ : ∃ x, x = Value.slice (some { block := g', off := 0 }) (A.length + 1) cap' := ⟨_, rfl⟩
      have hown6 := hown5
      rw [← hv6] at hown6 ⊢
      have hb6 : ButL G W (w5.setCell ⟨gl, 0, none⟩ v6) := hb5.trans (.setCell _ _ _ _ hGg)
      have hL6 : Ob (w5.setCell ⟨gl, 0, none⟩ v6) (w3.heap.size + 1) (.loop (busyOf r0)) := (heap_setCell_other w5 ⟨gl, 0, none⟩ _ v6 (fun e => hvL e.symm)).trans hL5
      have hg6 : Ob (w5.setCell ⟨gl, 0, none⟩ v6) gl (box v6 43) := by
        have := Cel.setCell (t := 43) (cs := [v]) (g := gl) (w := w5) hv5 0 v6
        exact this
      have hg'L : g' ≠ w3.heap.size + 1 := fun e => by
        rcases hown5.2 with ⟨hn, _⟩ | ⟨g, cap, cur, hn, _, hg, _⟩
        · cases hn
        · cases hn
          subst e
          unfold Ob at hL5
          rw [hL5] at hg
          cases hg
      have hb7 : ButL G W ((w5.setCell ⟨gl, 0, none⟩ v6).putObj (w3.heap.size + 1) (.loop r0)) := hb6.trans ((putObj_but _ _ _).mono (fun k hk => by rw [List.mem_singleton] at hk; rw [hk]; exact hGL))
      have hown7 : ((w5.setCell ⟨gl, 0, none⟩ v6).putObj (w3.heap.size + 1) (.loop r0)).ownsRow w.heap.size 55 5 v6 (A ++ [(va, q)]).length (flat (A ++ [(va, q)])) := by
        rw [flat_snoc, List.length_append, List.length_singleton]
        refine ⟨hown6.1, .inr ?_⟩
        rcases hown5.2 with ⟨hn, _⟩ | ⟨g, cap, cur, hn, h1, hg, h3⟩
        · cases hn
        · cases hn
          exact ⟨g', cap', cur, hv6, h1, ((World.putObj_heap_other hg'L).trans (heap_setCell_other w5 ⟨gl, 0, none⟩ g' v6 (fun e => hg60 (by have e2 : g' = gl := e; rw [e2])))).trans hg, h3⟩
      have hlow : ∀ k ∈ G, w.heap.size ≤ k := fun k hk => by
        rcases hGm k hk with rfl | rfl | e
        · exact hlo.2.2.2.1
        · exact hlo.1
        · exact (hown.lt k e).1
      have hcells : ∀ k u t, t ≠ 43 → t ≠ 55 → Ob W k (box u t) → k ∉ G := fun k u t h1 h2 ho hk => by
        unfold Ob at ho
        rcases hGm k hk with rfl | rfl | e
        · have hl := hj.l; unfold Ob at hl; rw [hl] at ho; cases ho
        · unfold Ob at hv; rw [hv] at ho; cases ho; exact h1 rfl
        · rcases hown.2 with ⟨hn, _⟩ | ⟨g, cap, cur, hn, _, hg, _⟩
          · rw [hn] at e; cases e
          · rw [hn] at e; cases e; rw [hg] at ho; cases ho; exact h2 rfl
      have hdG : w3.heap.size ∉ G := fun hk => by
        have hd := hj.d
        unfold Ob at hd
        rcases hGm _ hk with e | e | e
        · omega
        · rw [← e] at hv; unfold Ob at hv; rw [hd] at hv; cases hv
        · rcases hown.2 with ⟨hn, _⟩ | ⟨g, cap, cur, hn, _, hg, _⟩
          · rw [hn] at e; cases e
          · rw [hn] at e
            have e2 : g = w3.heap.size := by simpa [Value.ownBlock] using e
            rw [e2, hd] at hg
            cases hg
      refine ⟨hL6, ⟨hj.mem.frame hb7 (fun k hk hm => by have := hlow k hm; have := hlt k hk; omega), ⟨hb7.os.trans hj.but.os, hb7.tape.trans hj.but.tape, hb7.output.trans hj.but.output, Nat.le_trans hj.but.size hb7.size, fun k hk hn => (hb7.block k (by have := hj.but.size; omega) (fun hm => by have := hlow k hm; omega)).trans (hj.but.block k hk hn)⟩,
        (hb7.block _ hj.cm.lt (hcells _ _ _ (by decide) (by decide) hj.cm)).trans hj.cm, (hb7.block _ hj.cl.lt (hcells _ _ _ (by decide) (by decide) hj.cl)).trans hj.cl, hL6.put (.loop r0), (hb7.block _ hj.d.lt hdG).trans hj.d, v6, (World.putObj_heap_other hvL).trans hg6, hown7⟩, hb7.size, fun k o hk ho hn => (hb7.block k ho.lt (fun hm => ?_)).trans ho⟩
      rcases hGm k hm with rfl | rfl | e
      · omega
      · omega
      · rcases hown.2 with ⟨hnn, _⟩ | ⟨g, cap, cur, hnn, _, hg, _⟩
        · rw [hnn] at e; cases e
        · rw [hnn] at e
          cases e
          unfold Ob at ho
          rw [hg] at ho
          cases ho
          cases hn
/-- List, at every memory and table. -/
theorem list_any (w : World) (f : Fp) (m : MS) (h : Mem w f m) (hU : m.U) (l1 : Int) :
    Calls Try.prog 20 #[ptr f.gm, .int .i64 l1] w fun x w' =>
      ((m.at true l1).isSome = false ∧ x = .returned (.tuple #[.slice none 0 0, .int .i64 5]) ∧ Rd w w' f m) ∨
      ((m.at true l1).isSome = true ∧ ∃ v, x = .returned (.tuple #[v, .int .i64 0]) ∧ w'.ownsRow w.heap.size 55 5 v (m.lst l1 256).length (flat (m.lst l1 256)) ∧ Rd w w' f (m.wc (m.cn1 l1 m.c 256))) :=
  callsIn_wide.1 (list_in 0 w f m h hU l1)
end Go.Proofs.Ytgbpbfnpeeciaaa
