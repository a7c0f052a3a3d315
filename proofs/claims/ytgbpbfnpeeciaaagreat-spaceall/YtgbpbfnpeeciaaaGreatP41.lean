import Derived.Test.YtgbpbfnpeeciaaaGreatP40
import Derived.Test.YtgbpbfnpeeciaaaGreatP01
import Derived.Laws.OwnMore
namespace Go.Proofs.YtgbpbfnpeeciaaaGreat
open Go.RowKit Go.Shelf
set_option maxHeartbeats 8000000
set_option maxRecDepth 100000
attribute [local go_sem] Oper.semAt_some
theorem flat_app (A B : List (Int × Mp)) : flat (A ++ B) = flat A ++ flat B := List.flatMap_append ..
theorem flat_length (A : List (Int × Mp)) : (flat A).length = A.length * 5 := by
  induction A with
  | nil => rfl
  | cons x A ih => rw [show flat (x :: A) = atC x ++ flat A from rfl, List.length_append, ih, List.length_cons]; simp [atC]; omega
theorem flat_one (A : List (Int × Mp)) : ∀ u ∈ flat A, u.oneCell' = true := by
  intro u hu
  simp only [flat, List.mem_flatMap] at hu
  obtain ⟨y, _, hy⟩ := hu
  simp only [atC, List.mem_cons, List.not_mem_nil, or_false] at hy
  rcases hy with rfl | rfl | rfl | rfl | rfl <;> rfl
theorem own_frm {W : World} {b : Nat} {e : TypeId} {size n : Nat} {v : Value} {xs : List Value} (h : W.ownsRow b e size v n xs) : ∃ ao c, v = .slice ao n c := by
  rcases h.2 with ⟨hv, hn⟩ | ⟨g, cap, cur, hv, _⟩
  · exact ⟨none, 0, by rw [hv, hn]⟩
  · exact ⟨_, _, hv⟩
theorem wp_append_rows {w : World} {o : Oper} {a : Act} {K : Act → World → Prop} {Q : Exit → Act → World → Prop} (s x : Operand)
    (ho : o.op = .call { callee := .builtin .append, args := #[s, x], argTypes := #[95, 95] }) (B B2 : Nat) (v v2 : Value) (L M : List (Int × Mp)) (hs : a.eval s = v) (H : w.ownsRow B 177 5 v L.length (flat L)) (hB : B ≤ w.heap.size) (hx : a.eval x = v2) (H2 : w.ownsRow B2 177 5 v2 M.length (flat M)) (hlen : L.length + M.length ≤ 1000000)
    (h : ∀ v' w', w'.ownsRow B 177 5 v' (L ++ M).length (flat (L ++ M)) → w.grownBy w' v.ownBlock → K (a.put o.dst v') w') : o.wp Tryz.prog a w K Q := by
  obtain ⟨i, hi, hz, hsize, hby⟩ := info_parts info67
  rcases H2.2 with ⟨hv2, hn⟩ | ⟨g, cap, cur, hv2, _, hg, hnc, hcm, hsz, htk⟩
  · obtain rfl : M = [] := List.length_eq_zero_iff.1 hn
    have hr := run_append_owned_none (P := Tryz.prog) (w := w) B 95 o.type 177 i 5 under60 hi v L.length _ H
    unfold Oper.wp execOp
    simp only [ho, resolve, invoke, builtin, Sem.run_bind, Sem.run_pure, Result.andThen_ok, List.map_toArray, List.map_cons, List.map_nil, hs, hx, hv2, hr]
    exact h _ _ (by rw [List.append_nil]; exact H) ⟨rfl, rfl, rfl, Nat.le_refl _, fun _ _ _ => rfl⟩
  · obtain ⟨v', w', hr, h1, h2, _⟩ := run_append_own (P := Tryz.prog) w B 95 o.type 177 i (.agg #[.int .u32 0, .bool false, .int .i64 0, .bool false, .bool false]) 5 32 under60 hi hz hsize hby rfl (by decide) v L.length _ H ⟨g, 0, none⟩ M.length cap (flat M) (flat_length M) (fun j u hu => by
      have hj : j < M.length * 5 := by rw [← flat_length]; exact (List.getElem?_eq_some_iff.1 hu).1
      rw [← htk, List.getElem?_take, if_pos hj] at hu
      rw [show (⟨g, 0, none⟩ : Addr).add j = ⟨g, j, none⟩ by simp [Addr.add]; omega, cell_of_row w g j _ 177 (0, 0) hg]
      simpa using hu) (flat_one M) (by unfold maxLen; omega) (by omega) hB
    have hH : w'.ownsRow B 177 5 v' (L ++ M).length (flat (L ++ M)) := by
      rw [List.length_append, flat_app]
      exact h1
    unfold Oper.wp execOp
    simp only [ho, resolve, invoke, builtin, Sem.run_bind, Sem.run_pure, Result.andThen_ok, List.map_toArray, List.map_cons, List.map_nil, hs, hx, hv2, hr]
    exact h _ _ hH h2
theorem QJ.lstm {w W W' : World} {p : Dp} {d : DS} {os : List (Nat × Obj)} {gl l : Nat} {r : Loop} {A : List (Int × Mp)} {v : Value} (h : QJ w W p d os gl l r A) (hb : ButL p.f.w W W') (hv : Ob W gl (box v 95)) (ho : W.ownsRow w.heap.size 177 5 v A.length (flat A)) : Ob W' gl (box v 95) ∧ W'.ownsRow w.heap.size 177 5 v A.length (flat A) :=
  ⟨hv.trans' hb (h.high h.gl0), ownsRow_same ho (fun k _ _ _ hk hc => hb.block k (Array.getElem?_eq_some_iff.1 hc).1 (h.high hk))⟩
def DS.lsn (d : DS) (s : Int) : Nat → List (Int × Mp)
  | 0 => []
  | k + 1 => d.lsn s k ++ (if d.isS s (d.m.word true (d.fst s) (k : Int)) = true then d.m.und (k : Int) (pf (d.m.word true (d.fst s) (k : Int))) 1024 else [])
theorem DS.lsn_len (d : DS) (s : Int) (k : Nat) : (d.lsn s k).length ≤ k * 1024 := by
  induction k with
  | zero => simp [DS.lsn]
  | succ k ih =>
    rw [DS.lsn, List.length_append]
    have := d.m.und_len (k : Int) (pf (d.m.word true (d.fst s) (k : Int))) 1024
    split
    · omega
    · simp; omega
theorem MS.read_wc (m : MS) (s : Bool) (p o : Int) : m.read s p o = m.wc (m.read s p o).c := m.wc_read m.c s p o
theorem DS.rd_wc (d : DS) (a b : Int) : d.rd a b = d.wc (d.m.read true a b).c := by
  unfold DS.rd DS.wc
  rw [← MS.read_wc]
theorem DS.folD_wc (d : DS) (s : Int) : ∃ c, d.folD s = d.wc c := by
  unfold DS.folD
  split
  · exact ⟨_, d.rd_wc s 0⟩
  · exact ⟨d.m.c, rfl⟩
theorem list2_in (n : Nat) (w : World) (p : Dp) (d : DS) (h : DB w p d) (hU : d.m.U) (s : Int) :
    CallsIn .wide n Tryz.prog 42 #[.pointer (some ⟨p.g, 0, none⟩), .int .i64 s] w fun x w' =>
      (d.folE s ≠ 0 ∧ x = .returned (.tuple #[.slice none 0 0, .int .i64 (d.folE s)]) ∧ DB w' p (d.folD s) ∧ ButL p.f.w w w') ∨
      (d.folE s = 0 ∧ ∃ v c, x = .returned (.tuple #[v, .int .i64 0]) ∧ w'.ownsRow w.heap.size 177 5 v (d.lsn s 256).length (flat (d.lsn s 256)) ∧ DB w' p (d.wc c) ∧ ButL p.f.w w w') := by
  have HFo := hid (follow_any w p d h hU s)
  have D0 := hid (DG.startw h)
  unfold DS.folV tbV ptr zV3 at HFo
  refine callsIn_of_wp_marks Tryz.func42 rfl trivial ?_ rfl
  simp only [Tryz.ntmps42, List.size_toArray, List.length_cons, List.length_nil, Nat.reduceAdd, Nat.reduceSub, Array.replicate_succ, Array.replicate_zero, List.push_toArray, List.append_toArray, List.nil_append, List.cons_append]
  by_cases hE : d.folE s = 0
  · rw [if_pos hE, hE] at HFo
    gi_wp2
    refine ⟨trivial, (fun h => by cases h), CallsIn.mono (callsIn_wide.2 HFo.out) ?_⟩
    rintro x w1 ⟨rfl, hd1, hb1⟩
    clear HFo
    have D1 := hid ((D0.out.step hd1 hb1 (fun _ hk => hk)).new 139 [.pointer (some ⟨p.g, 0, none⟩), .int .i64 s, .int .i64 (d.fst s)])
    have D2 := hid (D1.out.new 95 [.slice none 0 0])
    clear hd1 hb1 D0
    have hF : d.fst s = d.fst s := rfl
    have y0 := (D2.out.get 1 rfl).cell 0
    have y1 := (D2.out.get 1 rfl).cell 1
    have y2 := (D2.out.get 1 rfl).cell 2
    simp only [List.getElem?_cons_zero, List.getElem?_cons_succ] at y0 y1 y2
    simp only [World.size_alloc] at D2
    have hls : Hid (∀ k, d.lsn s (k + 1) = d.lsn s k ++ (if d.isS s (d.m.word true (d.fst s) (k : Int)) = true then d.m.und (k : Int) (pf (d.m.word true (d.fst s) (k : Int))) 1024 else [])) := hid (fun _ => rfl)
    generalize d.fst s = F at *
    gi_wp2
    have HP := hid (places_any ((w1.alloc (.cells #[.pointer (some ⟨p.g, 0, none⟩), .int .i64 s, .int .i64 F] 139)).alloc (.cells #[.slice none 0 0] 95)) p s F F 256)
    unfold tbV ptr at HP
    refine ⟨trivial, (fun h => by cases h), CallsIn.mono (callsIn_wide.2 HP.out) ?_⟩
    rintro x w3 ⟨b3, b4, b5, rfl, hB, l3, l4, l5⟩
    clear HP y0 y1 y2
    unfold tbC ptr at hB
    simp only [World.size_alloc] at l3 l4 l5
    have HB1 := hid (D2.out.on hB.below)
    have HB2 := hid hB
    have hs1 : w.heap.size ≤ w1.heap.size := HB1.out.off (w1.heap.size, 139, [.pointer (some ⟨p.g, 0, none⟩), .int .i64 s, .int .i64 F]) (by simp)
    clear hB D1 D2
    gi_wp2
    refine range_out rfl rfl (gf := 118) (lb := #[.pointer (some ⟨b5, 0, none⟩), .pointer (some ⟨b3, 0, none⟩), .pointer (some ⟨b4, 0, none⟩)]) rfl trivial (enters_of Tryz.func118 (by kernel_rfl) rfl) ?_
    intro fn hfn
    generalize hr0 : recOf fn _ _ _ _ _ = r0
    have hW1 : Below w3.heap.size w3 ((w3.alloc (.deferred (some []))).alloc (.loop r0)) := below_on (below_one _ _) (below_one _ _)
    have hD : Ob ((w3.alloc (.deferred (some []))).alloc (.loop r0)) w3.heap.size (.deferred (some [])) := Ob.on (heap_alloc_new w3 _) (below_one _ _)
    have hL : Ob ((w3.alloc (.deferred (some []))).alloc (.loop r0)) (w3.heap.size + 1) (.loop r0) := by
      have := heap_alloc_new (w3.alloc (.deferred (some []))) (.loop r0)
      rw [World.size_alloc] at this
      exact this
    generalize (w3.alloc (.deferred (some []))).alloc (.loop r0) = W1 at *
    have hsz := HB1.out.but.size
    obtain ⟨os, hos⟩ : ∃ os : List (Nat × Obj), os = [(w1.heap.size, .cells #[.pointer (some ⟨p.g, 0, none⟩), .int .i64 s, .int .i64 F] 139 (0, 0)), (b5, .cells #[.int .i64 256] 3 (0, 0)), (b3, .cells #[.pointer (some ⟨p.g, 0, none⟩), .int .i64 s, .int .i64 F] 139 (0, 0)), (b4, .cells #[.int .i64 F] 3 (0, 0)), (w3.heap.size, .deferred (some []))] := ⟨_, rfl⟩
    obtain ⟨c0, hc0⟩ := d.folD_wc s
    have hJ0 : QJ w W1 p (d.wc c0) os (w1.heap.size + 1) (w3.heap.size + 1) r0 (d.lsn s 0) := by
      refine ⟨by rw [← hc0]; exact HB1.out.db.on hW1, HB1.out.but.on hW1, h.lt, fun q hq => ?_, by omega, by omega, hL, _, Ob.on (HB1.out.get 0 rfl) hW1, World.ownsRow_nil _ _ _ _⟩
      rw [hos] at hq
      simp only [List.mem_cons, List.not_mem_nil, or_false] at hq
      rcases hq with rfl | rfl | rfl | rfl | rfl
      · exact ⟨Ob.on (HB1.out.get 1 rfl) hW1, hs1, rfl⟩
      · exact ⟨Ob.on (HB2.out.get 0 rfl) hW1, by simp only; omega, rfl⟩
      · exact ⟨Ob.on (HB2.out.get 2 rfl) hW1, by simp only; omega, rfl⟩
      · exact ⟨Ob.on (HB2.out.get 1 rfl) hW1, by simp only; omega, rfl⟩
      · exact ⟨hD, hsz, rfl⟩
    have ho0 : os[0]? = some (w1.heap.size, .cells #[.pointer (some ⟨p.g, 0, none⟩), .int .i64 s, .int .i64 F] 139 (0, 0)) := by rw [hos]; rfl
    have ho2 : os[1]? = some (b5, .cells #[.int .i64 256] 3 (0, 0)) := by rw [hos]; rfl
    have ho3 : os[2]? = some (b3, .cells #[.pointer (some ⟨p.g, 0, none⟩), .int .i64 s, .int .i64 F] 139 (0, 0)) := by rw [hos]; rfl
    have ho4 : os[3]? = some (b4, .cells #[.int .i64 F] 3 (0, 0)) := by rw [hos]; rfl
    have ho5 : os[4]? = some (w3.heap.size, .deferred (some [])) := by rw [hos]; rfl
    generalize w3.heap.size = D at *
    clear hos HB1 HB2 hsz hD hL hW1 l3 l4 l5 hs1
    generalize w1.heap.size + 1 = gl at *
    generalize w1.heap.size = g6 at *
    generalize D + 1 = l at *
    refine CallsIn.mono (plc_in (n - 1) l b5 b3 b4 p s F F 256 (by decide) (fun k W => ∃ c, QJ w W p (d.wc c) os gl l r0 (d.lsn s k)) ?hJ ?hS W1 ⟨_, hJ0⟩) ?post
    case hJ =>
      rintro k W ⟨c, hj⟩
      exact ⟨⟨_, hj.db⟩, (hj.cel (cs := [.int .i64 256]) 1 ho2).cell 0, hj.cel (cs := [.pointer (some ⟨p.g, 0, none⟩), .int .i64 s, .int .i64 F]) 2 ho3, (hj.cel (cs := [.int .i64 F]) 3 ho4).cell 0⟩
    case post =>
      rintro e W2 ⟨⟨v, rfl⟩, c, hj⟩
      refine ⟨⟨v, rfl⟩, hj.loop, ?_⟩
      have hj3 := hj.putL { r0 with state := .exhausted }
      obtain ⟨vl, hv, hown⟩ := hj3.lst
      have hd3 := hj3.ob 4 ho5
      obtain ⟨f1, f2, f3⟩ := hj3.fin 4 ho5 (.deferred none)
      have ho9 := f3 vl hv hown
      generalize W2.putObj l (.loop { r0 with state := .exhausted }) = W3 at *
      have y0 := hv.cell
      gi_wp2
      refine ⟨by simp, .inl ⟨_, _, rfl, run_takeDeferred hd3, ?_⟩⟩
      exact ⟨_, results_tmp2 rfl _ _ _, by first | exact .inr ⟨hE, vl, c, rfl, ho9, f1, f2⟩ | exact ⟨vl, rfl, ho9, ⟨c, f1⟩, f2⟩⟩
    case hS =>
      rintro k W2 W' hk ⟨c, hj0⟩ hbe
      have HLs := hid (hls.out k)
      generalize d.lsn s (k + 1) = A' at HLs ⊢
      have hj := hj0.on hbe
      clear hj0 hbe
      refine yield_b (r := r0) hj.loop (by rw [← hr0]; rfl) (by rw [← hr0]; rfl) (by rw [← hr0]; rfl) ?_
      rw [← congrArg Loop.assign hr0, ← congrArg Loop.body hr0, ← congrArg Loop.params hr0, ← congrArg Loop.tmps hr0]
      dsimp only [recOf]
      unfold plV ptr
      have hj2 := hj.new 147 [.pointer (some ⟨p.f.gm, 0, none⟩), .int .i64 F, .int .i64 (k : Int)] (by decide)
      gi_wp2
      refine ⟨hj2.loop, ?_⟩
      have hJ1 := hj2.putL (busyOf r0)
      have y0 := (hJ1.cel (cs := [.pointer (some ⟨p.g, 0, none⟩), .int .i64 s, .int .i64 F]) 1 ho0).cell 0
      have y1 := (hJ1.cel (cs := [.pointer (some ⟨p.g, 0, none⟩), .int .i64 s, .int .i64 F]) 1 ho0).cell 1
      have y2 := (hJ1.cel (cs := [.pointer (some ⟨p.g, 0, none⟩), .int .i64 s, .int .i64 F]) 1 ho0).cell 2
      have z0 := (hJ1.cel (cs := [.pointer (some ⟨p.f.gm, 0, none⟩), .int .i64 F, .int .i64 (k : Int)]) 0 rfl).cell 0
      have z1 := (hJ1.cel (cs := [.pointer (some ⟨p.f.gm, 0, none⟩), .int .i64 F, .int .i64 (k : Int)]) 0 rfl).cell 1
      have z2 := (hJ1.cel (cs := [.pointer (some ⟨p.f.gm, 0, none⟩), .int .i64 F, .int .i64 (k : Int)]) 0 rfl).cell 2
      have J1 := hid hJ1
      clear hj hj2 hJ1
      simp only [List.getElem?_cons_zero, List.getElem?_cons_succ] at y0 y1 y2 z0 z1 z2
      generalize (W'.alloc _).putObj l _ = Y at *
      generalize W'.heap.size = g10 at *
      have HT := hid (second2_any Y p (d.wc c) J1.out.db hU s F F (k : Int))
      rw [show (d.wc c).m.word true F (k : Int) = d.m.word true F (k : Int) from rfl, DS.wc_rd, show ∀ x, (d.wc c).isS s x = d.isS s x from fun _ => rfl] at HT
      have HUn := hid (fun w (c : Int) (hw : DB w p (d.wc c)) => callsIn_wide.1 (under_in 0 w p (d.wc c) hw hU s F (k : Int) (pf (d.m.word true F (k : Int)))))
      simp only [show ∀ (c : Int) a b j, (d.wc c).m.und a b j = d.m.und a b j from fun c a b j => by induction j with | zero => rfl | succ j ih => simp only [MS.und, ih]; rfl, show ∀ c c', (d.wc c).wc c' = d.wc c' from fun _ _ => rfl] at HUn
      have hul := d.m.und_len (k : Int) (pf (d.m.word true F (k : Int))) 1024
      have hll := d.lsn_len s k
      generalize d.isS s (d.m.word true F (k : Int)) = T at *
      generalize pf (d.m.word true F (k : Int)) = q at *
      generalize d.lsn s k = A at *
      generalize d.m.und (k : Int) q 1024 = B at *
      generalize ((d.m.wc c).read true F (k : Int)).c = c2 at *
      simp only [rdF, plV, ptr, tbV] at HT
      gi_wp2
      refine ⟨trivial, (fun h => by cases h), CallsIn.mono (callsIn_wide.2 HT.out) ?_⟩
      rintro x w6 ⟨rfl, hd6, hb6⟩
      have J2 := hid (J1.out.mem hd6 hb6)
      clear J1 hd6 hb6 HT y0 y1 y2 z0 z1 z2
      cases T with
      | false =>
        gi_wp2
        exact ⟨J2.out.loop, c2, by rw [HLs.out]; simpa using J2.out.tl.putL r0⟩
      | true =>
        gi_wp2
        refine region_round (S := fun w0 => Cel w0 g6 139 [.pointer (some ⟨p.g, 0, none⟩), .int .i64 s, .int .i64 F]) (by kernel_rfl) (by rfl) (fun a w h => by cases h.1) (J2.out.cel (cs := [.pointer (some ⟨p.g, 0, none⟩), .int .i64 s, .int .i64 F]) 1 ho0) (fun hHeld => ?_)
        have J3 := hid (J2.out.on (Below.refl _ _).drew)
        clear J2
        generalize World.drew _ = y1 at *
        obtain ⟨v, hv, hown⟩ := J3.out.lst
        obtain ⟨ao8, cc8, rfl⟩ := own_frm hown
        have y3 := hv.cell
        have HV := hid (And.intro hv hown)
        clear hv hown
        refine tk 1 ⟨some 37, .load 139 (.tmp 6), 139, "space.go:81", #[], none⟩ (.agg #[.pointer (some ⟨p.g, 0, none⟩), .int .i64 s, .int .i64 F]) ?_ (hy := yieldsIf_load_mid (by rfl) _ _ rfl _ _ rfl _ _ (fun w hSw => hSw.range) under90 rfl (by rw [size90]; rfl))
        simp only [Act.put, List.setIfInBounds_toArray, List.set_cons_zero, List.set_cons_succ]
        refine tk 2 ⟨some 38, .move (.tmp 9), 3, "space.go:81", #[], none⟩ (.int .i64 (k : Int)) ?_
        simp only [Act.put, List.setIfInBounds_toArray, List.set_cons_zero, List.set_cons_succ]
        refine tk 3 ⟨some 39, .move (.tmp 11), 3, "space.go:81", #[], none⟩ (.int .i64 q) ?_
        simp only [Act.put, List.setIfInBounds_toArray, List.set_cons_zero, List.set_cons_succ]
        refine wpAnyH_ready (rs := [0, 4]) (by kernel_rfl) (by simp) (AllReadyH.cons (o := ⟨some 36, .load 95 (.tmp 8), 95, "space.go:81", #[], none⟩) rfl (fun KQ hK => ?_) (AllReadyH.cons (o := ⟨some 40, .call { callee := .value (.func 97), args := #[.tmp 37, .tmp 38, .tmp 39], argTypes := #[139, 3, 3] }, 95, "space.go:81", #[⟨1, .data⟩, ⟨2, .data⟩, ⟨3, .data⟩], none⟩) rfl (fun KQ hK => ?_) AllReadyH.nil))
        · go_simp
          refine hK.out _ _ (J3.out.cel (cs := [.pointer (some ⟨p.g, 0, none⟩), .int .i64 s, .int .i64 F]) 1 ho0) (fun hHeld => ?_)
          clear hK KQ
          try simp only [Act.put, List.setIfInBounds_toArray, List.set_cons_zero, List.set_cons_succ]
          refine wpAnyH_ready (rs := [4]) (by kernel_rfl) (by simp) (AllReadyH.cons (o := ⟨some 40, .call { callee := .value (.func 97), args := #[.tmp 37, .tmp 38, .tmp 39], argTypes := #[139, 3, 3] }, 95, "space.go:81", #[⟨1, .data⟩, ⟨2, .data⟩, ⟨3, .data⟩], none⟩) rfl (fun KQ hK => ?_) AllReadyH.nil)
          go_simp
          refine (HUn.out _ c2 J3.out.db).mono ?_
          rintro e w8 ⟨v2, c3, rfl, hown2, hd, hb⟩
          have J4 := hid (J3.out.mem hd hb)
          have HV4 := hid (J3.out.lstm hb HV.out.1 HV.out.2)
          have y8 := HV4.out.1.cell
          obtain ⟨ao2, cc2, rfl⟩ := own_frm hown2
          have HO2 := hid hown2
          clear hb hd hown2
          go_wp2_with fail
          refine hK.out _ _ (J4.out.cel (cs := [.pointer (some ⟨p.g, 0, none⟩), .int .i64 s, .int .i64 F]) 1 ho0) (fun hHeld => ?_)
          clear hK KQ
          try simp only [Act.put, List.setIfInBounds_toArray, List.set_cons_zero, List.set_cons_succ]
          refine wpAnyH_ready (rs := [5]) (by kernel_rfl) (by simp) (AllReadyH.cons (o := ⟨some 41, .call { callee := .builtin .append, args := #[.tmp 36, .tmp 40], argTypes := #[95, 95] }, 95, "space.go:81", #[⟨0, .data⟩, ⟨4, .data⟩, ⟨4, .chain⟩], none⟩) rfl (fun KQ hK => ?_) AllReadyH.nil)
          rw [if_pos (by rfl)]
          refine wp_append_rows _ _ rfl w.heap.size _ (.slice ao8 A.length cc8) (.slice ao2 B.length cc2) A B rfl HV4.out.2 J4.out.but.size rfl HO2.out (by omega) ?_
          intro v' w9 hown5 hgrow
          obtain ⟨ao9, cc9, rfl⟩ := own_frm hown5
          have hgo := J4.out.ne_own HV4.out.2 HV4.out.1 (by intro cs z e; simp [box] at e)
          have hv9 : Ob w9 gl (box (.slice ao8 A.length cc8) 95) := (hgrow.block gl HV4.out.1.lt hgo).trans HV4.out.1
          have y9 := hv9.cell
          have f9 := hv9.free
          have hg69 := (hgrow.block g6 (J4.out.cel (cs := [.pointer (some ⟨p.g, 0, none⟩), .int .i64 s, .int .i64 F]) 1 ho0).lt (J4.out.ne_own HV4.out.2 (J4.out.ob 1 ho0) (by intro cs z e; cases e))).trans (J4.out.cel (cs := [.pointer (some ⟨p.g, 0, none⟩), .int .i64 s, .int .i64 F]) 1 ho0)
          have hJ9 := J4.out.app HV4.out.1 HV4.out.2 hgrow hown5
          simp only [List.length_append] at hJ9
          have J9 := hid hJ9
          clear hJ9
          have HG6 : Hid (Cel w9 g6 139 [.pointer (some ⟨p.g, 0, none⟩), .int .i64 s, .int .i64 F]) := hid hg69
          clear hg69 hgo hv9 hgrow hown5
          refine hK.out _ _ HG6.out (fun hHeld => ?_)
          clear hK KQ
          try simp only [Act.put, List.setIfInBounds_toArray, List.set_cons_zero, List.set_cons_succ]
          refine wpAnyH_ready (rs := [6]) (by kernel_rfl) (by simp) (AllReadyH.cons (o := ⟨none, .store 95 (.tmp 8) (.tmp 41), 0, "space.go:81", #[⟨5, .data⟩, ⟨5, .chain⟩, ⟨0, .phase⟩, ⟨1, .phase⟩, ⟨2, .phase⟩, ⟨3, .phase⟩, ⟨4, .phase⟩, ⟨5, .phase⟩], none⟩) rfl (fun KQ hK => ?_) AllReadyH.nil)
          go_simp
          refine hK.out _ _ (J9.out.cel (cs := [.pointer (some ⟨p.g, 0, none⟩), .int .i64 s, .int .i64 F]) 1 ho0) (fun hHeld => ?_)
          clear hK KQ
          try simp only [Act.put]
          refine wpAnyH_done (by kernel_rfl) ?_ _
          generalize w9.setCell _ _ = wf at *
          gi_wp2
          exact ⟨J9.out.loop, c3, by rw [HLs.out]; simpa using J9.out.tl.putL r0⟩
        · go_simp
          refine (HUn.out _ c2 J3.out.db).mono ?_
          rintro e w8 ⟨v2, c3, rfl, hown2, hd, hb⟩
          have J4 := hid (J3.out.mem hd hb)
          have HV4 := hid (J3.out.lstm hb HV.out.1 HV.out.2)
          have y8 := HV4.out.1.cell
          obtain ⟨ao2, cc2, rfl⟩ := own_frm hown2
          have HO2 := hid hown2
          clear hb hd hown2
          go_wp2_with fail
          refine hK.out _ _ (J4.out.cel (cs := [.pointer (some ⟨p.g, 0, none⟩), .int .i64 s, .int .i64 F]) 1 ho0) (fun hHeld => ?_)
          clear hK KQ
          try simp only [Act.put, List.setIfInBounds_toArray, List.set_cons_zero, List.set_cons_succ]
          refine wpAnyH_ready (rs := [0]) (by kernel_rfl) (by simp) (AllReadyH.cons (o := ⟨some 36, .load 95 (.tmp 8), 95, "space.go:81", #[], none⟩) rfl (fun KQ hK => ?_) AllReadyH.nil)
          go_simp
          refine hK.out _ _ (J4.out.cel (cs := [.pointer (some ⟨p.g, 0, none⟩), .int .i64 s, .int .i64 F]) 1 ho0) (fun hHeld => ?_)
          clear hK KQ
          try simp only [Act.put, List.setIfInBounds_toArray, List.set_cons_zero, List.set_cons_succ]
          refine wpAnyH_ready (rs := [5]) (by kernel_rfl) (by simp) (AllReadyH.cons (o := ⟨some 41, .call { callee := .builtin .append, args := #[.tmp 36, .tmp 40], argTypes := #[95, 95] }, 95, "space.go:81", #[⟨0, .data⟩, ⟨4, .data⟩, ⟨4, .chain⟩], none⟩) rfl (fun KQ hK => ?_) AllReadyH.nil)
          rw [if_pos (by rfl)]
          refine wp_append_rows _ _ rfl w.heap.size _ (.slice ao8 A.length cc8) (.slice ao2 B.length cc2) A B rfl HV4.out.2 J4.out.but.size rfl HO2.out (by omega) ?_
          intro v' w9 hown5 hgrow
          obtain ⟨ao9, cc9, rfl⟩ := own_frm hown5
          have hgo := J4.out.ne_own HV4.out.2 HV4.out.1 (by intro cs z e; simp [box] at e)
          have hv9 : Ob w9 gl (box (.slice ao8 A.length cc8) 95) := (hgrow.block gl HV4.out.1.lt hgo).trans HV4.out.1
          have y9 := hv9.cell
          have f9 := hv9.free
          have hg69 := (hgrow.block g6 (J4.out.cel (cs := [.pointer (some ⟨p.g, 0, none⟩), .int .i64 s, .int .i64 F]) 1 ho0).lt (J4.out.ne_own HV4.out.2 (J4.out.ob 1 ho0) (by intro cs z e; cases e))).trans (J4.out.cel (cs := [.pointer (some ⟨p.g, 0, none⟩), .int .i64 s, .int .i64 F]) 1 ho0)
          have hJ9 := J4.out.app HV4.out.1 HV4.out.2 hgrow hown5
          simp only [List.length_append] at hJ9
          have J9 := hid hJ9
          clear hJ9
          have HG6 : Hid (Cel w9 g6 139 [.pointer (some ⟨p.g, 0, none⟩), .int .i64 s, .int .i64 F]) := hid hg69
          clear hg69 hgo hv9 hgrow hown5
          refine hK.out _ _ HG6.out (fun hHeld => ?_)
          clear hK KQ
          try simp only [Act.put, List.setIfInBounds_toArray, List.set_cons_zero, List.set_cons_succ]
          refine wpAnyH_ready (rs := [6]) (by kernel_rfl) (by simp) (AllReadyH.cons (o := ⟨none, .store 95 (.tmp 8) (.tmp 41), 0, "space.go:81", #[⟨5, .data⟩, ⟨5, .chain⟩, ⟨0, .phase⟩, ⟨1, .phase⟩, ⟨2, .phase⟩, ⟨3, .phase⟩, ⟨4, .phase⟩, ⟨5, .phase⟩], none⟩) rfl (fun KQ hK => ?_) AllReadyH.nil)
          go_simp
          refine hK.out _ _ (J9.out.cel (cs := [.pointer (some ⟨p.g, 0, none⟩), .int .i64 s, .int .i64 F]) 1 ho0) (fun hHeld => ?_)
          clear hK KQ
          try simp only [Act.put]
          refine wpAnyH_done (by kernel_rfl) ?_ _
          generalize w9.setCell _ _ = wf at *
          gi_wp2
          exact ⟨J9.out.loop, c3, by rw [HLs.out]; simpa using J9.out.tl.putL r0⟩
  · rw [if_neg hE] at HFo
    generalize hEv : d.folE s = E at *
    gi_wp2
    refine ⟨trivial, (fun h => by cases h), CallsIn.mono (callsIn_wide.2 HFo.out) ?_⟩
    rintro x w1 ⟨rfl, hd1, hb1⟩
    have D1 := hid ((D0.out.step hd1 hb1 (fun _ hk => hk)).new 139 [.pointer none, .int .i64 0, .int .i64 0])
    clear HFo hd1 hb1
    have hEb : (E == 0) = false := by simp [hE]
    gi_wp2
    exact ⟨_, results_tmp2 rfl _ _ _, .inl ⟨hE, rfl, D1.out.db, D1.out.but⟩⟩
theorem list2_any (w : World) (p : Dp) (d : DS) (h : DB w p d) (hU : d.m.U) (s : Int) :
    Calls Tryz.prog 42 #[ptr p.g, .int .i64 s] w fun x w' =>
      (d.folE s ≠ 0 ∧ x = .returned (.tuple #[.slice none 0 0, .int .i64 (d.folE s)]) ∧ DB w' p (d.folD s) ∧ ButL p.f.w w w') ∨
      (d.folE s = 0 ∧ ∃ v c, x = .returned (.tuple #[v, .int .i64 0]) ∧ w'.ownsRow w.heap.size 177 5 v (d.lsn s 256).length (flat (d.lsn s 256)) ∧ DB w' p (d.wc c) ∧ ButL p.f.w w w') :=
  callsIn_wide.1 (list2_in 0 w p d h hU s)
end Go.Proofs.YtgbpbfnpeeciaaaGreat
