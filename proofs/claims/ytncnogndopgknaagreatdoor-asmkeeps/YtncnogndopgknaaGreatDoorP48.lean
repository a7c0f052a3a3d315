import Derived.Test.YtncnogndopgknaaGreatDoorP47
namespace Go.Proofs.YtncnogndopgknaaGreatDoor
open Go.RowKit
set_option maxRecDepth 100000
set_option maxHeartbeats 4000000
theorem asmk_any (W : World) (h : AW W) (n : Nat) (ws : List Nat) (hl : ws.length = n) (hn : n ≤ 2048) (hw : ∀ x ∈ ws, x < 4294967296) (base : Nat) (hb : base < 4294967296) :
    Calls Tryz.prog 9 #[.string ⟨(A.prt ws).toArray⟩, .int .u32 (base : Int)] W fun y w' => ∃ a c', y = .returned (.tuple #[.slice a n c', .agg #[.int .i64 0, .int .i64 0, .int .i64 0]]) ∧ w'.ownsRow W.heap.size 22 1 (.slice a n c') n (u32s ws) ∧ UAt w' a ws ∧ Below W.heap.size W w' := by
  have h0 := asm_call W h ⟨(A.prt ws).toArray⟩ base hb
  rw [data_list, S.asm_prt ws (by omega) hw base] at h0
  refine h0.mono ?_
  rintro e w' ⟨v, rfl, hown, hb'⟩
  obtain ⟨a, c', rfl⟩ := own_form hown
  have hown' : w'.ownsRow W.heap.size 22 1 (.slice a ws.length c') ws.length (u32s ws) := hown
  have hu := own_at hown'
  rw [hl] at hown'
  exact ⟨a, c', by show _ = Ending.returned (.tuple #[.slice a n c', _]); rw [← hl], hown', hu, hb'⟩
def txt4 : ByteArray := ⟨#[112, 58, 32, 113, 58, 32, 115, 118, 99, 32, 48, 10, 114, 58, 32, 119, 111, 114, 100, 32, 112, 10, 115, 58]⟩
def lab4 : List (List UInt8 × Nat) := [([112], 0), ([113], 0), ([114], 1), ([115], 2)]
theorem asm4 : ∃ w, S.asm txt4.data.toList 0 = .inr (w, lab4) := by
  have h : (match S.asm txt4.data.toList 0 with | .inr x => decide (x.2 = lab4) | .inl _ => false) = true := by decide +kernel
  cases hs : S.asm txt4.data.toList 0 with
  | inl f => rw [hs] at h; cases h
  | inr x =>
    rw [hs] at h
    obtain ⟨w, l⟩ := x
    have hl : l = lab4 := of_decide_eq_true h
    exact ⟨w, by rw [hl]⟩
theorem labk_any (W : World) (h : AW W) :
    Calls Tryz.prog 13 #[.string txt4] W fun y w' => ∃ g c', y = .returned (.tuple #[.slice (some ⟨g, 0, none⟩) 4 c', .agg #[.int .i64 0, .int .i64 0, .int .i64 0]]) ∧ w'.ownsRow W.heap.size 43 2 (.slice (some ⟨g, 0, none⟩) 4 c') 4 (labsC lab4) ∧ Below W.heap.size W w' := by
  obtain ⟨w4, h4⟩ := asm4
  refine (labels_any W h txt4 _ h4).mono ?_
  rintro e w' ⟨v, rfl, hown, hb'⟩
  have hown : w'.ownsRow W.heap.size 43 2 v 4 (labsC lab4) := hown
  obtain ⟨a, c', rfl⟩ := own_frm hown (by decide)
  obtain ⟨g, rfl⟩ := own_some hown (show 0 < 4 by decide)
  exact ⟨g, c', rfl, hown, hb'⟩
theorem wi2_any (x : Int) : ∃ r : Nat, 2 ≤ r ∧ r ≤ 6 ∧ ∀ W : World, Calls Tryz.prog 17 #[.int .i64 x, .int .i64 2, .int .i64 6] W fun e W' => e = .returned (.int .i64 (r : Int)) ∧ W = W' := by
  have t1 := Int.tmod_lt_of_pos x (show 0 < (5 : Int) by decide)
  have t2 : -(5 : Int) < x.tmod 5 := Int.lt_tmod_of_pos x (by decide)
  generalize hr : x.tmod 5 = r at *
  by_cases hn : r < 0
  · refine ⟨(r + 7).toNat, by omega, by omega, fun W => ?_⟩
    have e0 : (((r + 7).toNat : Nat) : Int) = r + 7 := by omega
    rw [e0]
    go_enter Tryz.func17, Tryz.ntmps17
    go_wp2_with fail
    go_ret
    exact ⟨ret_i (by omega), rfl⟩
  · refine ⟨(r + 2).toNat, by omega, by omega, fun W => ?_⟩
    have e0 : (((r + 2).toNat : Nat) : Int) = r + 2 := by omega
    rw [e0]
    go_enter Tryz.func17, Tryz.ntmps17
    go_wp2_with fail
    go_ret
    exact ⟨ret_i (by omega), rfl⟩
def kb (vB vN vL : Value) (Ks : List Kp) : List Rr := [⟨55, 3, vB, Ks.length, Ks.flatMap Kp.cs⟩, ⟨39, 1, vN, Ks.length, Ks.map (·.a)⟩, ⟨39, 1, vL, Ks.length, Ks.map (·.b)⟩]
theorem kb_start {W w : World} (h : KS W w [] []) (n : Nat) : KS W w (kb (.slice none 0 0) (.slice none 0 0) (.slice none 0 0) []) (([] : List Kp).flatMap (Kp.hs n)) :=
  ((h.add ⟨39, 1, .slice none 0 0, 0, []⟩ (Below.refl _ _) ⟨rfl, .inl ⟨rfl, rfl⟩⟩).add ⟨39, 1, .slice none 0 0, 0, []⟩ (Below.refl _ _) ⟨rfl, .inl ⟨rfl, rfl⟩⟩).add ⟨55, 3, .slice none 0 0, 0, []⟩ (Below.refl _ _) ⟨rfl, .inl ⟨rfl, rfl⟩⟩
structure Dq where
  l : Value
  a : Value
def Dq.rows (n : Nat) (ws : List Nat) (d : Dq) : List Rr := [⟨22, 1, d.l, n, u32s ws⟩, ⟨43, 2, d.a, 4, labsC lab4⟩]
def two (v1 v2 : Value) (ds : List Dq) : List Rr := [⟨24, 1, v1, ds.length, ds.map (·.l)⟩, ⟨39, 1, v2, ds.length, ds.map (·.a)⟩]
end Go.Proofs.YtncnogndopgknaaGreatDoor
namespace Go.Proofs.YtncnogndopgknaaGreatDoor
open Go.RowKit
set_option maxRecDepth 40000
set_option maxHeartbeats 4000000
theorem KS.hsub {W w : World} {R : List Rr} {H H' : List Hk} (h : KS W w R H) (hs : ∀ x ∈ H', x ∈ H) : KS W w R H' := ⟨h.below, h.own, h.ap, fun x hx => h.each x (hs x hx), fun i r hr g hg x hx => h.off i r hr g hg x (hs x hx)⟩
theorem KS.setj {W w : World} {R : List Rr} {H : List Hk} {e : TypeId} {st : Nat} (hK : KS W w R H) (i : Nat) {g n c : Nat} {xs : List Value} (hz : R[i]? = some ⟨e, st, .slice (some ⟨g, 0, none⟩) n c, n, xs⟩) (j : Nat) (u : Value) : KS W (w.setCell ⟨g, j, none⟩ u) (R.set i ⟨e, st, .slice (some ⟨g, 0, none⟩) n c, n, xs.set j u⟩) H :=
  hK.wr i hz ⟨e, st, .slice (some ⟨g, 0, none⟩) n c, n, xs.set j u⟩ (g := g) rfl rfl (but_setCell w g j u) (own_setc (hK.mem hz) j u)
theorem kb_add {W w : World} {vB vN vL : Value} {Ks : List Kp} {X : List Rr} {n L : Nat} {k : Kp} (hL : L = Ks.length)
    (h : KS W w (⟨55, 3, vB, L + 1, Ks.flatMap Kp.cs ++ k.cs⟩ :: ⟨39, 1, vN, L + 1, Ks.map (·.a) ++ [k.a]⟩ :: ⟨39, 1, vL, L + 1, Ks.map (·.b) ++ [k.b]⟩ :: X) (k.h2 :: k.h1 n :: Ks.flatMap (Kp.hs n))) :
    KS W w (kb vB vN vL (Ks ++ [k]) ++ X) ((Ks ++ [k]).flatMap (Kp.hs n)) := by
  subst hL
  have h1 := h.hsub (H' := (Ks ++ [k]).flatMap (Kp.hs n)) (fun x hx => by
    simp only [List.flatMap_append, List.flatMap_cons, List.flatMap_nil, List.append_nil, List.mem_append, Kp.hs, List.mem_cons, List.not_mem_nil, or_false] at hx ⊢
    rcases hx with h | h | h
    · exact .inr (.inr h)
    · exact .inr (.inl h)
    · exact .inl h)
  have e1 : (Ks ++ [k]).flatMap Kp.cs = Ks.flatMap Kp.cs ++ k.cs := by simp
  have e2 : (Ks ++ [k]).map (·.a) = Ks.map (·.a) ++ [k.a] := by simp
  have e3 : (Ks ++ [k]).map (·.b) = Ks.map (·.b) ++ [k.b] := by simp
  have e4 : (Ks ++ [k]).length = Ks.length + 1 := by simp
  unfold kb
  rw [e1, e2, e3, e4]
  exact h1
theorem two_add {W w : World} {v1 v2 : Value} {ds : List Dq} {X : List Rr} {H : List Hk} {n L : Nat} {ws : List Nat} {d : Dq} (hL : L = ds.length)
    (h : KS W w (⟨24, 1, v1, L + 1, ds.map (·.l) ++ [d.l]⟩ :: ⟨39, 1, v2, L + 1, ds.map (·.a) ++ [d.a]⟩ :: ⟨22, 1, d.l, n, u32s ws⟩ :: ⟨43, 2, d.a, 4, labsC lab4⟩ :: (ds.flatMap (Dq.rows n ws) ++ X)) H) :
    KS W w (two v1 v2 (ds ++ [d]) ++ ((ds ++ [d]).flatMap (Dq.rows n ws) ++ X)) H := by
  subst hL
  have e2 : (ds ++ [d]).map (·.a) = ds.map (·.a) ++ [d.a] := by simp
  have e3 : (ds ++ [d]).map (·.l) = ds.map (·.l) ++ [d.l] := by simp
  have e4 : (ds ++ [d]).length = ds.length + 1 := by simp
  unfold two
  rw [e2, e3, e4]
  refine h.perm ?_
  refine List.Perm.cons _ (List.Perm.cons _ ?_)
  rw [List.flatMap_append]
  simp only [List.flatMap_cons, List.flatMap_nil, List.append_nil, Dq.rows, List.append_assoc]
  exact (List.perm_append_comm (l₁ := [_, _]) (l₂ := ds.flatMap (Dq.rows n ws))).append_right X |>.trans (by simp)
theorem two_ready {W w : World} {r1 r2 t1 t2 : Rr} {X : List Rr} {H : List Hk} (h : KS W w (r1 :: r2 :: t1 :: t2 :: X) H) : KS W w (t1 :: t2 :: r2 :: r1 :: X) H := h.perm (by
  classical
  rw [List.perm_iff_count]
  intro a
  simp only [List.count_cons]
  omega)
theorem two_done {W w : World} {A B D : List Rr} {H : List Hk} (h : KS W w (A ++ (B ++ D)) H) : KS W w (D ++ (A ++ B)) H := h.perm (by rw [← List.append_assoc]; exact List.perm_append_comm)
theorem perm_erase (r : Rr) : ∀ (R : List Rr) (i : Nat), R[i]? = some r → R.Perm (r :: R.eraseIdx i)
  | [], i, h => by simp at h
  | a :: R, 0, h => by
    simp only [List.getElem?_cons_zero, Option.some.injEq] at h
    subst h
    simp
  | a :: R, i + 1, h => by
    rw [List.getElem?_cons_succ] at h
    rw [List.eraseIdx_cons_succ]
    exact ((perm_erase r R i h).cons a).trans (List.Perm.swap _ _ _)
theorem KS.up {W w : World} {R : List Rr} {H : List Hk} {r : Rr} (h : KS W w R H) (i : Nat) (hr : R[i]? = some r) : KS W w (r :: R.eraseIdx i) H := h.perm (perm_erase r R i hr)
theorem KS.keepAt {W w w' : World} {R : List Rr} {H : List Hk} {e : TypeId} {st n : Nat} {v v' : Value} {cs : List Value} (h : KS W w R H) (i : Nat) (hz : R[i]? = some ⟨e, st, v, n, rp n cs⟩) (hcs : cs.length = st) (ha : Two2 w w' W.heap.size e st v v' n 1 (rp n cs ++ cs)) : KS W w' (R.eraseIdx i) (⟨e, st, v, v', n, n + 1, cs⟩ :: H) :=
  keep1 (h.up i hz) hcs ha
theorem ix_add {Ks : List Kp} {k : Kp} (h : ∀ (i : Nat) (q : Kp), Ks[i]? = some q → q.i = i) (hk : k.i = Ks.length) : ∀ (i : Nat) (q : Kp), (Ks ++ [k])[i]? = some q → q.i = i := by
  intro i q hq
  rcases Nat.lt_or_ge i Ks.length with hl | hl
  · rw [List.getElem?_append_left hl] at hq
    exact h i q hq
  · rw [List.getElem?_append_right hl] at hq
    have h0 : i - Ks.length = 0 := by
      rcases Nat.eq_zero_or_pos (i - Ks.length) with h0 | h0
      · exact h0
      · rw [List.getElem?_eq_none (by simp; omega)] at hq
        cases hq
    rw [h0] at hq
    simp at hq
    subst hq
    omega
theorem kb_front {W w : World} {vB vN vL : Value} {Ks : List Kp} {X : List Rr} {H : List Hk} (h : KS W w (kb vB vN vL Ks ++ X) H) : KS W w (kb vB vN vL Ks) H :=
  h.emb id (fun i r hr => by
    have hl := (List.getElem?_eq_some_iff.1 hr).1
    show (kb vB vN vL Ks ++ X)[i]? = some r
    rw [List.getElem?_append_left hl]
    exact hr) (fun _ _ h => h)
theorem flat_get : ∀ (Ks : List Kp) (j : Nat) (k : Kp) (t : Nat), Ks[j]? = some k → t < 3 → (Ks.flatMap Kp.cs)[j * 3 + t]? = k.cs[t]?
  | [], _, _, _, h, _ => by simp at h
  | a :: Ks, 0, k, t, h, ht => by
    simp only [List.getElem?_cons_zero, Option.some.injEq] at h
    subst h
    rw [List.flatMap_cons, Nat.zero_mul, Nat.zero_add, List.getElem?_append_left (by simpa [Kp.cs] using ht)]
  | a :: Ks, j + 1, k, t, h, ht => by
    rw [List.getElem?_cons_succ] at h
    have hl : a.cs.length = 3 := rfl
    rw [List.flatMap_cons, List.getElem?_append_right (by rw [hl]; omega), hl]
    have e : (j + 1) * 3 + t - 3 = j * 3 + t := by omega
    rw [e]
    exact flat_get Ks j k t h ht
theorem kb_cells {W w : World} {g1 g2 g3 L c1 c2 c3 : Nat} {Ks : List Kp} {H : List Hk} (h : KS W w (kb (.slice (some ⟨g1, 0, none⟩) L c1) (.slice (some ⟨g2, 0, none⟩) L c2) (.slice (some ⟨g3, 0, none⟩) L c3) Ks) H) (hL : Ks.length = L) {j : Nat} {k : Kp} (hk : Ks[j]? = some k) :
    w.cell? ⟨g1, j * 3, none⟩ = some k.l ∧ w.cell? ⟨g1, j * 3 + 1, none⟩ = some k.m ∧ w.cell? ⟨g1, j * 3 + 2, none⟩ = some (.int .u32 ((k.i + 7 : Nat) : Int)) ∧ w.cell? ⟨g2, j, none⟩ = some k.a ∧ w.cell? ⟨g3, j, none⟩ = some k.b := by
  subst hL
  have o1 : w.ownsRow W.heap.size 55 3 (.slice (some ⟨g1, 0, none⟩) Ks.length c1) Ks.length (Ks.flatMap Kp.cs) := h.mem (i := 0) rfl
  have o2 : w.ownsRow W.heap.size 39 1 (.slice (some ⟨g2, 0, none⟩) Ks.length c2) Ks.length (Ks.map (·.a)) := h.mem (i := 1) rfl
  have o3 : w.ownsRow W.heap.size 39 1 (.slice (some ⟨g3, 0, none⟩) Ks.length c3) Ks.length (Ks.map (·.b)) := h.mem (i := 2) rfl
  have a0 := own_rng o1 (j * 3 + 0) k.l (by rw [flat_get Ks j k 0 hk (by decide)]; rfl)
  have a1 := own_rng o1 (j * 3 + 1) k.m (by rw [flat_get Ks j k 1 hk (by decide)]; rfl)
  have a2 := own_rng o1 (j * 3 + 2) (.int .u32 ((k.i + 7 : Nat) : Int)) (by rw [flat_get Ks j k 2 hk (by decide)]; rfl)
  have a3 := own_rng o2 j k.a (by simp [hk])
  have a4 := own_rng o3 j k.b (by simp [hk])
  rw [Nat.zero_add] at a0 a1 a2 a3 a4
  exact ⟨a0, a1, a2, a3, a4⟩
theorem info24s : (Tryz.prog.info? 24).map (fun i => (i.zero, i.size, i.bytes)) = some (some (.slice none 0 0), 1, 24) := by kernel_rfl
theorem info39s : (Tryz.prog.info? 39).map (fun i => (i.zero, i.size, i.bytes)) = some (some (.slice none 0 0), 1, 24) := by kernel_rfl
theorem info43s : (Tryz.prog.info? 43).map (fun i => (i.zero, i.size, i.bytes)) = some (some (.agg #[.string ⟨#[]⟩, .int .i64 0]), 2, 24) := by kernel_rfl
theorem info55s : (Tryz.prog.info? 55).map (fun i => (i.zero, i.size, i.bytes)) = some (some (.agg #[.slice none 0 0, .slice none 0 0, .int .u32 0]), 3, 56) := by kernel_rfl
theorem hk_cell {w : World} {B e st m g c : Nat} {cs : List Value} (h : w.ownsRow B e st (.slice (some ⟨g, 0, none⟩) m c) m (rp m cs)) (hcs : cs.length = st) {i j : Nat} {u : Value} (hi : i < m) (hj : cs[j]? = some u) : w.cell? ⟨g, i * st + j, none⟩ = some u := by
  have := own_rng h (i * st + j) u (by
    have hj2 : j < st := by rw [← hcs]; exact (List.getElem?_eq_some_iff.1 hj).1
    have e : rp m cs = rp i cs ++ (cs ++ rp (m - i - 1) cs) := by
      have e2 : m = i + (1 + (m - i - 1)) := by omega
      conv => lhs; rw [e2, rp_plus, rp_plus]
      congr 1; congr 1; simp [rp]
    rw [e, List.getElem?_append_right (by rw [rp_len, hcs]; omega), rp_len, hcs, Nat.add_sub_cancel_left, List.getElem?_append_left (by rw [hcs]; exact hj2)]
    exact hj)
  simpa using this
end Go.Proofs.YtncnogndopgknaaGreatDoor
