import Derived.Test.YtbjinmlelchmgaaGreatDoorP33
import Derived.Test.YtbjinmlelchmgaaGreatDoorP26
namespace Go.Proofs.YtbjinmlelchmgaaGreatDoor
open Go.RowKit
set_option maxRecDepth 100000
set_option maxHeartbeats 8000000
structure Oz where
  k : Int
  p : Int
  u : Int
  i : Int
  s : ByteArray
  ab : Option Addr
  ar : Option Addr
  nb : Nat
  cb : Nat
  nr : Nat
  cr : Nat
  l : List UInt8
  rws : List (List (List UInt8))
def Oz.C (x : Oz) : List Value := [.int .i64 x.k, .string x.s, .int .i64 x.p, .slice x.ab x.nb x.cb, .int .u32 x.u, .int .i32 x.i, .slice x.ar x.nr x.cr]
def OzAt (W : World) (ao : Option Addr) (ops : List Oz) : Prop := ∀ (k : Nat) (x : Oz), ops[k]? = some x → ∃ b o, ao = some ⟨b, o, none⟩ ∧ b < W.heap.size ∧ W.rangeAt b (o + k * 7) x.C ∧ OpF W x.s x.ab x.ar x.nb x.nr x.l x.rws
def kk (i : Nat) : Nat := if i % 3 = 2 then i / 3 / 2 else i / 3
theorem kk_lt (i n : Nat) (h : i < 3 * n) : kk i < n := by unfold kk; split <;> omega
def AF (ops : List Oz) (i : Nat) (A : An) : Prop := ∃ x, ops[kk i]? = some x ∧ A.ls = lnV x.s ∧ A.ws = wdV x.s ∧ A.bs = x.l
theorem An.len (x : An) : x.cs.length = 7 := rfl
structure Hd where
  l1 : Value
  m1 : Value
  l2 : Value
  m2 : Value
  l3 : Value
  m3 : Value
  n1 : Nat
  n2 : Nat
  n3 : Nat
  m : Nat
def Hd.cs (d : Hd) : List Value := [d.l1, d.m1, d.l2, d.m2, d.l3, d.m3, .int .u8 (d.m : Int)]
def Hd.hks (d : Hd) : List Hk := [⟨9, 1, d.l1, d.m1, d.n1, d.n1 + 1, [.string (mks d.m)]⟩, ⟨61, 3, d.l2, d.m2, d.n2, d.n2 + 1, mkw d.m⟩, ⟨5, 1, d.l3, d.m3, d.n3, d.n3 + 1, mkb d.m⟩]
structure Hd.ok (d : Hd) : Prop where
  m : d.m < 256
  n1 : d.n1 ≤ 10000000
  n2 : d.n2 ≤ 10000000
  n3 : d.n3 ≤ 10000000
theorem hcs_len (Ds : List Hd) : (Ds.flatMap Hd.cs).length = Ds.length * 7 := by
  induction Ds with
  | nil => rfl
  | cons a As ih => rw [List.flatMap_cons, List.length_append, ih, List.length_cons]; show 7 + _ = _; omega
def bookR (v : Value) (As : List An) : Rr := ⟨28, 7, v, As.length, As.flatMap An.cs⟩
def bk (v : Value) (Ds : List Hd) (As : List An) : Rr := ⟨28, 7, v, Ds.length + As.length, Ds.flatMap Hd.cs ++ As.flatMap An.cs⟩
theorem bk_0 (v : Value) (As : List An) : bookR v As = bk v [] As := by simp [bookR, bk]
theorem book_add {W w : World} {v' : Value} {As : List An} {A : An} {b : Rr} (h : KS W w (b :: (A.rows ++ (⟨28, 7, v', As.length + 1, As.flatMap An.cs ++ A.cs⟩ :: As.flatMap An.rows))) []) : KS W w (bookR v' (As ++ [A]) :: (As ++ [A]).flatMap An.rows) [] := by
  have h1 := h.tail.perm (List.perm_append_comm (l₁ := A.rows))
  have e1 : (As ++ [A]).flatMap An.rows = As.flatMap An.rows ++ A.rows := by simp
  have e2 : bookR v' (As ++ [A]) = ⟨28, 7, v', As.length + 1, As.flatMap An.cs ++ A.cs⟩ := by unfold bookR; simp
  rw [e1, e2]
  exact h1
theorem af_snoc {ops : List Oz} {As : List An} {A : An} {j : Nat} (h : Hid (∀ k A, As[k]? = some A → AF ops k A)) (hl : As.length = j) (ha : AF ops j A) : Hid (∀ k B, (As ++ [A])[k]? = some B → AF ops k B) := hid (fun k B hk => by
  rcases Nat.lt_or_ge k As.length with hlt | hge
  · rw [List.getElem?_append_left hlt] at hk
    exact h.out k B hk
  · rw [List.getElem?_append_right hge] at hk
    have hk0 : k - As.length = 0 := by
      have := (List.getElem?_eq_some_iff.1 hk).1
      simp only [List.length_cons, List.length_nil] at this
      omega
    rw [hk0] at hk
    cases hk
    obtain rfl : k = j := by omega
    exact ha)
end Go.Proofs.YtbjinmlelchmgaaGreatDoor
namespace Go.Proofs.YtbjinmlelchmgaaGreatDoor
open Go.RowKit
set_option maxRecDepth 100000
set_option maxHeartbeats 8000000
theorem an_at {W w : World} {R : List Rr} {H : List Hk} {A : An} (h : KS W w R H) (hm : ∀ r ∈ A.rows, r ∈ R) : StrsAt w A.a1 A.ls ∧ WdsAt w A.a2 A.ws ∧ AtB w A.a3 A.bs := by
  have h1 := h.inn (hm _ (List.mem_cons_self ..))
  have h2 := h.inn (hm _ (List.mem_cons_of_mem _ (List.mem_cons_self ..)))
  have h3 := h.inn (hm _ (List.mem_cons_of_mem _ (List.mem_cons_of_mem _ (List.mem_cons_self ..))))
  obtain ⟨a1, c1, e1, s1⟩ := own_strs h1
  obtain ⟨a2, c2, e2, s2⟩ := own_wds h2
  obtain ⟨a3, c3, e3, s3⟩ := own_atb h3
  injection e1 with e1 _ _
  injection e2 with e2 _ _
  injection e3 with e3 _ _
  rw [e1, e2, e3]
  exact ⟨s1, s2, s3⟩
theorem book_at {W w : World} {R : List Rr} {H : List Hk} {v : Value} {L : List (List Value)} {n : Nat} (h : KS W w (⟨28, 7, v, n, L.flatten⟩ :: R) H) (hL : ∀ l ∈ L, l.length = 7) (hn : 0 < n) : ∃ g c, v = .slice (some ⟨g, 0, none⟩) n c ∧ g < w.heap.size ∧ ∀ (j : Nat) (l : List Value), L[j]? = some l → w.rangeAt g (j * 7) l :=
  own_sub h.own0 hL hn (by decide)
def bkL (Ds : List Hd) (As : List An) : List (List Value) := Ds.map Hd.cs ++ As.map An.cs
theorem bk_eq (v : Value) (Ds : List Hd) (As : List An) : bk v Ds As = ⟨28, 7, v, Ds.length + As.length, (bkL Ds As).flatten⟩ := by
  unfold bk bkL
  rw [List.flatten_append]
  rfl
theorem bkL_len (Ds : List Hd) (As : List An) : ∀ l ∈ bkL Ds As, l.length = 7 := fun l hl => by
  rcases List.mem_append.1 hl with h | h
  · obtain ⟨d, _, rfl⟩ := List.mem_map.1 h; rfl
  · obtain ⟨d, _, rfl⟩ := List.mem_map.1 h; rfl
theorem bk_at {W w : World} {R : List Rr} {H : List Hk} {v : Value} {Ds : List Hd} {As : List An} {N : Nat} (h : KS W w (bk v Ds As :: R) H) (hN : Ds.length + As.length = N) (hn : 0 < N) : ∃ g c, v = .slice (some ⟨g, 0, none⟩) N c ∧ g < w.heap.size ∧ (∀ (j : Nat) (A : An), As[j]? = some A → w.rangeAt g ((Ds.length + j) * 7) A.cs) ∧ ∀ (j : Nat) (d : Hd), Ds[j]? = some d → w.rangeAt g (j * 7) d.cs := by
  rw [bk_eq, hN] at h
  obtain ⟨g, c, h1, h2, h3⟩ := book_at h (bkL_len Ds As) hn
  refine ⟨g, c, h1, h2, fun j A hA => h3 _ _ ?_, fun j d hd => h3 _ _ ?_⟩
  · unfold bkL
    rw [List.getElem?_append_right (by rw [List.length_map]; omega), List.length_map, Nat.add_sub_cancel_left, List.getElem?_map, hA]
    rfl
  · unfold bkL
    have := (List.getElem?_eq_some_iff.1 hd).1
    rw [List.getElem?_append_left (by rw [List.length_map]; omega), List.getElem?_map, hd]
    rfl
theorem bk_set (v : Value) (Ds : List Hd) (A : An) (As : List An) (d : Hd) :
    (⟨28, 7, v, Ds.length + (A :: As).length, (Ds.flatMap Hd.cs ++ (A :: As).flatMap An.cs).take (Ds.length * 7) ++ d.cs ++ (Ds.flatMap Hd.cs ++ (A :: As).flatMap An.cs).drop (Ds.length * 7 + 7)⟩ : Rr) = bk v (Ds ++ [d]) As := by
  have hl := hcs_len Ds
  unfold bk
  rw [List.take_left' hl, ← List.drop_drop, List.drop_left' hl, List.flatMap_cons, List.drop_left' (An.len A)]
  simp only [List.flatMap_append, List.length_append, List.length_cons, List.length_nil, List.flatMap_cons, List.flatMap_nil, List.append_nil]
  congr 1
  omega
theorem rows_mem {As : List An} {j : Nat} {A : An} (h : As[j]? = some A) : ∀ r ∈ A.rows, r ∈ As.flatMap An.rows := fun _ hr => List.mem_flatMap.2 ⟨A, List.mem_of_getElem? h, hr⟩
theorem take_rows {W w : World} {b : Rr} {A : An} {As : List An} {H : List Hk} (h : KS W w (b :: (A :: As).flatMap An.rows) H) : KS W w (A.rows ++ (b :: As.flatMap An.rows)) H := by
  refine h.perm ?_
  rw [List.flatMap_cons]
  exact List.perm_middle.symm
theorem hks_mem {Ds : List Hd} {d : Hd} {a b c : Hk} (h : d.hks = [a, b, c]) : ∀ x ∈ (Ds ++ [d]).flatMap Hd.hks, x ∈ a :: b :: c :: Ds.flatMap Hd.hks := fun x hx => by
  rw [List.flatMap_append] at hx
  rcases List.mem_append.1 hx with hx | hx
  · exact List.mem_cons_of_mem _ (List.mem_cons_of_mem _ (List.mem_cons_of_mem _ hx))
  · simp only [List.flatMap_cons, List.flatMap_nil, List.append_nil, h] at hx
    rcases List.mem_cons.1 hx with rfl | hx
    · exact List.mem_cons_self ..
    · rcases List.mem_cons.1 hx with rfl | hx
      · exact List.mem_cons_of_mem _ (List.mem_cons_self ..)
      · rcases List.mem_cons.1 hx with rfl | hx
        · exact List.mem_cons_of_mem _ (List.mem_cons_of_mem _ (List.mem_cons_self ..))
        · cases hx
theorem hd_ok {W w : World} {R : List Rr} {Ds : List Hd} {j : Nat} {d : Hd} (h : KS W w R (Ds.flatMap Hd.hks)) (hd : Ds[j]? = some d) : ∀ x ∈ d.hks, x.ok w W.heap.size := fun x hx => h.each x (List.mem_flatMap.2 ⟨d, List.mem_of_getElem? hd, hx⟩)
theorem an_len {W : World} {ao : Option Addr} {ops : List Oz} {i : Nat} {A : An} (h : OzAt W ao ops) (ha : AF ops i A) : A.ls.length ≤ 10000000 ∧ A.ws.length ≤ 10000000 ∧ A.bs.length ≤ 10000000 := by
  obtain ⟨x, hx, e1, e2, e3⟩ := ha
  obtain ⟨_, _, _, _, _, ho⟩ := h _ x hx
  have h1 := lnV_len x.s ho.ls
  have h2 := wdV_len x.s
  have h3 := ho.ls
  have h4 := ho.hnb
  have h5 := ho.lb
  rw [e1, e2, e3]
  omega
theorem wp_store_bk {W w : World} {R : List Rr} {H : List Hk} {o : Oper} {a : Act} {K : Act → World → Prop} {Q : Exit → Act → World → Prop} (x y : Operand) (ho : o.op = .store 28 x y) {g c N : Nat} {Ds : List Hd} {A : An} {As : List An} (hK : KS W w (bk (.slice (some ⟨g, 0, none⟩) N c) Ds (A :: As) :: R) H) (hN : Ds.length + (A :: As).length = N) (j : Nat) (hj : Ds.length = j) (d : Hd) (h1 : ∀ u ∈ d.cs, u.oneCell' = true) (hx : a.eval x = .pointer (some ⟨g, j * 7, none⟩)) (hy : a.eval y = .agg d.cs.toArray)
    (h : ∀ w', KS W w' (bk (.slice (some ⟨g, 0, none⟩) N c) (Ds ++ [d]) As :: R) H → K (a.put o.dst undef) w') : o.wp Tryz.prog a w K Q := by
  subst hN hj
  exact wp_store_g x y ho size28 hK 0 rfl Ds.length (by simp) d.cs rfl h1 hx hy (fun w' hk => h w' (by rw [← bk_set _ Ds A As d]; exact hk))
theorem bk_cell {W w : World} {R : List Rr} {H : List Hk} {g c N : Nat} {Ds : List Hd} {A : An} {As : List An} (h : KS W w (bk (.slice (some ⟨g, 0, none⟩) N c) Ds (A :: As) :: R) H) (hN : Ds.length + (A :: As).length = N) {j : Nat} (hj : Ds.length = j) : w.rangeAt g (j * 7) A.cs := by
  obtain ⟨g', c', hv, _, h1, _⟩ := bk_at h hN (by rw [← hN, List.length_cons]; omega)
  injection hv with hv _ _
  injection hv with hv
  injection hv with hv _ _
  subst hv hj
  exact h1 0 A rfl
theorem bk_cell2 {W w : World} {R : List Rr} {H : List Hk} {g c N : Nat} {Ds : List Hd} {d : Hd} {As : List An} (h : KS W w (bk (.slice (some ⟨g, 0, none⟩) N c) Ds As :: R) H) (hN : Ds.length + As.length = N) {j : Nat} (hd : Ds[j]? = some d) : w.rangeAt g (j * 7) d.cs := by
  have hl := (List.getElem?_eq_some_iff.1 hd).1
  obtain ⟨g', c', hv, _, _, h1⟩ := bk_at h hN (by omega)
  injection hv with hv _ _
  injection hv with hv
  injection hv with hv _ _
  subst hv
  exact h1 j d hd
theorem last_get {α : Type} (l : List α) (a : α) {j : Nat} (h : l.length = j) : (l ++ [a])[j]? = some a := by
  subst h
  rw [List.getElem?_append_right (Nat.le_refl _), Nat.sub_self]
  rfl
end Go.Proofs.YtbjinmlelchmgaaGreatDoor
namespace Go.Proofs.YtbjinmlelchmgaaGreatDoor
open Go.ChangeShapes Go.WideShapes Go.ChangeAt Go.RowKit
set_option maxRecDepth 20000
theorem open_op {H : Type} {enc : TypeId × Value → H} {W : World} {fuel : Nat} {cs : List Value} {y : DataW H × List MemPlace}
    (h : DataW.trod enc Tryz.prog W 0 (fun _ => true) true fuel 34 cs = some y) (hb : Rows.uptoBulk y.1 ≤ 1048576) :
    ∃ x : Oz, cs = x.C ∧ OpF W x.s x.ab x.ar x.nb x.nr x.l x.rws := by
  obtain ⟨xs, m, rfl, hy, hlen, hn, hel⟩ := DataW.trod_struct Tryz.underlying34 h
  rw [cells34] at hlen
  have hsz : xs.length = 7 := hn
  match cs, hlen with
  | [v0, v1, v2, v3, v4, v5, v6], _ =>
    match xs, hsz with
    | [x0, x1, x2, x3, x4, x5, x6], _ =>
      have e0 : DataW.trod enc Tryz.prog W 0 (fun _ => true) true m 3 (([v0, v1, v2, v3, v4, v5, v6].drop 0).take (Tryz.prog.cellsOf 3)) = some x0 := hel 0 _ rfl
      rw [cells3] at e0
      have e1 : DataW.trod enc Tryz.prog W 0 (fun _ => true) true m 9 (([v0, v1, v2, v3, v4, v5, v6].drop 1).take (Tryz.prog.cellsOf 9)) = some x1 := hel 1 _ rfl
      rw [cells9] at e1
      have e2 : DataW.trod enc Tryz.prog W 0 (fun _ => true) true m 3 (([v0, v1, v2, v3, v4, v5, v6].drop 2).take (Tryz.prog.cellsOf 3)) = some x2 := hel 2 _ rfl
      rw [cells3] at e2
      have e3 : DataW.trod enc Tryz.prog W 0 (fun _ => true) true m 26 (([v0, v1, v2, v3, v4, v5, v6].drop 3).take (Tryz.prog.cellsOf 26)) = some x3 := hel 3 _ rfl
      rw [cells26] at e3
      have e4 : DataW.trod enc Tryz.prog W 0 (fun _ => true) true m 31 (([v0, v1, v2, v3, v4, v5, v6].drop 4).take (Tryz.prog.cellsOf 31)) = some x4 := hel 4 _ rfl
      rw [cells31] at e4
      have e5 : DataW.trod enc Tryz.prog W 0 (fun _ => true) true m 21 (([v0, v1, v2, v3, v4, v5, v6].drop 5).take (Tryz.prog.cellsOf 21)) = some x5 := hel 5 _ rfl
      rw [cells21] at e5
      have e6 : DataW.trod enc Tryz.prog W 0 (fun _ => true) true m 32 (([v0, v1, v2, v3, v4, v5, v6].drop 6).take (Tryz.prog.cellsOf 32)) = some x6 := hel 6 _ rfl
      rw [cells32] at e6
      obtain ⟨k, g0, _, _⟩ := DataW.trod_int Tryz.underlying3 (show _ = some x0 from e0)
      obtain ⟨s, g1, hx1, _⟩ := DataW.trod_string Tryz.underlying9 (show _ = some x1 from e1)
      obtain ⟨p, g2, _, _⟩ := DataW.trod_int Tryz.underlying3 (show _ = some x2 from e2)
      obtain ⟨ab, cb, l, g3, hat, hbk⟩ := open_bytes (show _ = some x3 from e3)
      obtain ⟨u, g4, _, _⟩ := DataW.trod_int Tryz.underlying31 (show _ = some x4 from e4)
      obtain ⟨i, g5, _, _⟩ := DataW.trod_int Tryz.underlying21 (show _ = some x5 from e5)
      obtain ⟨ar, cr, rows, g6, hrow, hbr⟩ := open_rows (show _ = some x6 from e6)
      simp at g0 g1 g2 g3 g4 g5 g6
      subst g0 g1 g2 g3 g4 g5 g6
      rw [hy] at hb
      simp only [List.map_cons, List.map_nil, Rows.uptoBulk, Rows.uptoBulkAll] at hb
      have p0 := bulk_pos x0.1
      rw [hx1] at hb
      simp only [Rows.uptoBulk] at hb
      have hs : s.size ≤ 1048576 := by
        have : s.data.toList.length = s.size := rfl
        omega
      exact ⟨⟨k, p, u, i, s, ab, ar, l.length, cb, rows.length, cr, l, rows⟩, rfl, hs, rfl, by show l.length ≤ _; omega, hat, rfl, hrow, by show T.Z.wt rows ≤ _; omega⟩
theorem gatherZ {P : Nat → Oz → Prop} (n : Nat) (h : ∀ k, k < n → ∃ x, P k x) : ∃ ops : List Oz, ops.length = n ∧ ∀ k x, ops[k]? = some x → P k x := by
  induction n with
  | zero => exact ⟨[], rfl, fun k x h => by simp at h⟩
  | succ n ih =>
    obtain ⟨ops, hl, hp⟩ := ih (fun k hk => h k (by omega))
    obtain ⟨y, hy⟩ := h n (by omega)
    refine ⟨ops ++ [y], by simp [hl], fun k x hk => ?_⟩
    rcases Nat.lt_or_ge k n with hlt | hge
    · rw [List.getElem?_append_left (by omega)] at hk
      exact hp k x hk
    · have hk1 := (List.getElem?_eq_some_iff.1 hk).1
      rw [List.length_append, List.length_cons, List.length_nil] at hk1
      obtain rfl : k = n := by omega
      rw [last_get ops y hl] at hk
      cases hk
      exact hy
theorem open_ops {H : Type} {enc : TypeId × Value → H} {W : World} {base : Nat} {v : Value} {d : DataW H} {p : List MemPlace}
    (hv : Value.okWide Tryz.prog W .any base 22 v) (h : DataW.Trod enc Tryz.prog W 0 (fun _ => true) true 22 v d p) (hb : Rows.uptoBulk d ≤ 1048576) :
    ∃ (ao : Option Addr) (n c : Nat) (ops : List Oz), v = .slice ao n c ∧ n ≤ 1048576 ∧ ops.length = n ∧ OzAt W ao ops := by
  obtain ⟨ao0, n0, cap0, rfl⟩ := okWide_slice Tryz.underlying22 hv
  obtain ⟨fuel, hf⟩ := h
  obtain ⟨ao, n, cap, m, l, hcs, hl, hel, hbk⟩ := open_elems Tryz.underlying22 cells34 (by decide) hf
  simp [Value.cells] at hcs
  obtain ⟨rfl, rfl, rfl⟩ := hcs
  have hl1 := bulk_len (l.map (·.1))
  rw [List.length_map, hl] at hl1
  have hbk' : Rows.uptoBulkAll (l.map (·.1)) + 1 ≤ Rows.uptoBulk d := hbk
  obtain ⟨ops, ho, hp⟩ := gatherZ (P := fun k x => ∃ b o, ao0 = some ⟨b, o, none⟩ ∧ b < W.heap.size ∧ W.rangeAt b (o + k * 7) x.C ∧ OpF W x.s x.ab x.ar x.nb x.nr x.l x.rws) n0 (fun k hk => by
    rcases hel with h0 | ⟨b, o, rfl, hlt, hel⟩
    · omega
    · obtain ⟨cs', g1, g2, g3⟩ := hel k (by omega)
      have hmem : Rows.uptoBulk (l[k]'(by omega)).1 ≤ Rows.uptoBulkAll (l.map (·.1)) := bulk_mem (List.mem_map.2 ⟨l[k]'(by omega), List.getElem_mem _, rfl⟩)
      obtain ⟨x, rfl, hx⟩ := open_op g3 (by omega)
      refine ⟨x, b, o, rfl, hlt, fun j u hu => ?_, hx⟩
      have hj : j < 7 := (List.getElem?_eq_some_iff.1 hu).1
      rw [g2 j hj]
      exact hu)
  exact ⟨_, _, _, ops, rfl, by omega, ho, hp⟩
end Go.Proofs.YtbjinmlelchmgaaGreatDoor
