/- The document's Clone 34. -/
import Derived.Test.YtajkhkaidjjioaaT3
namespace Go.Proofs.Ytajkhkaidjjioaa
open Go.RowKit
set_option maxHeartbeats 4000000
set_option maxRecDepth 100000
/-- A document's database of the call's own. -/
structure NewRD (W w : World) (p : Rp) (d : DS) : Prop where
  db : RDB w p d
  below : Below W.heap.size W w
  new : ∀ k ∈ p.all, W.heap.size ≤ k
theorem rclone_g (w : World) (r : Rf) (m : MS) (h : RMem w r m) (h0 : 0 < m.P.length) (g : Nat) (hg : r.g = g) : Calls Try.prog 64 #[.pointer (some ⟨g, 0, none⟩)] w fun x w' => ∃ r', x = .returned (ptr r'.g) ∧ NewR w w' r' m := by
  subst hg
  exact rclone_any w r m h h0
theorem RDB.src {w : World} {p : Rp} {d : DS} (h : RDB w p d) : ∀ j u, (ecs d.E)[j]? = some u → w.cell? (Addr.add ⟨p.ge, 0, none⟩ j) = some u := by
  obtain ⟨r, h1⟩ := h.ents
  intro j u hu
  have h2 := h1.src j u (by
    have hl : j < (ecs d.E).length := by
      rcases Nat.lt_or_ge j (ecs d.E).length with h | h
      · exact h
      · rw [List.getElem?_eq_none h] at hu; cases hu
    rw [List.getElem?_append_left hl]; exact hu)
  exact h2
theorem rdclone_any (W : World) (p : Rp) (d : DS) (h : RDB W p d) (h0 : 0 < d.m.ns) :
    Calls Try.prog 34 #[ptr p.g] W fun e W' => ∃ q, e = .returned (ptr q.g) ∧ NewRD W W' q d := by
  have HP0 : Hid (0 < d.m.P.length) := hid (by have := h.mem.ns0; omega)
  have HC := hid (fun w (hw : RDB w p d) => rclone_g w p.r d.m hw.mem HP0.out p.r.g rfl)
  have HC0 := hid (fun w (hw : RDB w p d) => hw.c0)
  have HC1 := hid (fun w (hw : RDB w p d) => hw.c1)
  have HC2 := hid (fun w (hw : RDB w p d) => hw.c2)
  have HOk := hid h.ok
  have HN0 := hid h0
  have HNl : Hid (([] : List En).length + d.m.ns ≤ 1000) := hid (by have := h.ok.n64; simp; omega)
  have HEl : Hid (d.E.length = d.m.ns) := hid h.ok.len
  have H0 := hid (h.on (Below.refl _ _).drew)
  have B0 : Hid (Below W.heap.size W W.drew) := hid (Below.refl _ _).drew
  clear h h0
  simp only [ptr] at *
  go_enter Try.func34, Try.ntmps34
  go_upto_region 1 with fail
  refine wp_region_held_drew (S := fun w => RDB w p d) (by kernel_rfl) H0.out (fun hHeld => ?_)
  generalize World.drew _ = w0 at *
  refine wpAnyH_take (i := 0) (oi := { dst := some 4, op := Op.move (Operand.tmp 0), type := 66, pos := "ref.go:227", after := #[], guard := none }) (v := .pointer (some ⟨p.g, 0, none⟩)) rfl (by kernel_rfl) (by kernel_rfl) (by kernel_rfl) (fun _ _ _ h => h) (Or.inl ⟨by rfl, by intro w hSw; go_simp⟩) (by assumption) ?_
  simp only [Act.put, List.setIfInBounds_toArray, List.set_cons_zero, List.set_cons_succ]
  refine wpAnyH_take (i := 1) (oi := { dst := some 5, op := Op.nilCheck (Operand.tmp 4), type := 0, pos := "ref.go:227", after := #[{ on := 0, ground := Ground.data }], guard := none }) (v := .pointer (some ⟨p.g, 0, none⟩)) rfl (by kernel_rfl) (by kernel_rfl) (by kernel_rfl) (fun _ _ _ h => h) (Or.inl ⟨by rfl, by intro w hSw; go_simp⟩) (by assumption) ?_
  simp only [Act.put, List.setIfInBounds_toArray, List.set_cons_zero, List.set_cons_succ]
  refine wpAnyH_take (i := 2) (oi := { dst := some 6, op := Op.fieldAddr 80 (Operand.tmp 5) 0, type := 0, pos := "ref.go:227", after := #[{ on := 1, ground := Ground.data }], guard := none }) (v := .pointer (some ⟨p.g, 0, none⟩)) rfl (by kernel_rfl) (by kernel_rfl) (by kernel_rfl) (fun _ _ _ h => h) (Or.inl ⟨by rfl, by intro w hSw; go_simp⟩) (by assumption) ?_
  simp only [Act.put, List.setIfInBounds_toArray, List.set_cons_zero, List.set_cons_succ]
  refine wpAnyH_take (i := 3) (oi := { dst := some 7, op := Op.load 77 (Operand.tmp 6), type := 77, pos := "ref.go:227", after := #[{ on := 2, ground := Ground.data }], guard := none }) (v := .pointer (some ⟨p.r.g, 0, none⟩)) rfl (by kernel_rfl) (by kernel_rfl) (by kernel_rfl) (fun _ _ _ h => h) (Or.inl ⟨by rfl, by intro w hSw; have hc := HC0.out w hSw; go_simp⟩) (by assumption) ?_
  simp only [Act.put, List.setIfInBounds_toArray, List.set_cons_zero, List.set_cons_succ]
  refine wpAnyH_take (i := 5) (oi := { dst := some 9, op := Op.move (Operand.tmp 0), type := 66, pos := "ref.go:227", after := #[], guard := none }) (v := .pointer (some ⟨p.g, 0, none⟩)) rfl (by kernel_rfl) (by kernel_rfl) (by kernel_rfl) (fun _ _ _ h => h) (Or.inl ⟨by rfl, by intro w hSw; go_simp⟩) (by assumption) ?_
  simp only [Act.put, List.setIfInBounds_toArray, List.set_cons_zero, List.set_cons_succ]
  refine wpAnyH_take (i := 6) (oi := { dst := some 10, op := Op.nilCheck (Operand.tmp 9), type := 0, pos := "ref.go:227", after := #[{ on := 5, ground := Ground.data }], guard := none }) (v := .pointer (some ⟨p.g, 0, none⟩)) rfl (by kernel_rfl) (by kernel_rfl) (by kernel_rfl) (fun _ _ _ h => h) (Or.inl ⟨by rfl, by intro w hSw; go_simp⟩) (by assumption) ?_
  simp only [Act.put, List.setIfInBounds_toArray, List.set_cons_zero, List.set_cons_succ]
  refine wpAnyH_take (i := 7) (oi := { dst := some 11, op := Op.fieldAddr 80 (Operand.tmp 10) 2, type := 0, pos := "ref.go:227", after := #[{ on := 6, ground := Ground.data }], guard := none }) (v := .pointer (some ⟨p.g, 2, none⟩)) rfl (by kernel_rfl) (by kernel_rfl) (by kernel_rfl) (fun _ _ _ h => h) (Or.inl ⟨by rfl, by intro w hSw; go_simp⟩) (by assumption) ?_
  simp only [Act.put, List.setIfInBounds_toArray, List.set_cons_zero, List.set_cons_succ]
  refine wpAnyH_take (i := 8) (oi := { dst := some 12, op := Op.load 3 (Operand.tmp 11), type := 3, pos := "ref.go:227", after := #[{ on := 7, ground := Ground.data }], guard := none }) (v := .int .i64 d.b) rfl (by kernel_rfl) (by kernel_rfl) (by kernel_rfl) (fun _ _ _ h => h) (Or.inl ⟨by rfl, by intro w hSw; have hc := HC2.out w hSw; go_simp⟩) (by assumption) ?_
  simp only [Act.put, List.setIfInBounds_toArray, List.set_cons_zero, List.set_cons_succ]
  refine wpAnyH_ready (rs := [4]) (by kernel_rfl) (by simp) (AllReadyH.cons (o := { dst := some 8, op := Op.call { callee := Callee.value (Operand.func 64), args := #[Operand.tmp 7], argTypes := #[77] }, type := 77, pos := "ref.go:227", after := #[{ on := 3, ground := Ground.data }], guard := none }) rfl (fun KQ hK => ?_) AllReadyH.nil)
  go_simp
  refine (HC.out _ H0.out).mono ?_
  rintro e w1 ⟨r1, rfl, hn⟩
  have H1 := hid (H0.out.on hn.below)
  have R1 := hid (And.intro hn.mem (And.intro (below_on B0.out hn.below) (fun k hk => Nat.le_trans B0.out.size (hn.new k hk))))
  clear hn B0 H0
  refine hK.out _ _ H1.out (fun hHeld => ?_)
  clear hK KQ
  try simp only [Act.put, List.setIfInBounds_toArray, List.set_cons_zero, List.set_cons_succ]
  refine wpAnyH_take (i := 9) (oi := { dst := some 13, op := Op.build 80 #[(0, Operand.tmp 8), (2, Operand.tmp 12)], type := 80, pos := "ref.go:227", after := #[{ on := 4, ground := Ground.data }, { on := 8, ground := Ground.data }], guard := none }) (v := .agg #[.pointer (some ⟨r1.g, 0, none⟩), .slice none 0 0, .int .i64 d.b]) rfl (by kernel_rfl) (by kernel_rfl) (by kernel_rfl) (fun _ _ _ h => h) (Or.inl ⟨by rfl, by intro w hSw; go_simp⟩) (by assumption) ?_
  simp only [Act.put, List.setIfInBounds_toArray, List.set_cons_zero, List.set_cons_succ]
  refine wpAnyH_ready (rs := [10]) (by kernel_rfl) (by simp) (AllReadyH.cons (o := { dst := some 14, op := Op.box 80 (Operand.tmp 13), type := 66, pos := "ref.go:227", after := #[{ on := 9, ground := Ground.data }], guard := none }) rfl (fun KQ hK => ?_) AllReadyH.nil)
  go_simp
  have H2 : Hid (RDB (w1.alloc (.cells #[.pointer (some ⟨r1.g, 0, none⟩), .slice none 0 0, .int .i64 d.b] 80)) p d) := hid (H1.out.on (below_one _ _))
  have L2 : Hid (RNL W (w1.alloc (.cells #[.pointer (some ⟨r1.g, 0, none⟩), .slice none 0 0, .int .i64 d.b] 80)) r1 w1.heap.size (.slice none 0 0) [] d.b d.m) := hid ⟨⟨World.ownsRow_nil _ _ _ _, Cel.new w1 80 [.pointer (some ⟨r1.g, 0, none⟩), .slice none 0 0, .int .i64 d.b], R1.out.2.1.size, R1.out.1.on (below_one _ _), .of (below_on R1.out.2.1 (below_one _ _)), fun k hk => .inl hk⟩, below_on R1.out.2.1 (below_one _ _)⟩
  have HW := hid R1.out.2.1.size
  have HRn := hid R1.out.2.2
  have HPG : Hid (∀ k ∈ p.all, k ≠ w1.heap.size) := hid (fun k hk => by have := H1.out.lt k hk; omega)
  clear H1 R1
  generalize World.alloc _ _ = w2 at *
  generalize w1.heap.size = g at *
  refine hK.out _ _ H2.out (fun hHeld => ?_)
  clear hK KQ
  try simp only [Act.put, List.setIfInBounds_toArray, List.set_cons_zero, List.set_cons_succ]
  refine wpAnyH_ready (rs := [11]) (by kernel_rfl) (by simp) (AllReadyH.cons (o := { dst := some 3, op := Op.assign (Operand.tmp 14), type := 66, pos := "ref.go:227", after := #[{ on := 10, ground := Ground.data }, { on := 4, ground := Ground.chain }, { on := 0, ground := Ground.phase }, { on := 1, ground := Ground.phase }, { on := 2, ground := Ground.phase }, { on := 3, ground := Ground.phase }, { on := 4, ground := Ground.phase }, { on := 5, ground := Ground.phase }, { on := 6, ground := Ground.phase }, { on := 7, ground := Ground.phase }, { on := 8, ground := Ground.phase }, { on := 9, ground := Ground.phase }, { on := 10, ground := Ground.phase }], guard := none }) rfl (fun KQ hK => ?_) AllReadyH.nil)
  go_simp
  refine hK.out _ _ H2.out (fun hHeld => ?_)
  clear hK KQ
  try simp only [Act.put, List.setIfInBounds_toArray, List.set_cons_zero, List.set_cons_succ]
  refine wpAnyH_done (by kernel_rfl) ?_ _
  have H3 := hid (H2.out.on (Below.refl _ _).drew)
  have L3 := hid (L2.out.on (Below.refl _ _).drew)
  clear H2 L2
  go_upto_region 2 with fail
  refine wp_region_held_drew (S := fun w => RDB w p d) (by kernel_rfl) H3.out (fun hHeld => ?_)
  generalize World.drew _ = w3 at *
  refine wpAnyH_take (i := 0) (oi := { dst := some 15, op := Op.move (Operand.tmp 3), type := 66, pos := "ref.go:228", after := #[], guard := none }) (v := .pointer (some ⟨g, 0, none⟩)) rfl (by kernel_rfl) (by kernel_rfl) (by kernel_rfl) (fun _ _ _ h => h) (Or.inl ⟨by rfl, by intro w hSw; go_simp⟩) (by assumption) ?_
  simp only [Act.put, List.setIfInBounds_toArray, List.set_cons_zero, List.set_cons_succ]
  refine wpAnyH_take (i := 1) (oi := { dst := some 16, op := Op.move (Operand.tmp 3), type := 66, pos := "ref.go:228", after := #[], guard := none }) (v := .pointer (some ⟨g, 0, none⟩)) rfl (by kernel_rfl) (by kernel_rfl) (by kernel_rfl) (fun _ _ _ h => h) (Or.inl ⟨by rfl, by intro w hSw; go_simp⟩) (by assumption) ?_
  simp only [Act.put, List.setIfInBounds_toArray, List.set_cons_zero, List.set_cons_succ]
  refine wpAnyH_take (i := 2) (oi := { dst := some 17, op := Op.nilCheck (Operand.tmp 16), type := 0, pos := "ref.go:228", after := #[{ on := 1, ground := Ground.data }], guard := none }) (v := .pointer (some ⟨g, 0, none⟩)) rfl (by kernel_rfl) (by kernel_rfl) (by kernel_rfl) (fun _ _ _ h => h) (Or.inl ⟨by rfl, by intro w hSw; go_simp⟩) (by assumption) ?_
  simp only [Act.put, List.setIfInBounds_toArray, List.set_cons_zero, List.set_cons_succ]
  refine wpAnyH_take (i := 3) (oi := { dst := some 18, op := Op.fieldAddr 80 (Operand.tmp 17) 1, type := 0, pos := "ref.go:228", after := #[{ on := 2, ground := Ground.data }], guard := none }) (v := .pointer (some ⟨g, 1, none⟩)) rfl (by kernel_rfl) (by kernel_rfl) (by kernel_rfl) (fun _ _ _ h => h) (Or.inl ⟨by rfl, by intro w hSw; go_simp⟩) (by assumption) ?_
  simp only [Act.put, List.setIfInBounds_toArray, List.set_cons_zero, List.set_cons_succ]
  refine wpAnyH_take (i := 5) (oi := { dst := some 20, op := Op.move (Operand.tmp 0), type := 66, pos := "ref.go:228", after := #[], guard := none }) (v := .pointer (some ⟨p.g, 0, none⟩)) rfl (by kernel_rfl) (by kernel_rfl) (by kernel_rfl) (fun _ _ _ h => h) (Or.inl ⟨by rfl, by intro w hSw; go_simp⟩) (by assumption) ?_
  simp only [Act.put, List.setIfInBounds_toArray, List.set_cons_zero, List.set_cons_succ]
  refine wpAnyH_take (i := 6) (oi := { dst := some 21, op := Op.nilCheck (Operand.tmp 20), type := 0, pos := "ref.go:228", after := #[{ on := 5, ground := Ground.data }], guard := none }) (v := .pointer (some ⟨p.g, 0, none⟩)) rfl (by kernel_rfl) (by kernel_rfl) (by kernel_rfl) (fun _ _ _ h => h) (Or.inl ⟨by rfl, by intro w hSw; go_simp⟩) (by assumption) ?_
  simp only [Act.put, List.setIfInBounds_toArray, List.set_cons_zero, List.set_cons_succ]
  refine wpAnyH_take (i := 7) (oi := { dst := some 22, op := Op.fieldAddr 80 (Operand.tmp 21) 1, type := 0, pos := "ref.go:228", after := #[{ on := 6, ground := Ground.data }], guard := none }) (v := .pointer (some ⟨p.g, 1, none⟩)) rfl (by kernel_rfl) (by kernel_rfl) (by kernel_rfl) (fun _ _ _ h => h) (Or.inl ⟨by rfl, by intro w hSw; go_simp⟩) (by assumption) ?_
  simp only [Act.put, List.setIfInBounds_toArray, List.set_cons_zero, List.set_cons_succ]
  refine wpAnyH_take (i := 8) (oi := { dst := some 23, op := Op.load 78 (Operand.tmp 22), type := 78, pos := "ref.go:228", after := #[{ on := 7, ground := Ground.data }], guard := none }) (v := .slice (some ⟨p.ge, 0, none⟩) d.m.ns p.cap) rfl (by kernel_rfl) (by kernel_rfl) (by kernel_rfl) (fun _ _ _ h => h) (Or.inl ⟨by rfl, by intro w hSw; have hc := HC1.out w hSw; go_simp⟩) (by assumption) ?_
  simp only [Act.put, List.setIfInBounds_toArray, List.set_cons_zero, List.set_cons_succ]
  refine wpAnyH_ready (rs := [4]) (by kernel_rfl) (by simp) (AllReadyH.cons (o := { dst := some 19, op := Op.load 78 (Operand.tmp 18), type := 78, pos := "ref.go:228", after := #[{ on := 3, ground := Ground.data }], guard := none }) rfl (fun KQ hK => ?_) AllReadyH.nil)
  have y0 := L3.out.rn.cel.cell 1
  simp only [List.getElem?_cons_zero, List.getElem?_cons_succ] at y0
  go_simp
  clear y0
  refine hK.out _ _ H3.out (fun hHeld => ?_)
  clear hK KQ
  try simp only [Act.put, List.setIfInBounds_toArray, List.set_cons_zero, List.set_cons_succ]
  refine wpAnyH_ready (rs := [9]) (by kernel_rfl) (by simp) (AllReadyH.cons (o := { dst := some 24, op := Op.call { callee := Callee.builtin Builtin.append, args := #[Operand.tmp 19, Operand.tmp 23], argTypes := #[78, 78] }, type := 78, pos := "ref.go:228", after := #[{ on := 4, ground := Ground.data }, { on := 8, ground := Ground.data }], guard := none }) rfl (fun KQ hK => ?_) AllReadyH.nil)
  rw [if_pos (by rfl)]
  refine wp_append_e (B := W.heap.size) _ _ rfl (.slice none 0 0) [] rfl L3.out.rn.own L3.out.bl.size ⟨p.ge, 0, none⟩ d.m.ns p.cap d.E HEl.out rfl H3.out.src HNl.out ?_
  intro v4 w4 h4 hgr
  rw [List.nil_append] at h4
  obtain ⟨ao4, cc4, rfl⟩ := own_form5 h4
  obtain ⟨hq4, y1, y2⟩ := L3.out.rn.snoc h4 hgr
  have L4 := hid (RNL.mk hq4 (L3.out.rn.snocB hgr L3.out.bl))
  have H4 := hid (H3.out.frame (grown_but hgr (G := []) (fun b hb => by cases hb)) (by simp))
  have HGK : Hid (∀ k ∈ p.all, k ∉ [g]) := hid (fun k hk hm => by
    rw [List.mem_singleton] at hm
    subst hm
    exact HPG.out k hk rfl)
  clear hq4 hgr h4 L3 H3
  refine hK.out _ _ H4.out (fun hHeld => ?_)
  clear hK KQ
  try simp only [Act.put, List.setIfInBounds_toArray, List.set_cons_zero, List.set_cons_succ]
  refine wpAnyH_take (i := 10) (oi := { dst := some 25, op := Op.nilCheck (Operand.tmp 15), type := 0, pos := "ref.go:228", after := #[{ on := 0, ground := Ground.data }, { on := 0, ground := Ground.phase }, { on := 1, ground := Ground.phase }, { on := 2, ground := Ground.phase }, { on := 3, ground := Ground.phase }, { on := 4, ground := Ground.phase }, { on := 5, ground := Ground.phase }, { on := 6, ground := Ground.phase }, { on := 7, ground := Ground.phase }, { on := 8, ground := Ground.phase }, { on := 9, ground := Ground.phase }], guard := none }) (v := .pointer (some ⟨g, 0, none⟩)) rfl (by kernel_rfl) (by kernel_rfl) (by kernel_rfl) (fun _ _ _ h => h) (Or.inl ⟨by rfl, by intro w hSw; go_simp⟩) (by assumption) ?_
  simp only [Act.put, List.setIfInBounds_toArray, List.set_cons_zero, List.set_cons_succ]
  refine wpAnyH_take (i := 11) (oi := { dst := some 26, op := Op.fieldAddr 80 (Operand.tmp 25) 1, type := 0, pos := "ref.go:228", after := #[{ on := 10, ground := Ground.data }, { on := 0, ground := Ground.phase }, { on := 1, ground := Ground.phase }, { on := 2, ground := Ground.phase }, { on := 3, ground := Ground.phase }, { on := 4, ground := Ground.phase }, { on := 5, ground := Ground.phase }, { on := 6, ground := Ground.phase }, { on := 7, ground := Ground.phase }, { on := 8, ground := Ground.phase }, { on := 9, ground := Ground.phase }], guard := none }) (v := .pointer (some ⟨g, 1, none⟩)) rfl (by kernel_rfl) (by kernel_rfl) (by kernel_rfl) (fun _ _ _ h => h) (Or.inl ⟨by rfl, by intro w hSw; go_simp⟩) (by assumption) ?_
  simp only [Act.put, List.setIfInBounds_toArray, List.set_cons_zero, List.set_cons_succ]
  refine wpAnyH_ready (rs := [12]) (by kernel_rfl) (by simp) (AllReadyH.cons (o := { dst := none, op := Op.store 78 (Operand.tmp 26) (Operand.tmp 24), type := 0, pos := "ref.go:228", after := #[{ on := 11, ground := Ground.data }, { on := 9, ground := Ground.data }, { on := 9, ground := Ground.chain }, { on := 0, ground := Ground.phase }, { on := 1, ground := Ground.phase }, { on := 2, ground := Ground.phase }, { on := 3, ground := Ground.phase }, { on := 4, ground := Ground.phase }, { on := 5, ground := Ground.phase }, { on := 6, ground := Ground.phase }, { on := 7, ground := Ground.phase }, { on := 8, ground := Ground.phase }, { on := 9, ground := Ground.phase }], guard := none }) rfl (fun KQ hK => ?_) AllReadyH.nil)
  go_simp
  clear y1 y2
  refine hK.out _ _ (H4.out.frame (ButL.setCell w4 g 1 _ (by simp : g ∈ [g])) HGK.out) (fun hHeld => ?_)
  clear hK KQ
  try simp only [Act.put]
  refine wpAnyH_done (by kernel_rfl) ?_ _
  go_wp2_with fail
  go_ret
  obtain ⟨ge, cap, hdb, hge⟩ := L4.out.rn.done HN0.out HEl.out HOk.out
  refine ⟨⟨g, ge, cap, r1⟩, rfl, hdb, L4.out.bl, fun k hk => ?_⟩
  simp only [Rp.all, List.mem_cons] at hk
  rcases hk with rfl | rfl | hk
  · exact HW.out
  · exact hge
  · exact HRn.out k hk
end Go.Proofs.Ytajkhkaidjjioaa
