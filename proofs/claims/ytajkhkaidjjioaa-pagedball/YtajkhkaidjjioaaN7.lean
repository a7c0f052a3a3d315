/- The document's Clone 46. -/
import Derived.Test.YtajkhkaidjjioaaN6
import Derived.Test.YtajkhkaidjjioaaL1
namespace Go.Proofs.Ytajkhkaidjjioaa
open Go.RowKit
theorem Hl.pg {W w : World} {v : Value} {L : List Int} (h : Hl W w v L) (hL : L.length = 1024) : PgIs w v L ∧ (∀ b, blkOf v = some b → W.heap.size ≤ b) := by
  rcases h.own.2 with ⟨hv, h0⟩ | ⟨g, cap, cur, hv, hB, hg, hle, r⟩
  · omega
  · rw [hL] at hv
    refine ⟨⟨hL, .inr ⟨g, cap, cur, hv, hg, ?_⟩⟩, fun b hb => by rw [hv] at hb; simp only [blkOf, Option.some.injEq] at hb; rw [← hb]; exact hB⟩
    apply List.ext_getElem?
    intro j
    by_cases hj : j < 1024
    · have hjl : j < (u32s L).length := by rw [u32s_len, hL]; exact hj
      have hc := h.own.cells (g := g) (by rw [hv]; rfl) j _ (List.getElem?_eq_getElem hjl)
      rw [Addr.add_mid, Nat.zero_add, cell_of_row w g j _ 27 (0, 0) hg] at hc
      rw [List.getElem?_take_of_lt hj, List.getElem?_eq_getElem hjl]
      simpa using hc
    · rw [List.getElem?_take_eq_none (by omega), List.getElem?_eq_none (by rw [u32s_len, hL]; omega)]
set_option maxRecDepth 40000 in
set_option maxHeartbeats 4000000 in
theorem PgIs.grown {W w w' : World} {v x : Value} {L : List Value} {L' : List Int} (h : PgIs w x L') (hv : Hv W w v L) (hgr : w.grownBy w' v.ownBlock) : PgIs w' x L' := by
  refine ⟨h.1, h.2.imp id ?_⟩
  rintro ⟨b, cap, cur, e1, e2, e3⟩
  refine ⟨b, cap, cur, e1, (hgr.block b (Array.getElem?_eq_some_iff.1 e2).1 (fun e => ?_)).trans e2, e3⟩
  obtain ⟨_, cur', hc⟩ := hv.blk (ownBlock_blk hv e.symm)
  rw [hc] at e2
  injection e2 with e2
  injection e2 with _ h4 _
  exact absurd h4 (by decide)
theorem PgIs.setG {w : World} {x : Value} {L' : List Int} (h : PgIs w x L') {g : Nat} {cs : List Value} {t : TypeId} (hg : Cel w g t cs) (ht : t ≠ 27) (j : Nat) (u : Value) : PgIs (w.setCell ⟨g, j, none⟩ u) x L' :=
  h.but (G := [g]) (.setCell _ _ _ _ (by simp)) (fun b hb => by rw [List.mem_singleton]; intro e; subst e; exact ht (h.ty hb hg))
/-- A clone that is being made. -/
structure CI (w wr : World) (g : Nat) (v : Value) (vs : List Value) (m : MS) (j : Nat) : Prop where
  rb : RB w wr g v vs (m.ns : Int) m.c
  len : vs.length = j
  pg : ∀ k, k < j → PgIs wr (vs.getD k nilV) (m.p k)
  bl : ∀ k, k < j → ∀ b, blkOf (vs.getD k nilV) = some b → w.heap.size ≤ b
  ap : ∀ i k, i < j → k < j → i ≠ k → ∀ b, blkOf (vs.getD i nilV) = some b → blkOf (vs.getD k nilV) ≠ some b
theorem getD_snoc (vs : List Value) (x : Value) (k : Nat) (hk : k < vs.length + 1) : (vs ++ [x]).getD k nilV = if k = vs.length then x else vs.getD k nilV := by
  by_cases e : k = vs.length
  · subst e; rw [if_pos rfl, List.getD_eq_getElem?_getD, List.getElem?_append_right (Nat.le_refl _)]; simp
  · rw [if_neg e, List.getD_eq_getElem?_getD, List.getElem?_append_left (by omega), ← List.getD_eq_getElem?_getD]
theorem CI.snoc {w wr w1 w2 : World} {g : Nat} {v v' x : Value} {vs : List Value} {m : MS} {j : Nat} (h : CI w wr g v vs m j) (hb : Below wr.heap.size wr w1) (hx : PgIs w1 x (m.p j)) (hxb : ∀ b, blkOf x = some b → wr.heap.size ≤ b) (h2 : Hv w w2 v' (vs ++ [x])) (hgr : w1.grownBy w2 v.ownBlock) :
    CI w (w2.setCell ⟨g, 0, none⟩ v') g v' (vs ++ [x]) m (j + 1) := by
  have hrb := h.rb.on hb
  have hlen := h.len
  have key : ∀ (y : Value) (L : List Int), PgIs w1 y L → PgIs (w2.setCell ⟨g, 0, none⟩ v') y L := fun y L hy => (hy.grown hrb.hv hgr).setG (hrb.celG hgr) (by decide) 0 v'
  refine ⟨hrb.grown h2 hgr, by simp [hlen], fun k hk => ?_, fun k hk b => ?_, fun i k hi hk hik b => ?_⟩
  · rw [getD_snoc vs x k (by omega)]
    split
    · rename_i e; rw [e, hlen]; exact key _ _ hx
    · exact key _ _ ((h.pg k (by omega)).on hb)
  · rw [getD_snoc vs x k (by omega)]
    split
    · intro hbx; have := hxb b hbx; have := h.rb.hv.below.size; omega
    · exact h.bl k (by omega) b
  · rw [getD_snoc vs x i (by omega), getD_snoc vs x k (by omega)]
    split
    · rename_i e1
      rw [if_neg (by omega)]
      intro h1 h3
      have a := hxb b h1
      have c := (h.pg k (by omega)).lt h3
      omega
    · split
      · intro h1 h3
        have a := hxb b h3
        have c := (h.pg i (by omega)).lt h1
        omega
      · exact h.ap i k (by omega) (by omega) hik b
theorem Hl.blk {W w : World} {v : Value} {L : List Int} (h : Hl W w v L) {b : Nat} (hb : blkOf v = some b) : W.heap.size ≤ b := by
  rcases h.own.2 with ⟨hv, h0⟩ | ⟨g, cap, cur, hv, hB, hg, r⟩
  · rw [hv] at hb; cases hb
  · rw [hv] at hb
    simp only [blkOf, Option.some.injEq] at hb
    subst hb
    exact hB
set_option maxRecDepth 40000 in
set_option maxHeartbeats 4000000 in
theorem rclone_any (w : World) (r : Rf) (m : MS) (h : RMem w r m) (h0 : 0 < m.P.length) :
    Calls Try.prog 64 #[ptr r.g] w fun x w' => ∃ r', x = .returned (ptr r'.g) ∧ NewR w w' r' m := by
  have n2 := h.most
  have n0 := h.ns0
  have q2 : (m.P.length : Int) ≤ 128 := by omega
  have HX : Hid (∀ x, Below w.heap.size w x → x.cell? ⟨r.g, 0, none⟩ = some (.slice (some ⟨r.gp, 0, none⟩) m.P.length r.cap) ∧ x.cell? ⟨r.g, 1, none⟩ = some (.int .i64 (m.ns : Int)) ∧ x.cell? ⟨r.g, 2, none⟩ = some (.int .i64 m.c)) := hid (fun x hx => ⟨(h.on hx).cel.cell 0, (h.on hx).cel.cell 1, (h.on hx).cel.cell 2⟩)
  have H := hid h
  have HN0 := hid n0
  have H0 := hid h0
  clear h n0 h0
  simp only [ptr]
  go_enter Try.func64, Try.ntmps64
  go_wp2_with fail
  refine wp_region_held_drew (S := fun x => Below w.heap.size w x) (by kernel_rfl) ((Below.refl _ _).drew) (fun hHeld => ?_)
  refine wpAnyH_take (i := 0) (oi := { dst := some 6, op := Op.move (Operand.tmp 0), type := 77, pos := "ref.go:180", after := #[], guard := none }) (v := .pointer (some ⟨r.g, 0, none⟩)) rfl (by kernel_rfl) (by kernel_rfl) (by kernel_rfl) (fun _ _ _ h => h) (Or.inl ⟨by rfl, by intro w hSw; go_simp⟩) (by assumption) ?_
  simp only [Act.put, List.setIfInBounds_toArray, List.set_cons_zero, List.set_cons_succ]
  refine wpAnyH_take (i := 1) (oi := { dst := some 7, op := Op.nilCheck (Operand.tmp 6), type := 0, pos := "ref.go:180", after := #[{ on := 0, ground := Ground.data }], guard := none }) (v := .pointer (some ⟨r.g, 0, none⟩)) rfl (by kernel_rfl) (by kernel_rfl) (by kernel_rfl) (fun _ _ _ h => h) (Or.inl ⟨by rfl, by intro w hSw; go_simp⟩) (by assumption) ?_
  simp only [Act.put, List.setIfInBounds_toArray, List.set_cons_zero, List.set_cons_succ]
  refine wpAnyH_take (i := 2) (oi := { dst := some 8, op := Op.fieldAddr 146 (Operand.tmp 7) 1, type := 0, pos := "ref.go:180", after := #[{ on := 1, ground := Ground.data }], guard := none }) (v := .pointer (some ⟨r.g, 1, none⟩)) rfl (by kernel_rfl) (by kernel_rfl) (by kernel_rfl) (fun _ _ _ h => h) (Or.inl ⟨by rfl, by intro w hSw; go_simp⟩) (by assumption) ?_
  simp only [Act.put, List.setIfInBounds_toArray, List.set_cons_zero, List.set_cons_succ]
  refine wpAnyH_take (i := 3) (oi := { dst := some 9, op := Op.load 3 (Operand.tmp 8), type := 3, pos := "ref.go:180", after := #[{ on := 2, ground := Ground.data }], guard := none }) (v := .int .i64 (m.ns : Int)) rfl (by kernel_rfl) (by kernel_rfl) (by kernel_rfl) (fun _ _ _ h => h) (Or.inl ⟨by rfl, by intro w hSw; have hcc := (HX.out w hSw).2.1; go_simp⟩) (by assumption) ?_
  simp only [Act.put, List.setIfInBounds_toArray, List.set_cons_zero, List.set_cons_succ]
  refine wpAnyH_take (i := 4) (oi := { dst := some 10, op := Op.move (Operand.tmp 0), type := 77, pos := "ref.go:180", after := #[], guard := none }) (v := .pointer (some ⟨r.g, 0, none⟩)) rfl (by kernel_rfl) (by kernel_rfl) (by kernel_rfl) (fun _ _ _ h => h) (Or.inl ⟨by rfl, by intro w hSw; go_simp⟩) (by assumption) ?_
  simp only [Act.put, List.setIfInBounds_toArray, List.set_cons_zero, List.set_cons_succ]
  refine wpAnyH_take (i := 5) (oi := { dst := some 11, op := Op.nilCheck (Operand.tmp 10), type := 0, pos := "ref.go:180", after := #[{ on := 4, ground := Ground.data }], guard := none }) (v := .pointer (some ⟨r.g, 0, none⟩)) rfl (by kernel_rfl) (by kernel_rfl) (by kernel_rfl) (fun _ _ _ h => h) (Or.inl ⟨by rfl, by intro w hSw; go_simp⟩) (by assumption) ?_
  simp only [Act.put, List.setIfInBounds_toArray, List.set_cons_zero, List.set_cons_succ]
  refine wpAnyH_take (i := 6) (oi := { dst := some 12, op := Op.fieldAddr 146 (Operand.tmp 11) 2, type := 0, pos := "ref.go:180", after := #[{ on := 5, ground := Ground.data }], guard := none }) (v := .pointer (some ⟨r.g, 2, none⟩)) rfl (by kernel_rfl) (by kernel_rfl) (by kernel_rfl) (fun _ _ _ h => h) (Or.inl ⟨by rfl, by intro w hSw; go_simp⟩) (by assumption) ?_
  simp only [Act.put, List.setIfInBounds_toArray, List.set_cons_zero, List.set_cons_succ]
  refine wpAnyH_take (i := 7) (oi := { dst := some 13, op := Op.load 2 (Operand.tmp 12), type := 2, pos := "ref.go:180", after := #[{ on := 6, ground := Ground.data }], guard := none }) (v := .int .i64 m.c) rfl (by kernel_rfl) (by kernel_rfl) (by kernel_rfl) (fun _ _ _ h => h) (Or.inl ⟨by rfl, by intro w hSw; have hcc := (HX.out w hSw).2.2; go_simp⟩) (by assumption) ?_
  simp only [Act.put, List.setIfInBounds_toArray, List.set_cons_zero, List.set_cons_succ]
  refine wpAnyH_take (i := 8) (oi := { dst := some 14, op := Op.build 146 #[(1, Operand.tmp 9), (2, Operand.tmp 13)], type := 146, pos := "ref.go:180", after := #[{ on := 3, ground := Ground.data }, { on := 7, ground := Ground.data }], guard := none }) (v := .agg #[.slice none 0 0, .int .i64 (m.ns : Int), .int .i64 m.c]) rfl (by kernel_rfl) (by kernel_rfl) (by kernel_rfl) (fun _ _ _ h => h) (Or.inl ⟨by rfl, by intro w hSw; go_simp⟩) (by assumption) ?_
  simp only [Act.put, List.setIfInBounds_toArray, List.set_cons_zero, List.set_cons_succ]
  refine wpAnyH_ready (rs := [9]) (by kernel_rfl) (by simp) (AllReadyH.cons (o := { dst := some 15, op := Op.box 146 (Operand.tmp 14), type := 77, pos := "ref.go:180", after := #[{ on := 8, ground := Ground.data }], guard := none }) rfl (fun KQ hK => ?_) AllReadyH.nil)
  go_simp
  refine hK.out _ _ (below_on ((Below.refl _ _).drew) (below_one _ _)) (fun hHeld => ?_)
  clear hK KQ
  try simp only [Act.put, List.setIfInBounds_toArray, List.set_cons_zero, List.set_cons_succ]
  refine wpAnyH_ready (rs := [10]) (by kernel_rfl) (by simp) (AllReadyH.cons (o := { dst := some 3, op := Op.assign (Operand.tmp 15), type := 77, pos := "ref.go:180", after := #[{ on := 9, ground := Ground.data }, { on := 0, ground := Ground.phase }, { on := 1, ground := Ground.phase }, { on := 2, ground := Ground.phase }, { on := 3, ground := Ground.phase }, { on := 4, ground := Ground.phase }, { on := 5, ground := Ground.phase }, { on := 6, ground := Ground.phase }, { on := 7, ground := Ground.phase }, { on := 8, ground := Ground.phase }, { on := 9, ground := Ground.phase }], guard := none }) rfl (fun KQ hK => ?_) AllReadyH.nil)
  go_simp
  refine hK.out _ _ (below_on ((Below.refl _ _).drew) (below_one _ _)) (fun hHeld => ?_)
  clear hK KQ
  try simp only [Act.put, List.setIfInBounds_toArray, List.set_cons_zero, List.set_cons_succ]
  refine wpAnyH_done (by kernel_rfl) ?_ _
  clear hHeld
  have HC : Hid (CI w (w.alloc (.cells #[.slice none 0 0, .int .i64 (m.ns : Int), .int .i64 m.c] 146)).drew w.heap.size (.slice none 0 0) [] m 0) := hid ⟨⟨(Hv.start w).on ((below_one _ _).drew), (Cel.new w 146 [.slice none 0 0, .int .i64 (m.ns : Int), .int .i64 m.c]).on (Below.refl _ _).drew, Nat.le_refl _⟩, rfl, fun k hk => by omega, fun k hk => by omega, fun i k hi => by omega⟩
  go_wp2_with fail
  generalize (w.alloc _).drew = X at *
  generalize hgg : w.heap.size = g at HC ⊢
  go_loopw [4, 5] (fun i _ wr => ∃ (j : Nat) (v : Value) (vs : List Value), j ≤ m.P.length ∧ i = .int .i64 (j : Int) ∧ Hid (CI w wr g v vs m j)) (fun i _ _ => m.P.length - (intOf i).toNat)
  case atStart => exact ⟨0, _, [], Nat.zero_le _, rfl, HC⟩
  case round =>
    obtain ⟨j, v, vs, hj, rfl, HQ⟩ := hrel
    clear HC
    have HR := hid (H.out.on HQ.out.rb.hv.below)
    have y0 := (HX.out wr HQ.out.rb.hv.below).1
    by_cases hlt : j < m.P.length
    · have c1 : (j : Int) < (m.P.length : Int) := by omega
      have j1 : (j : Int) ≤ 128 := by omega
      have y1 := HR.out.cellAt j hlt
      obtain ⟨ao, cc, hvf⟩ := HQ.out.rb.hv.form
      have hlen := HQ.out.len
      have hby : (vs.length + 1) * 24 ≤ 140737488355328 := by rw [hlen]; omega
      clear hlen
      rcases (HR.out.pg j hlt) with ⟨hL, ⟨e1, e2⟩ | ⟨b, cap, cur, e1, e2, e3⟩⟩
      · rw [e1] at y1
        have HPX : Hid (PgIs (wr.alloc (.cells #[.slice none 0 0] 32)) (.slice none 0 0) (m.p j)) := hid (by rw [e2]; exact pg_nil _)
        have HQ1 := hid (HQ.out.rb.on (below_one wr (.cells #[.slice none 0 0] 32)))
        have z0 := HQ.out.rb.c0
        subst hvf
        clear e1 e2 hL
        obtain ⟨i24, hi24, _, _, _⟩ := info_parts info32
        have HI := hid hi24
        clear hi24
        go_wp2_with (first | (at_builtin; refine wpList_append_own_none rfl _ _ 32 rfl w.heap.size 27 i24 1 under24 HI.out (.slice none 0 0) 0 [] rfl (World.ownsRow_nil _ _ _ _) rfl ?_) | (at_builtin; refine wpList_append_v (W := w) rfl _ _ rfl (.slice ao vs.length cc) vs rfl HQ1.out.hv ⟨wr.heap.size, 0, none⟩ 1 1 [.slice none 0 0] rfl rfl (new_srcv _ [.slice none 0 0]) (by intro u hu; rw [List.mem_singleton] at hu; subst hu; rfl) hby ?_; intro v' w2 H2 hgr; obtain ⟨ao2, cc2, rfl⟩ := H2.form; have HN := hid (HQ.out.snoc (below_one _ _) HPX.out (fun b hb => by cases hb) H2 hgr); have y7 : w2.cell? ⟨g, 0, none⟩ = some (.slice ao vs.length cc) := (RB.cell0 HQ1.out H2 hgr); have y8 : w2.frozen? ⟨g, 0, none⟩ = false := (RB.free0 HQ1.out H2 hgr); clear H2 hgr))
        exact ⟨⟨j + 1, _, _, by omega, by go_num, (by simpa using HN.out : CI w (w2.setCell ⟨g, 0, none⟩ (.slice ao2 (vs.length + 1) cc2)) g (.slice ao2 (vs.length + 1) cc2) (vs ++ [.slice none 0 0]) m (j + 1))⟩, by simp [intOf]; omega⟩
      · rw [e1] at y1
        have HSR : Hid (∀ i u, (u32s (m.p j))[i]? = some u → wr.cell? ((⟨b, 0, none⟩ : Addr).add i) = some u) := hid (fun i u hu => by
          have hi : i < 1024 := by have := (List.getElem?_eq_some_iff.1 hu).1; rw [u32s_len, hL] at this; exact this
          rw [Addr.add_mid, Nat.zero_add, PgIs.cell hL e2 e3 i hi]
          rw [u32s, List.getElem?_map, List.getElem?_eq_getElem (by omega)] at hu
          simp only [Option.map_some] at hu
          rw [← hu]
          simp [wd, List.getD_eq_getElem?_getD, List.getElem?_eq_getElem (show i < (m.p j).length by omega)])
        have HL := hid hL
        have z0 := HQ.out.rb.c0
        have HQQ := HQ
        subst hvf
        clear e1 e2 e3 hL
        go_wp2_with (first | (at_builtin; refine wpList_append_w (W := wr) rfl _ _ rfl (.slice none 0 0) [] rfl (Hl.start wr) ⟨b, 0, none⟩ 1024 cap (m.p j) rfl HL.out HSR.out (by decide) ?_; intro v5 w5 H5 _; rw [List.nil_append] at H5; obtain ⟨a5, c5, e5, _⟩ := H5.form; rw [HL.out] at e5; subst e5; have HPX := hid (H5.pg HL.out); have HB5 := hid H5.below; have z1 : w5.cell? ⟨g, 0, none⟩ = some (.slice ao vs.length cc) := (HQ.out.rb.on H5.below).c0; have HQ1 := hid ((HQ.out.rb.on H5.below).on (below_one w5 (.cells #[.slice a5 1024 c5] 32))); clear H5 z0 y0 y1 HSR) | (at_builtin; refine wpList_append_v (W := w) rfl _ _ rfl (.slice ao vs.length cc) vs rfl HQ1.out.hv ⟨w5.heap.size, 0, none⟩ 1 1 [.slice a5 1024 c5] rfl rfl (new_srcv _ [.slice a5 1024 c5]) (by intro u hu; rw [List.mem_singleton] at hu; subst hu; rfl) hby ?_; intro v' w2 H2 hgr; obtain ⟨ao2, cc2, rfl⟩ := H2.form; have HN := hid (HQ.out.snoc (below_on HB5.out (below_one _ _)) (HPX.out.1.on (below_one _ _)) (fun b hb => HPX.out.2 b hb) H2 hgr); have y7 : w2.cell? ⟨g, 0, none⟩ = some (.slice ao vs.length cc) := (RB.cell0 HQ1.out H2 hgr); have y8 : w2.frozen? ⟨g, 0, none⟩ = false := (RB.free0 HQ1.out H2 hgr); clear H2 hgr))
        exact ⟨⟨j + 1, _, _, by omega, by go_num, (by simpa using HN.out : CI w (w2.setCell ⟨g, 0, none⟩ (.slice ao2 (vs.length + 1) cc2)) g (.slice ao2 (vs.length + 1) cc2) (vs ++ [.slice a5 1024 c5]) m (j + 1))⟩, by simp [intOf]; omega⟩
    · obtain rfl : j = m.P.length := by omega
      have HD : Hid (∃ r' : Rf, r'.g = g ∧ NewR w wr r' m) := hid (HQ.out.rb.done HQ.out.len H0.out HN0.out n2 HQ.out.pg HQ.out.bl HQ.out.ap)
      go_wp2_with fail
      go_ret
      obtain ⟨r', rfl, hr⟩ := HD.out
      exact ⟨r', rfl, hr⟩
end Go.Proofs.Ytajkhkaidjjioaa
