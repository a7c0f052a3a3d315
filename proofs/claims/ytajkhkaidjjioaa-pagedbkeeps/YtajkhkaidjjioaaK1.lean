/- clonePages 38, Clone 25. -/
import Derived.Test.YtajkhkaidjjioaaM6
namespace Go.Proofs.Ytajkhkaidjjioaa
open Go.RowKit
theorem zeroPages_128 (w : World) (n : Nat) (hn : n ≤ 128) :
    Calls Try.prog 86 #[.int .i64 (n : Int)] w fun x w' => ∃ g bs, x = .returned (.slice (some ⟨g, 0, none⟩) n n) ∧ ZP w w' g bs n ∧ bs.length = n := by
  have n1 : (n : Int) ≤ 128 := by omega
  go_enter Try.func86, Try.ntmps86
  go_wp2_with (first | (at_make; refine wpList_make_cel rfl _ _ 95 139 rfl (.pointer none) 8 under75 info82 rfl n _ _ rfl rfl rfl rfl (by omega) (by omega) ?_))
  intro w1 hc1 hb1 hs1
  have HZ : Hid (ZP w w1 w.heap.size [] n) := hid ⟨hb1, Nat.le_refl _, by simpa using hc1, by simp, by simp, by simp⟩
  clear hc1 hb1 hs1
  generalize w.heap.size = g at *
  go_wp2_with fail
  go_loopw [4, 9] (fun _ v wr => ∃ bs : List Nat, v = .int .i64 (bs.length : Int) ∧ Hid (ZP w wr g bs n)) (fun _ v _ => n - (intOf v).toNat)
  case atStart => exact ⟨[], rfl, HZ⟩
  case round =>
    obtain ⟨bs, rfl, HQ⟩ := hrel
    have hle := HQ.out.le
    by_cases hlt : bs.length < n
    · have c1 : (bs.length : Int) < (n : Int) := by omega
      have q1 : (bs.length : Int) ≤ 128 := by omega
      have HG := hid HQ.out.cel
      go_wp2_with (first | (refine wpList_alloc_pg rfl rfl ?_))
      intro w2 hc2 hb2 hs2
      have HS := hid (HQ.out.step hlt hb2 hc2)
      have fz := (HG.out.on hb2).free bs.length
      have cz : w2.cell? ⟨g, bs.length, none⟩ = some (.pointer none) := by
        rw [(HG.out.on hb2).cell bs.length, List.getElem?_append_right (by simp)]
        simp [List.getElem?_replicate]; omega
      clear hc2 hb2 hs2
      go_wp2_with fail
      go_roundw
      case measure => simp [intOf] <;> omega
      case rel => exact ⟨bs ++ [wr.heap.size], by simp, HS⟩
    · have hqe : bs.length = n := by omega
      have c1 : ¬ (bs.length : Int) < (n : Int) := by omega
      go_wp2_with fail
      go_ret
      exact ⟨g, rfl, bs, HQ.out, hqe⟩
theorem wp_store_pg {o : Oper} {a : Act} {w : World} {K : Act → World → Prop} {Q : Exit → Act → World → Prop} (x y : Operand) (ho : o.op = .store 141 x y)
    (g : Nat) (L L0 : List Int) (hx : a.eval x = .pointer (some ⟨g, 0, none⟩)) (hy : a.eval y = pgV L) (hg : Cel w g 141 (u32s L0)) (h0 : L0.length = 1024) (hL : L.length = 1024)
    (h : ∀ w', Cel w' g 141 (u32s L) → ButL [g] w w' → w'.heap.size = w.heap.size → K (a.put o.dst undef) w') : o.wp Try.prog a w K Q := by
  have hs : (Instr.storeAt 141 (.pointer (some ⟨g, 0, none⟩)) (.agg (u32s L).toArray)).run Try.prog w = .ok () (w.setRow g (u32s L).toArray) := by
    simp only [Instr.storeAt, Instr.sureAddr, Sem.run_bind, Sem.run_pure, Result.andThen]
    exact run_storeVar_row w g 141 141 _ _ hg (by rw [size85, List.size_toArray, u32s_len, hL]) (by rw [List.size_toArray, List.size_toArray, u32s_len, u32s_len, h0, hL]) (u32s_all L)
  unfold Oper.wp execOp
  rw [pgV] at hy
  simp only [ho, hx, hy, Sem.run_bind, Sem.run_pure, hs, Result.andThen_ok]
  exact h _ (hg.set _) (.setRow _ _ _ (by simp)) (by simp)
/-- Pages in blocks of their own. -/
structure CP (w w' : World) (g : Nat) (bs : List Nat) (Q : List (List Int)) : Prop where
  below : Below w.heap.size w w'
  hg : w.heap.size ≤ g
  cel : Cel w' g 139 (bs.map ptr)
  len : bs.length = Q.length
  pages : ∀ k, k < Q.length → w.heap.size ≤ bs.getD k 0 ∧ Cel w' (bs.getD k 0) 141 (u32s (Q.getD k []))
  full : ∀ k, k < Q.length → (Q.getD k []).length = 1024
  nodup : bs.Nodup
theorem CP.on {w w' w2 : World} {g : Nat} {bs : List Nat} {Q : List (List Int)} (h : CP w w' g bs Q) (hb : Below w'.heap.size w' w2) : CP w w2 g bs Q :=
  ⟨below_on h.below hb, h.hg, h.cel.on hb, h.len, fun k hk => ⟨(h.pages k hk).1, (h.pages k hk).2.on hb⟩, h.full, h.nodup⟩
theorem CP.start {w w' : World} {g : Nat} {bs : List Nat} {n : Nat} (h : ZP w w' g bs n) (hn : bs.length = n) : CP w w' g bs (List.replicate n zs) := by
  refine ⟨h.below, h.hg, ?_, by simp [hn], fun k hk => ?_, fun k hk => ?_, h.nodup⟩
  · have := h.cel; simpa [hn] using this
  · simp only [List.length_replicate] at hk
    rw [rep_p k n hk]
    exact h.pages _ (getD_mem (by omega))
  · simp only [List.length_replicate] at hk
    rw [rep_p k n hk, zs_len]
theorem getD_inj {bs : List Nat} (h : bs.Nodup) {j k : Nat} (hj : j < bs.length) (hk : k < bs.length) (he : bs.getD j 0 = bs.getD k 0) : j = k := by
  simp only [List.getD_eq_getElem?_getD, List.getElem?_eq_getElem hj, List.getElem?_eq_getElem hk, Option.getD_some] at he
  rcases Nat.lt_trichotomy j k with hlt | e | hlt
  · exact absurd he (List.pairwise_iff_getElem.1 h j k hj hk hlt)
  · exact e
  · exact absurd he.symm (List.pairwise_iff_getElem.1 h k j hk hj hlt)
theorem CP.set {w w' w2 : World} {g : Nat} {bs : List Nat} {Q : List (List Int)} (h : CP w w' g bs Q) (k : Nat) (hk : k < Q.length) (L : List Int) (hL : L.length = 1024) (hb : ButL [bs.getD k 0] w' w2) (hc : Cel w2 (bs.getD k 0) 141 (u32s L)) : CP w w2 g bs (Q.set k L) := by
  have hp := h.pages k hk
  refine ⟨h.below.trans (hb.below (fun x hx => by rw [List.mem_singleton] at hx; rw [hx]; exact hp.1) h.below.size), h.hg, h.cel.but hb (fun hm => by rw [List.mem_singleton] at hm; have := h.cel; rw [hm] at this; exact absurd (this.ty hp.2) (by decide)), by simp [h.len], fun j hj => ?_, fun j hj => ?_, h.nodup⟩
  · simp only [List.length_set] at hj
    by_cases e : j = k
    · subst e
      have e2 : (Q.set j L).getD j [] = L := by rw [List.getD_eq_getElem?_getD, List.getElem?_set_self hj]; rfl
      rw [e2]
      exact ⟨hp.1, hc⟩
    · have e2 : (Q.set k L).getD j [] = Q.getD j [] := by rw [List.getD_eq_getElem?_getD, List.getElem?_set_ne (Ne.symm e), ← List.getD_eq_getElem?_getD]
      rw [e2]
      refine ⟨(h.pages j hj).1, (h.pages j hj).2.but hb (fun hm => ?_)⟩
      rw [List.mem_singleton] at hm
      exact e (getD_inj h.nodup (by rw [h.len]; exact hj) (by rw [h.len]; exact hk) hm)
  · simp only [List.length_set] at hj
    by_cases e : j = k
    · subst e
      have e2 : (Q.set j L).getD j [] = L := by rw [List.getD_eq_getElem?_getD, List.getElem?_set_self hj]; rfl
      rw [e2, hL]
    · have e2 : (Q.set k L).getD j [] = Q.getD j [] := by rw [List.getD_eq_getElem?_getD, List.getElem?_set_ne (Ne.symm e), ← List.getD_eq_getElem?_getD]
      rw [e2]; exact h.full j hj
/-- Pages to be read. -/
structure RP (w : World) (g : Nat) (bs : List Nat) (Q : List (List Int)) : Prop where
  cel : Cel w g 139 (bs.map ptr)
  len : bs.length = Q.length
  pages : ∀ k, k < Q.length → Cel w (bs.getD k 0) 141 (u32s (Q.getD k []))
  full : ∀ k, k < Q.length → (Q.getD k []).length = 1024
theorem RP.on {w w2 : World} {g : Nat} {bs : List Nat} {Q : List (List Int)} (h : RP w g bs Q) (hb : Below w.heap.size w w2) : RP w2 g bs Q :=
  ⟨h.cel.on hb, h.len, fun k hk => (h.pages k hk).on hb, h.full⟩
theorem RP.below' {w w2 : World} {g : Nat} {bs : List Nat} {Q : List (List Int)} (h : RP w g bs Q) (hb : Below w.heap.size w w2) : RP w2 g bs Q := h.on hb
theorem RP.at {w : World} {g : Nat} {bs : List Nat} {Q : List (List Int)} (h : RP w g bs Q) (k : Nat) (hk : k < Q.length) : w.cell? ⟨g, k, none⟩ = some (.pointer (some ⟨bs.getD k 0, 0, none⟩)) := by
  have := h.len
  rw [h.cel.cell k, List.getElem?_map, List.getElem?_eq_getElem (by omega)]
  simp [ptr, List.getD_eq_getElem?_getD, List.getElem?_eq_getElem (show k < bs.length by omega)]
theorem set_take (Q : List (List Int)) (i : Nat) (hi : i < Q.length) : (Q.take i ++ List.replicate (Q.length - i) zs).set i (Q.getD i []) = Q.take (i + 1) ++ List.replicate (Q.length - (i + 1)) zs := by
  have h1 : (Q.take i).length = i := by rw [List.length_take]; omega
  rw [List.set_append_right _ _ (by omega), h1, Nat.sub_self]
  obtain ⟨k, hk⟩ : ∃ k, Q.length - i = k + 1 := ⟨Q.length - i - 1, by omega⟩
  have hk2 : Q.length - (i + 1) = k := by omega
  rw [hk, hk2, List.replicate_succ, List.set_cons_zero, List.take_succ_eq_append_getElem hi, List.getD_eq_getElem?_getD, List.getElem?_eq_getElem hi]
  simp only [List.append_assoc, List.singleton_append, Option.getD_some]
set_option maxRecDepth 40000 in
set_option maxHeartbeats 4000000 in
theorem clonePages_any (w : World) (g : Nat) (bs : List Nat) (Q : List (List Int)) (h : RP w g bs Q) (hq : Q.length ≤ 128) (c : Nat) :
    Calls Try.prog 48 #[.slice (some ⟨g, 0, none⟩) Q.length c] w fun x w' => ∃ g' bs', x = .returned (.slice (some ⟨g', 0, none⟩) Q.length Q.length) ∧ CP w w' g' bs' Q := by
  have n1 : (Q.length : Int) ≤ 128 := by omega
  have HZ := hid (zeroPages_128 w Q.length hq)
  have H := hid h
  clear h
  go_enter Try.func48, Try.ntmps48
  go_wp2_with fail
  refine HZ.out.mono ?_
  rintro x w1 ⟨g', bs', rfl, hz, hl⟩
  have HC := hid (CP.start hz hl)
  clear hz hl HZ
  have e0 : List.replicate Q.length zs = Q.take 0 ++ List.replicate (Q.length - 0) zs := by simp
  rw [e0] at HC
  clear e0
  go_wp2_with fail
  go_loopw [4, 5, 11] (fun _ _ i wr => ∃ j : Nat, j ≤ Q.length ∧ i = .int .i64 (j : Int) ∧ Hid (CP w wr g' bs' (Q.take j ++ List.replicate (Q.length - j) zs))) (fun _ _ i _ => Q.length - (intOf i).toNat)
  case atStart => exact ⟨0, Nat.zero_le _, rfl, HC⟩
  case round =>
    obtain ⟨j, hj, rfl, HQ⟩ := hrel
    clear HC
    by_cases hlt : j < Q.length
    · have c1 : (j : Int) < (Q.length : Int) := by omega
      have j1 : (j : Int) ≤ 128 := by omega
      have HS := hid (set_take Q j hlt)
      have HRP := hid (H.out.below' HQ.out.below)
      have y0 := HRP.out.at j hlt
      have hlen : (Q.take j ++ List.replicate (Q.length - j) zs).length = Q.length := by simp; omega
      have HL := hid hlen
      have HCP : Hid (wr.cell? ⟨g', j, none⟩ = some (.pointer (some ⟨bs'.getD j 0, 0, none⟩))) := hid (RP.at ⟨HQ.out.cel, HQ.out.len, fun k hk => (HQ.out.pages k hk).2, HQ.out.full⟩ j (by omega))
      have HPN : Hid (w.heap.size ≤ bs'.getD j 0) := hid (HQ.out.pages j (by omega)).1
      have HPC := hid (HQ.out.pages j (by omega)).2
      have HPF := hid (HQ.out.full j (by omega))
      have HSC := hid (HRP.out.pages j hlt)
      have HSF := hid (HRP.out.full j hlt)
      have HSL : Hid (bs.getD j 0 < w.heap.size) := hid (H.out.pages j hlt).lt
      have HGL : Hid (g' ≠ bs'.getD j 0) := hid (fun e => by have h1 := HQ.out.cel; rw [e] at h1; exact absurd (h1.ty HPC.out) (by decide))
      clear hlen
      generalize hQ1 : (Q.take j ++ List.replicate (Q.length - j) zs) = Q1 at *
      clear hQ1
      generalize hQ2 : Q1.getD j [] = L0 at *
      clear hQ2
      generalize hL1 : Q.getD j [] = L1 at *
      generalize hpp : bs'.getD j 0 = p' at *
      generalize bs.getD j 0 = p at *
      clear hL1
      have HX : Hid (∀ x, ButL [p'] wr x → x.cell? ⟨g', j, none⟩ = some (.pointer (some ⟨p', 0, none⟩))) := hid (fun x hx => by rw [(HQ.out.cel.but hx (by rw [List.mem_singleton]; exact HGL.out)).cell j, ← HQ.out.cel.cell j]; exact HCP.out)
      go_wp2_with fail
      refine wp_region_held_drew (S := fun x => ButL [p'] wr x) (by kernel_rfl) (.of (Below.refl _ _).drew) (fun hHeld => ?_)
      refine wpAnyH_take (i := 0) (oi := { dst := some 16, op := Op.move (Operand.tmp 3), type := 95, pos := "page.go:21", after := #[], guard := none }) (v := .slice (some ⟨g', 0, none⟩) Q.length Q.length) rfl (by kernel_rfl) (by kernel_rfl) (by kernel_rfl) (fun _ _ _ h => h) (Or.inl ⟨by rfl, by intro w hSw; go_simp⟩) (by assumption) ?_
      simp only [Act.put, List.setIfInBounds_toArray, List.set_cons_zero, List.set_cons_succ]
      refine wpAnyH_take (i := 1) (oi := { dst := some 17, op := Op.move (Operand.tmp 4), type := 3, pos := "page.go:21", after := #[], guard := none }) (v := .int .i64 (j : Int)) rfl (by kernel_rfl) (by kernel_rfl) (by kernel_rfl) (fun _ _ _ h => h) (Or.inl ⟨by rfl, by intro w hSw; go_simp⟩) (by assumption) ?_
      simp only [Act.put, List.setIfInBounds_toArray, List.set_cons_zero, List.set_cons_succ]
      refine wpAnyH_take (i := 2) (oi := { dst := some 18, op := Op.indexAddr 95 (Operand.tmp 16) (Operand.tmp 17), type := 0, pos := "page.go:21", after := #[{ on := 0, ground := Ground.data }, { on := 1, ground := Ground.data }], guard := none }) (v := .pointer (some ⟨g', j, none⟩)) rfl (by kernel_rfl) (by kernel_rfl) (by kernel_rfl) (fun _ _ _ h => h) (Or.inl ⟨by rfl, by intro w hSw; go_simp⟩) (by assumption) ?_
      simp only [Act.put, List.setIfInBounds_toArray, List.set_cons_zero, List.set_cons_succ]
      refine wpAnyH_take (i := 3) (oi := { dst := some 19, op := Op.load 139 (Operand.tmp 18), type := 139, pos := "page.go:21", after := #[{ on := 2, ground := Ground.data }], guard := none }) (v := .pointer (some ⟨p', 0, none⟩)) rfl (by kernel_rfl) (by kernel_rfl) (by kernel_rfl) (fun _ _ _ h => h) (Or.inl ⟨by rfl, by intro w hSw; have hcc := HX.out w hSw; go_simp⟩) (by assumption) ?_
      simp only [Act.put, List.setIfInBounds_toArray, List.set_cons_zero, List.set_cons_succ]
      refine wpAnyH_take (i := 4) (oi := { dst := some 20, op := Op.move (Operand.tmp 5), type := 139, pos := "page.go:21", after := #[], guard := none }) (v := .pointer (some ⟨p, 0, none⟩)) rfl (by kernel_rfl) (by kernel_rfl) (by kernel_rfl) (fun _ _ _ h => h) (Or.inl ⟨by rfl, by intro w hSw; go_simp⟩) (by assumption) ?_
      simp only [Act.put, List.setIfInBounds_toArray, List.set_cons_zero, List.set_cons_succ]
      refine wpAnyH_take (i := 5) (oi := { dst := some 21, op := Op.nilCheck (Operand.tmp 20), type := 0, pos := "page.go:21", after := #[{ on := 4, ground := Ground.data }], guard := none }) (v := .pointer (some ⟨p, 0, none⟩)) rfl (by kernel_rfl) (by kernel_rfl) (by kernel_rfl) (fun _ _ _ h => h) (Or.inl ⟨by rfl, by intro w hSw; go_simp⟩) (by assumption) ?_
      simp only [Act.put, List.setIfInBounds_toArray, List.set_cons_zero, List.set_cons_succ]
      refine wpAnyH_take (i := 6) (oi := { dst := some 22, op := Op.load 141 (Operand.tmp 21), type := 141, pos := "page.go:21", after := #[{ on := 5, ground := Ground.data }], guard := none }) (v := pgV L1) rfl (by kernel_rfl) (by kernel_rfl) (by kernel_rfl) (fun _ _ _ h => h) (yieldsIf_load_mid (by rfl) _ _ rfl _ _ rfl _ _ (fun w hSw => (HSC.out.but hSw (by rw [List.mem_singleton]; have := HSL.out; have := HPN.out; omega)).range) under85 rfl (by rw [size85, u32s_len, HSF.out])) (by assumption) ?_
      simp only [Act.put, List.setIfInBounds_toArray, List.set_cons_zero, List.set_cons_succ]
      refine wpAnyH_take (i := 7) (oi := { dst := some 23, op := Op.nilCheck (Operand.tmp 19), type := 0, pos := "page.go:21", after := #[{ on := 3, ground := Ground.data }, { on := 0, ground := Ground.phase }, { on := 1, ground := Ground.phase }, { on := 2, ground := Ground.phase }, { on := 3, ground := Ground.phase }, { on := 4, ground := Ground.phase }, { on := 5, ground := Ground.phase }, { on := 6, ground := Ground.phase }], guard := none }) (v := .pointer (some ⟨p', 0, none⟩)) rfl (by kernel_rfl) (by kernel_rfl) (by kernel_rfl) (fun _ _ _ h => h) (Or.inl ⟨by rfl, by intro w hSw; go_simp⟩) (by assumption) ?_
      simp only [Act.put, List.setIfInBounds_toArray, List.set_cons_zero, List.set_cons_succ]
      refine wpAnyH_ready (rs := [8]) (by kernel_rfl) (by simp) (AllReadyH.cons (o := { dst := none, op := Op.store 141 (Operand.tmp 23) (Operand.tmp 22), type := 0, pos := "page.go:21", after := #[{ on := 7, ground := Ground.data }, { on := 6, ground := Ground.data }, { on := 0, ground := Ground.phase }, { on := 1, ground := Ground.phase }, { on := 2, ground := Ground.phase }, { on := 3, ground := Ground.phase }, { on := 4, ground := Ground.phase }, { on := 5, ground := Ground.phase }, { on := 6, ground := Ground.phase }], guard := none }) rfl (fun KQ hK => ?_) AllReadyH.nil)
      rw [if_pos (by rfl)]
      refine wp_store_pg _ _ rfl p' L1 L0 rfl rfl (HPC.out.on (Below.refl _ _).drew) HPF.out HSF.out ?_
      intro w3 hc3 hb3 hs3
      have hS3 : ButL [p'] wr w3 := ButL.trans (.of (Below.refl _ _).drew) hb3
      refine hK.out _ _ hS3 (fun hHeld => ?_)
      clear hK KQ
      try simp only [Act.put]
      refine wpAnyH_done (by kernel_rfl) ?_ _
      clear hHeld
      have HN := hid (HQ.out.set j (by rw [HL.out]; exact hlt) L1 HSF.out (hpp ▸ hS3) (hpp ▸ hc3))
      rw [HS.out] at HN
      clear hc3 hb3 hs3 hS3 HX
      go_wp2_with fail
      go_roundw
      case measure => simp [intOf] <;> omega
      case rel => exact ⟨j + 1, by omega, by go_num, HN⟩
    · obtain rfl : j = Q.length := by omega
      have hh : Q.take Q.length ++ List.replicate (Q.length - Q.length) zs = Q := by simp
      rw [hh] at HQ
      go_wp2_with fail
      go_ret
      exact ⟨g', bs', rfl, HQ.out⟩
end Go.Proofs.Ytajkhkaidjjioaa
