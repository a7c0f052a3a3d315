import Derived.Test.YtbjinmlelchmgaaGreatDoorP31
import Derived.Test.YtbjinmlelchmgaaGreatDoorP01
namespace Go.Proofs.YtbjinmlelchmgaaGreatDoor
open Go.RowKit
set_option maxRecDepth 100000
set_option maxHeartbeats 8000000
def endB : List UInt8 := [101, 110, 100]
def ends4 : List (List UInt8) := [endB, endB, endB, endB]
structure RF (w : World) (g c e1 e2 : Nat) (L : List Iw) : Prop where
  glt : g < w.heap.size
  cap : L.length + 2 ≤ c
  at_ : ∀ (k : Nat) (x : Iw), L[k]? = some x → w.cell? ⟨g, k, none⟩ = some x.vl ∧ StrsAt w (some ⟨x.g, 0, none⟩) x.r ∧ StrsAt w (some ⟨x.g, x.r.length, none⟩) ends4 ∧ x.r.length + 4 ≤ x.c
  l1 : w.cell? ⟨g, L.length, none⟩ = some (.slice (some ⟨e1, 0, none⟩) 1 1)
  l2 : w.cell? ⟨g, L.length + 1, none⟩ = some (.slice (some ⟨e2, 0, none⟩) 1 1)
  s1 : StrsAt w (some ⟨e1, 0, none⟩) [endB]
  s2 : StrsAt w (some ⟨e2, 0, none⟩) [endB]
theorem RF.on {w w' : World} {g c e1 e2 : Nat} {L : List Iw} (h : RF w g c e1 e2 L) (hb : Below w.heap.size w w') : RF w' g c e1 e2 L :=
  ⟨Nat.lt_of_lt_of_le h.glt hb.size, h.cap, fun k x hx => ⟨by rw [hb.cell (p := ⟨g, k, none⟩) h.glt]; exact (h.at_ k x hx).1, (h.at_ k x hx).2.1.on hb, (h.at_ k x hx).2.2.1.on hb, (h.at_ k x hx).2.2.2⟩,
    by rw [hb.cell (p := ⟨g, L.length, none⟩) h.glt]; exact h.l1, by rw [hb.cell (p := ⟨g, L.length + 1, none⟩) h.glt]; exact h.l2, h.s1.on hb, h.s2.on hb⟩
theorem strs_mid {w : World} {B : Nat} {g n c : Nat} {l m : List (List UInt8)} (h : w.ownsRow B 9 1 (.slice (some ⟨g, 0, none⟩) n c) n (strsV l ++ strsV m)) : StrsAt w (some ⟨g, 0, none⟩) l ∧ StrsAt w (some ⟨g, l.length, none⟩) m := by
  have hr := own_rng h
  refine ⟨.inr ⟨g, 0, rfl, (own_lt2 h rfl).2, fun i hi => hr i _ ?_⟩, .inr ⟨g, l.length, rfl, (own_lt2 h rfl).2, fun i hi => ?_⟩⟩
  · rw [List.getElem?_append_left (by rw [strsV_length]; exact hi)]
    simp [strsV, hi]
  · have := hr (l.length + i) (.string ⟨m[i].toArray⟩) (by
      rw [List.getElem?_append_right (by rw [strsV_length]; omega), strsV_length, Nat.add_sub_cancel_left]
      simp [strsV, hi])
    rw [Nat.zero_add] at this
    exact this
theorem box_strs {w : World} {g : Nat} (h : Cel w g 9 [endV]) : StrsAt w (some ⟨g, 0, none⟩) [endB] :=
  .inr ⟨g, 0, rfl, h.lt, fun i hi => by
    have hi2 : i < 1 := hi
    obtain rfl : i = 0 := by omega
    rw [Nat.zero_add, h.cell 0]
    rfl⟩
theorem KS.rf {X w : World} {R : List Rr} {H : List Hk} {v : Value} {e1 e2 : Nat} {L : List Iw} (h : KS X w (rowsR v e1 e2 L ++ R) H) : ∃ g c, v = .slice (some ⟨g, 0, none⟩) (L.length + 2) c ∧ RF w g c e1 e2 L := by
  have h0 : w.ownsRow X.heap.size 24 1 v (L.length + 2) (L.map Iw.vl ++ [.slice (some ⟨e1, 0, none⟩) 1 1, .slice (some ⟨e2, 0, none⟩) 1 1]) := h.mem (i := 0) rfl
  obtain ⟨g, c, hv⟩ := own_some2 h0 (by decide) (by omega)
  refine ⟨g, c, hv, ?_⟩
  have h0' : w.ownsRow X.heap.size 24 1 (.slice (some ⟨g, 0, none⟩) (L.length + 2) c) (L.length + 2) (L.map Iw.vl ++ [.slice (some ⟨e1, 0, none⟩) 1 1, .slice (some ⟨e2, 0, none⟩) 1 1]) := by
    rw [← hv]; exact h0
  have hr := own_rng h0'
  have hlen : (L.map Iw.vl).length = L.length := List.length_map _
  refine ⟨(own_lt2 h0' rfl).2, own_cap h0', fun k x hx => ?_, ?_, ?_, box_strs (h.cel 1 rfl), box_strs (h.cel 2 rfl)⟩
  · have hk := (List.getElem?_eq_some_iff.1 hx).1
    have hw := h.inn (r := x.row) (by
      refine List.mem_append_left _ ?_
      exact List.mem_cons_of_mem _ (List.mem_cons_of_mem _ (List.mem_cons_of_mem _ (List.mem_map.2 ⟨x, List.mem_of_getElem? hx, rfl⟩))))
    have hw2 : w.ownsRow X.heap.size 9 1 (.slice (some ⟨x.g, 0, none⟩) (x.r.length + 4) x.c) (x.r.length + 4) (strsV x.r ++ strsV ends4) := hw
    refine ⟨?_, (strs_mid hw2).1, (strs_mid hw2).2, own_cap hw2⟩
    have := hr k x.vl (by rw [List.getElem?_append_left (by rw [hlen]; exact hk), List.getElem?_map, hx]; rfl)
    rw [Nat.zero_add] at this
    exact this
  · have := hr L.length (.slice (some ⟨e1, 0, none⟩) 1 1) (by rw [List.getElem?_append_right (by rw [hlen]; exact Nat.le_refl _), hlen, Nat.sub_self]; rfl)
    rw [Nat.zero_add] at this
    exact this
  · have := hr (L.length + 1) (.slice (some ⟨e2, 0, none⟩) 1 1) (by rw [List.getElem?_append_right (by rw [hlen]; omega), hlen, Nat.add_sub_cancel_left]; rfl)
    rw [Nat.zero_add] at this
    exact this
theorem RF.rows {w : World} {g c e1 e2 : Nat} {L : List Iw} (h : RF w g c e1 e2 L) : RowsAt w (some ⟨g, 0, none⟩) (L.map Iw.r) := by
  refine .inr ⟨g, 0, rfl, h.glt, fun i hi => ?_⟩
  have hi2 : i < L.length := by simpa using hi
  obtain ⟨h1, h2, _⟩ := h.at_ i L[i] (List.getElem?_eq_getElem hi2)
  refine ⟨some ⟨L[i].g, 0, none⟩, L[i].c, ?_, ?_⟩
  · rw [Nat.zero_add, h1, List.getElem_map]; rfl
  · rw [List.getElem_map]; exact h2
theorem four_strs {w : World} {g : Nat} (h : Cel w g 9 [endV, endV, endV, endV]) : StrsAt w (some ⟨g, 0, none⟩) ends4 :=
  .inr ⟨g, 0, rfl, h.lt, fun i hi => by
    have hi2 : i < 4 := hi
    rw [Nat.zero_add, h.cell i]
    match i, hi2 with
    | 0, _ => rfl
    | 1, _ => rfl
    | 2, _ => rfl
    | 3, _ => rfl⟩
theorem unchanged_any (w : World) (g c e1 e2 : Nat) (L : List Iw) (ar : Option Addr) (cr : Nat) (hL : L.length ≤ 10000000) (hr : ∀ x ∈ L, x.r.length ≤ 10000000) (h : RF w g c e1 e2 L) (hat : RowsAt w ar (L.map Iw.r)) :
    Calls Tryz.prog 25 #[.slice (some ⟨g, 0, none⟩) (L.length + 2) c, .slice ar L.length cr] w fun e w' => e = .returned (.bool true) ∧ Below w.heap.size w w' := by
  have q1 : (L.length : Int) ≤ 10000000 := by omega
  have HRF0 := hid h
  have HRR := hid hr
  have HAT : Hid (∀ (k : Nat) (x : Iw), L[k]? = some x → ∃ b o ai ci, ar = some ⟨b, o, none⟩ ∧ b < w.heap.size ∧ w.cell? ⟨b, o + k, none⟩ = some (.slice ai x.r.length ci) ∧ StrsAt w ai x.r) := hid (fun k x hx => by
    obtain ⟨hk, he⟩ := List.getElem?_eq_some_iff.1 hx
    rcases hat with h0 | ⟨b, o, e, hb, hc⟩
    · have : L = [] := by simpa using h0
      subst this; simp at hk
    · obtain ⟨ai, ci, h1, h2⟩ := hc k (by simpa using hk)
      rw [List.getElem_map, he] at h1 h2
      exact ⟨b, o, ai, ci, e, hb, h1, h2⟩)
  clear h hat hr
  go_enter Tryz.func25, Tryz.ntmps25
  go_wp2_with fail
  go_loopw [4, 5, 6] (fun _ i _ wr => ∃ (k : Nat), k ≤ L.length ∧ i = .int .i64 (k : Int) ∧ Hid (Below w.heap.size w wr)) (fun _ i _ _ => L.length - (intOf i).toNat)
  case atStart => exact ⟨0, Nat.zero_le _, rfl, hid (Below.refl _ _)⟩
  case round =>
    obtain ⟨k, hk, rfl, HB⟩ := hrel
    by_cases hlt : k < L.length
    · have q2 : (k : Int) < (L.length : Int) := by omega
      obtain ⟨x, hx⟩ : ∃ x, L[k]? = some x := ⟨_, List.getElem?_eq_getElem hlt⟩
      have hxl := HRR.out x (List.mem_of_getElem? hx)
      have q3 : (x.r.length : Int) ≤ 10000000 := by omega
      have HRF := hid (((HRF0.out.on HB.out).at_ k x hx))
      obtain ⟨b, o, ai, ci, rfl, hb, hc, hs⟩ := HAT.out k x hx
      have HRS := hid (hs.on HB.out)
      have z1 : wr.cell? ⟨g, k, none⟩ = some (.slice (some ⟨x.g, 0, none⟩) x.r.length x.c) := HRF.out.1
      have z2 : wr.cell? ⟨b, o + k, none⟩ = some (.slice ai x.r.length ci) := by rw [HB.out.cell (p := ⟨b, o + k, none⟩) hb]; exact hc
      have hcp := HRF.out.2.2.2
      have q4 : (x.r.length : Int) + 4 ≤ (x.c : Int) := by omega
      have hbr : b < wr.heap.size := Nat.lt_of_lt_of_le hb HB.out.size
      have hgr : g < wr.heap.size := (HRF0.out.on HB.out).glt
      have HC := hid (fun (w' : World) (hw : Below wr.heap.size wr w') => And.intro ((hw.cell (p := ⟨g, k, none⟩) hgr).trans z1) ((hw.cell (p := ⟨b, o + k, none⟩) hbr).trans z2))
      have HS26 := hid (fun (w : World) (a1 a2 : Option Addr) (c1 c2 : Nat) (s1 : StrsAt w a1 x.r) (s2 : StrsAt w a2 x.r) => same_any w a1 a2 x.r.length c1 c2 x.r rfl (by omega) s1 s2)
      have HS4 := hid (fun (w : World) (a1 a2 : Option Addr) (c1 c2 : Nat) (s1 : StrsAt w a1 ends4) (s2 : StrsAt w a2 ends4) => same_any w a1 a2 4 c1 c2 ends4 rfl (by omega) s1 s2)
      clear hc hs hx hb hbr hgr
      go_upto_region 5 with fail
      clear z1 z2
      refine wp_region_held_drew (S := fun w => Below wr.heap.size wr w) (by kernel_rfl) (Below.refl _ _).drew (fun hHeld => ?_)
      refine tk 0 ⟨some 18, .move (.tmp 0), 32, "law.go:207", #[], none⟩ (.slice (some ⟨g, 0, none⟩) (L.length + 2) c) ?_
      simp only [Act.put, List.setIfInBounds_toArray, List.set_cons_zero, List.set_cons_succ]
      refine tk 1 ⟨some 19, .move (.tmp 5), 3, "law.go:207", #[], none⟩ (.int .i64 (k : Int)) ?_
      simp only [Act.put, List.setIfInBounds_toArray, List.set_cons_zero, List.set_cons_succ]
      refine tk 2 ⟨some 20, .indexAddr 32 (.tmp 18) (.tmp 19), 0, "law.go:207", #[⟨0, .data⟩, ⟨1, .data⟩], none⟩ (.pointer (some ⟨g, k, none⟩)) ?_ (hy := Or.inl ⟨by rfl, by intro w hSw; have t0 : (k : Int) < (L.length : Int) + 2 := (by omega); go_simp⟩)
      simp only [Act.put, List.setIfInBounds_toArray, List.set_cons_zero, List.set_cons_succ]
      refine tk 3 ⟨some 21, .load 24 (.tmp 20), 24, "law.go:207", #[⟨2, .data⟩], none⟩ (.slice (some ⟨x.g, 0, none⟩) x.r.length x.c) ?_ (hy := Or.inl ⟨by rfl, by intro w hSw; have k1 := (HC.out w hSw).1; go_simp⟩)
      simp only [Act.put, List.setIfInBounds_toArray, List.set_cons_zero, List.set_cons_succ]
      refine tk 4 ⟨some 22, .move (.tmp 1), 32, "law.go:207", #[], none⟩ (.slice (some ⟨b, o, none⟩) L.length cr) ?_
      simp only [Act.put, List.setIfInBounds_toArray, List.set_cons_zero, List.set_cons_succ]
      refine tk 5 ⟨some 23, .move (.tmp 5), 3, "law.go:207", #[], none⟩ (.int .i64 (k : Int)) ?_
      simp only [Act.put, List.setIfInBounds_toArray, List.set_cons_zero, List.set_cons_succ]
      refine tk 6 ⟨some 24, .indexAddr 32 (.tmp 22) (.tmp 23), 0, "law.go:207", #[⟨4, .data⟩, ⟨5, .data⟩], none⟩ (.pointer (some ⟨b, o + k, none⟩)) ?_
      simp only [Act.put, List.setIfInBounds_toArray, List.set_cons_zero, List.set_cons_succ]
      refine tk 7 ⟨some 25, .load 24 (.tmp 24), 24, "law.go:207", #[⟨6, .data⟩], none⟩ (.slice ai x.r.length ci) ?_ (hy := Or.inl ⟨by rfl, by intro w hSw; have k2 := (HC.out w hSw).2; go_simp⟩)
      simp only [Act.put, List.setIfInBounds_toArray, List.set_cons_zero, List.set_cons_succ]
      refine wpAnyH_ready (rs := [8]) (by kernel_rfl) (by simp) (AllReadyH.cons (o := ⟨some 26, .call { callee := .value (.func 26), args := #[.tmp 21, .tmp 25], argTypes := #[24, 24] }, 4, "law.go:207", #[⟨3, .data⟩, ⟨7, .data⟩], none⟩) rfl (fun KQ hK => ?_) AllReadyH.nil)
      go_simp
      refine (HS26.out _ _ _ _ _ (HRF.out.2.1.on hHeld) (HRS.out.on hHeld)).mono ?_
      rintro e w6 ⟨rfl, hb6⟩
      have HB6 := hid (Below.trans hHeld (hb6.mono hHeld.size))
      clear hb6
      go_wp2_with fail
      refine hK.out _ _ HB6.out (fun hHeld => ?_)
      clear hK KQ
      try simp only [Act.put, List.setIfInBounds_toArray, List.set_cons_zero, List.set_cons_succ]
      refine tk 9 ⟨some 27, .unOp .not 4 (.tmp 26), 4, "law.go:207", #[⟨8, .data⟩], none⟩ (.bool false) ?_
      simp only [Act.put, List.setIfInBounds_toArray, List.set_cons_zero, List.set_cons_succ]
      refine tk 10 ⟨some 28, .move (.tmp 27), 4, "law.go:207", #[⟨9, .data⟩, ⟨8, .chain⟩], none⟩ (.bool false) ?_
      simp only [Act.put, List.setIfInBounds_toArray, List.set_cons_zero, List.set_cons_succ]
      refine tk 11 ⟨some 29, .move (.tmp 0), 32, "law.go:207", #[⟨10, .guard⟩], some (10, false)⟩ (.slice (some ⟨g, 0, none⟩) (L.length + 2) c) ?_
      simp only [Act.put, List.setIfInBounds_toArray, List.set_cons_zero, List.set_cons_succ]
      refine tk 12 ⟨some 30, .move (.tmp 5), 3, "law.go:207", #[⟨10, .guard⟩], some (10, false)⟩ (.int .i64 (k : Int)) ?_
      simp only [Act.put, List.setIfInBounds_toArray, List.set_cons_zero, List.set_cons_succ]
      refine tk 13 ⟨some 31, .indexAddr 32 (.tmp 29) (.tmp 30), 0, "law.go:207", #[⟨11, .data⟩, ⟨12, .data⟩, ⟨10, .guard⟩], some (10, false)⟩ (.pointer (some ⟨g, k, none⟩)) ?_ (hy := Or.inl ⟨by rfl, by intro w hSw; have t0 : (k : Int) < (L.length : Int) + 2 := (by omega); go_simp⟩)
      simp only [Act.put, List.setIfInBounds_toArray, List.set_cons_zero, List.set_cons_succ]
      refine tk 14 ⟨some 32, .load 24 (.tmp 31), 24, "law.go:207", #[⟨13, .data⟩, ⟨10, .guard⟩], some (10, false)⟩ (.slice (some ⟨x.g, 0, none⟩) x.r.length x.c) ?_ (hy := Or.inl ⟨by rfl, by intro w hSw; have k1 := (HC.out w hSw).1; go_simp⟩)
      simp only [Act.put, List.setIfInBounds_toArray, List.set_cons_zero, List.set_cons_succ]
      refine tk 15 ⟨some 33, .move (.tmp 6), 3, "law.go:207", #[⟨10, .guard⟩], some (10, false)⟩ (.int .i64 (x.r.length : Int)) ?_
      simp only [Act.put, List.setIfInBounds_toArray, List.set_cons_zero, List.set_cons_succ]
      refine tk 16 ⟨some 34, .move (.tmp 6), 3, "law.go:207", #[⟨10, .guard⟩], some (10, false)⟩ (.int .i64 (x.r.length : Int)) ?_
      simp only [Act.put, List.setIfInBounds_toArray, List.set_cons_zero, List.set_cons_succ]
      refine tk 17 ⟨some 35, .binOp .add 3 (.tmp 34) (.const (.int .i64 4)) 3, 3, "law.go:207", #[⟨16, .data⟩, ⟨10, .guard⟩], some (10, false)⟩ (.int .i64 ((x.r.length : Int) + 4)) ?_ (hy := Or.inl ⟨by rfl, by intro w hSw; have t0 : IntKind.i64.wrap ((x.r.length : Int) + 4) = (x.r.length : Int) + 4 := (by rw [IntKind.wrap_i64]; omega); go_simp⟩)
      simp only [Act.put, List.setIfInBounds_toArray, List.set_cons_zero, List.set_cons_succ]
      refine tk 18 ⟨some 36, .slice 24 (.tmp 32) (some (.tmp 33)) (some (.tmp 35)) none, 24, "law.go:207", #[⟨14, .data⟩, ⟨15, .data⟩, ⟨17, .data⟩, ⟨10, .guard⟩], some (10, false)⟩ (.slice (some ⟨x.g, x.r.length, none⟩) 4 (x.c - x.r.length)) ?_ (hy := Or.inl ⟨by rfl, by intro w hSw; have t0 : (0 : Int) ≤ (x.r.length : Int) + 4 := (by omega); have tN : ((x.r.length : Int) + 4).toNat = x.r.length + 4 := (by omega); have tE : ¬ (x.c = x.r.length) := (by omega); go_simp⟩)
      simp only [Act.put, List.setIfInBounds_toArray, List.set_cons_zero, List.set_cons_succ]
      refine wpAnyH_ready (rs := [19]) (by kernel_rfl) (by simp) (AllReadyH.cons (o := ⟨some 37, .buildSlice 24 4 #[(0, .const (.string { data := #[101, 110, 100] })), (1, .const (.string { data := #[101, 110, 100] })), (2, .const (.string { data := #[101, 110, 100] })), (3, .const (.string { data := #[101, 110, 100] }))], 24, "law.go:207", #[⟨10, .guard⟩], some (10, false)⟩) rfl (fun KQ hK => ?_) AllReadyH.nil)
      go_simp
      have HC7 := hid (cel_new w6 9 [.string ⟨#[101, 110, 100]⟩, .string ⟨#[101, 110, 100]⟩, .string ⟨#[101, 110, 100]⟩, .string ⟨#[101, 110, 100]⟩])
      have HB7 := hid (HB6.out.alloc HB6.out.size (.cells #[.string ⟨#[101, 110, 100]⟩, .string ⟨#[101, 110, 100]⟩, .string ⟨#[101, 110, 100]⟩, .string ⟨#[101, 110, 100]⟩] 9))
      refine hK.out _ _ HB7.out (fun hHeld => ?_)
      clear hK KQ
      try simp only [Act.put, List.setIfInBounds_toArray, List.set_cons_zero, List.set_cons_succ]
      generalize w6.alloc _ = w7 at *
      generalize w6.heap.size = g7 at *
      refine wpAnyH_ready (rs := [20]) (by kernel_rfl) (by simp) (AllReadyH.cons (o := ⟨some 38, .call { callee := .value (.func 26), args := #[.tmp 36, .tmp 37], argTypes := #[24, 24] }, 4, "law.go:207", #[⟨18, .data⟩, ⟨19, .data⟩, ⟨10, .chain⟩, ⟨10, .guard⟩], some (10, false)⟩) rfl (fun KQ hK => ?_) AllReadyH.nil)
      go_simp
      refine (HS4.out _ _ _ _ _ (HRF.out.2.2.1.on HB7.out) (four_strs HC7.out)).mono ?_
      rintro e w8 ⟨rfl, hb8⟩
      have HB8 := hid (Below.trans HB7.out (hb8.mono HB7.out.size))
      clear hb8
      go_wp2_with fail
      refine hK.out _ _ HB8.out (fun hHeld => ?_)
      clear hK KQ
      try simp only [Act.put, List.setIfInBounds_toArray, List.set_cons_zero, List.set_cons_succ]
      refine tk 21 ⟨some 39, .unOp .not 4 (.tmp 38), 4, "law.go:207", #[⟨20, .data⟩, ⟨10, .guard⟩], some (10, false)⟩ (.bool false) ?_
      simp only [Act.put, List.setIfInBounds_toArray, List.set_cons_zero, List.set_cons_succ]
      refine tk 22 ⟨some 40, .pick (.tmp 28) (.const (.bool true)) (.tmp 39), 4, "law.go:207", #[⟨10, .data⟩, ⟨21, .data⟩], none⟩ (.bool false) ?_
      simp only [Act.put, List.setIfInBounds_toArray, List.set_cons_zero, List.set_cons_succ]
      refine wpAnyH_done (by kernel_rfl) ?_ _
      go_wp2_with fail
      go_roundw
      case measure => simp [intOf] <;> omega
      case rel => exact ⟨k + 1, by omega, by simp, hid (HB.out.trans (HB8.out.mono HB.out.size))⟩
    · have q2 : (L.length : Int) ≤ (k : Int) := by omega
      have z1 := (HRF0.out.on HB.out).l1
      have HSE := hid (fun (w : World) (a1 a2 : Option Addr) (c1 c2 : Nat) (s1 : StrsAt w a1 [endB]) (s2 : StrsAt w a2 [endB]) => same_any w a1 a2 1 c1 c2 [endB] rfl (by omega) s1 s2)
      go_wp2_with fail
      refine (HSE.out _ _ _ _ _ ((HRF0.out.on HB.out).s1.on (below_one wr (.cells #[endV] 9))) (box_strs (cel_new wr 9 [endV]))).mono ?_
      rintro e w5 ⟨rfl, hb5⟩
      have HB5 := hid (HB.out.trans (((below_one wr (.cells #[endV] 9)).trans (hb5.mono (below_one wr (.cells #[endV] 9)).size)).mono HB.out.size))
      clear hb5 z1
      have z2 := (HRF0.out.on HB5.out).l2
      go_wp2_with fail
      refine (HSE.out _ _ _ _ _ ((HRF0.out.on HB5.out).s2.on (below_one w5 (.cells #[endV] 9))) (box_strs (cel_new w5 9 [endV]))).mono ?_
      rintro e w6 ⟨rfl, hb6⟩
      have HB6 := hid (HB5.out.trans (((below_one w5 (.cells #[endV] 9)).trans (hb6.mono (below_one w5 (.cells #[endV] 9)).size)).mono HB5.out.size))
      clear hb6 z2
      go_wp2_with fail
      go_ret
      exact ⟨rfl, HB6.out⟩
end Go.Proofs.YtbjinmlelchmgaaGreatDoor
namespace Go.Proofs.YtbjinmlelchmgaaGreatDoor
open Go.RowKit
set_option maxRecDepth 100000
set_option maxHeartbeats 8000000
def cnt (rows : List (List (List UInt8))) : Nat := (rows.map List.length).sum + rows.length
structure RB (rows : List (List (List UInt8))) (N : Nat) : Prop where
  hN : cnt rows = N
  le : N ≤ 1048576
  c : ∀ r ∈ rows, ∀ x ∈ r, x.length + N ≤ 1048584
theorem RB.of {rows : List (List (List UInt8))} (h : T.Z.wt rows ≤ 1048576) : RB rows (cnt rows) := by
  have h0 := T.Z.rows_in rows
  refine ⟨rfl, by unfold cnt; omega, fun r hr x hx => ?_⟩
  have := T.Z.all_in rows r x hr hx
  unfold cnt
  omega
theorem sum_set (l : List (List (List UInt8))) (k : Nat) (r r' : List (List UInt8)) (h : l[k]? = some r) (hl : r'.length = r.length) : ((l.set k r').map List.length) = l.map List.length := by
  rw [List.map_set, hl]
  refine List.ext_getElem? fun i => ?_
  rw [List.getElem?_set]
  split
  · rename_i hki
    subst hki
    split
    · rw [List.getElem?_map, h]; rfl
    · rename_i h2
      rw [List.getElem?_eq_none (by omega)]
  · rfl
theorem RB.set {rows : List (List (List UInt8))} {N k : Nat} {c y : List UInt8} {r : List (List UInt8)} (h : RB rows N) (hk : rows[k]? = some (c :: r)) (hy : y.length ≤ 7) : RB (rows.set k (y :: r)) N := by
  refine ⟨?_, h.le, fun r' hr x hx => ?_⟩
  · unfold cnt
    rw [sum_set rows k (c :: r) (y :: r) hk (by simp), List.length_set]
    exact h.hN
  · rcases List.mem_or_eq_of_mem_set hr with hr | rfl
    · exact h.c r' hr x hx
    · rcases List.mem_cons.1 hx with rfl | hx
      · have := h.le
        omega
      · exact h.c _ (List.mem_of_getElem? hk) x (List.mem_cons_of_mem _ hx)
theorem prod_bd2 (c m : Nat) (h : c + m ≤ 1048584) : c * (m + 2) ≤ 600000000000 := by
  rcases Nat.le_total c 524288 with h1 | h1
  · have : c * (m + 2) ≤ 524288 * 1048586 := Nat.mul_le_mul h1 (by omega)
    omega
  · have : c * (m + 2) ≤ 1048584 * 524298 := Nat.mul_le_mul (by omega) (by omega)
    omega
theorem RB.bounds {rows : List (List (List UInt8))} {N : Nat} (h : RB rows N) :
    rows.length ≤ 1048576 ∧ (∀ r ∈ rows, r.length ≤ 1048576 ∧ ∀ x ∈ r, x.length ≤ 1048584) ∧ (∀ r ∈ rows, (T.fills (T.widths rows) r r.length).length ≤ 1000000000000) ∧ (T.columns rows).length ≤ 1000000000000 := by
  have h0 := h.hN
  have hle := h.le
  unfold cnt at h0
  have hm : ∀ r ∈ rows, ∀ c ∈ r, c.length ≤ 1048584 - N := fun r hr c hc => by
    have := h.c r hr c hc
    omega
  have hw := T.Z.widths_le _ rows hm
  refine ⟨by omega, fun r hr => ⟨by have := T.Z.len_in rows r hr; omega, fun x hx => by have := hm r hr x hx; omega⟩, fun r hr => ?_, ?_⟩
  · have h1 := T.Z.fills_bd _ _ hw r (hm r hr) r.length
    have h2 := T.Z.len_in rows r hr
    have h3 := prod_bd2 r.length (1048584 - N) (by omega)
    omega
  · have h1 := T.Z.table_bd _ _ hw rows hm
    have h3 := prod_bd2 (rows.map List.length).sum (1048584 - N) (by omega)
    show (T.table rows (T.widths rows)).length ≤ _
    omega
theorem set_self {α : Type} (l : List α) (k : Nat) (a : α) (h : l[k]? = some a) : l.set k a = l := by
  refine List.ext_getElem? fun i => ?_
  rw [List.getElem?_set]
  split
  · rename_i hki
    subst hki
    have hlt := (List.getElem?_eq_some_iff.1 h).1
    rw [if_pos hlt, h]
  · rfl
theorem KS.setrow {X w : World} {R : List Rr} {H : List Hk} {v : Value} {e1 e2 : Nat} {L : List Iw} (h : KS X w (rowsR v e1 e2 L ++ R) H) {k : Nat} {x : Iw} (hx : L[k]? = some x) {c : List UInt8} {r : List (List UInt8)} (hr : x.r = c :: r) (y : List UInt8) :
    KS X (w.setCell ⟨x.g, 0, none⟩ (.string ⟨y.toArray⟩)) (rowsR v e1 e2 (L.set k ⟨x.g, x.c, y :: r⟩) ++ R) H ∧ (L.set k ⟨x.g, x.c, y :: r⟩).map Iw.vl = L.map Iw.vl := by
  have hk := (List.getElem?_eq_some_iff.1 hx).1
  have hz : (rowsR v e1 e2 L ++ R)[k + 3]? = some x.row := by
    show (L.map Iw.row ++ R)[k]? = _
    rw [List.getElem?_append_left (by rw [List.length_map]; exact hk), List.getElem?_map, hx]
    rfl
  have h1 := h.set1 (k + 3) hz 0 (.string ⟨y.toArray⟩)
  have hvl : (⟨x.g, x.c, y :: r⟩ : Iw).vl = x.vl := by unfold Iw.vl; rw [hr]; rfl
  have hm : (L.set k ⟨x.g, x.c, y :: r⟩).map Iw.vl = L.map Iw.vl := by
    rw [List.map_set, hvl]
    exact set_self _ _ _ (by rw [List.getElem?_map, hx]; rfl)
  refine ⟨?_, hm⟩
  have e : rowsR v e1 e2 (L.set k ⟨x.g, x.c, y :: r⟩) ++ R = (rowsR v e1 e2 L ++ R).set (k + 3) ⟨9, 1, .slice (some ⟨x.g, 0, none⟩) (x.r.length + 4) x.c, x.r.length + 4, (strsV x.r ++ rp 4 [endV]).set 0 (.string ⟨y.toArray⟩)⟩ := by
    unfold rowsR
    rw [hm, List.length_set, List.map_set]
    simp only [List.cons_append, List.set_cons_succ]
    rw [List.set_append_left _ _ (by rw [List.length_map]; exact hk)]
    unfold Iw.row
    rw [hr]
    rfl
  rw [e]
  exact h1
theorem own_pre {w : World} {B : Nat} {g n c : Nat} {l m : List UInt8} (h : w.ownsRow B 5 1 (.slice (some ⟨g, 0, none⟩) n c) n (Lib.byteCells (l ++ m))) : AtB w (some ⟨g, 0, none⟩) l :=
  .inr ⟨g, 0, rfl, (own_lt2 h rfl).2, fun i hi => own_rng h i _ (by
    rw [bytes_app, List.getElem?_append_left (by rw [bytes_len]; exact hi)]
    simp [Lib.byteCells, hi])⟩
theorem bytes_set (l : List UInt8) (i : Nat) (b : UInt8) : (Lib.byteCells l).set i (.int .u8 (b.toNat : Int)) = Lib.byteCells (l.set i b) := by
  simp [Lib.byteCells, List.map_set]
theorem xor1 : ∀ n : Nat, n < 256 → bits .xor .u8 (n : Int) 1 = ((UInt8.ofNat (n ^^^ 1)).toNat : Int) := by
  have h : ∀ a : Fin 256, bits .xor .u8 (a.val : Int) 1 = ((UInt8.ofNat (a.val ^^^ 1)).toNat : Int) := by decide +kernel
  exact fun n hn => h ⟨n, hn⟩
theorem OpF.on {X w : World} {s : ByteArray} {ab ar : Option Addr} {nb nr : Nat} {l : List UInt8} {rws : List (List (List UInt8))} (h : OpF X s ab ar nb nr l rws) (hb : Below X.heap.size X w) : OpF w s ab ar nb nr l rws :=
  ⟨h.ls, h.hnb, h.lb, h.ab.on hb, h.hnr, h.ar.on hb, h.wt⟩
end Go.Proofs.YtbjinmlelchmgaaGreatDoor
