import Derived.Test.YtmomidkodjihjaaDoorP27
import Derived.Test.YtmomidkodjihjaaDoorP01
import Derived.Deep.MidRow
namespace Go.Proofs.YtmomidkodjihjaaDoor
open Go.RowKit
open H
set_option maxRecDepth 100000
set_option maxHeartbeats 8000000
theorem flatten_get (s : Nat) (L : List (List Value)) (hL : ∀ l ∈ L, l.length = s) (j : Nat) (l : List Value) (hj : L[j]? = some l) (i : Nat) (v : Value) (hi : l[i]? = some v) : L.flatten[j * s + i]? = some v := by
  induction L generalizing j with
  | nil => simp at hj
  | cons y L ih =>
    have hy := hL y (.head _)
    have hil : i < l.length := (List.getElem?_eq_some_iff.1 hi).1
    rw [List.flatten_cons]
    cases j with
    | zero =>
      simp only [List.getElem?_cons_zero, Option.some.injEq] at hj
      subst hj
      rw [List.getElem?_append_left (by omega)]
      simpa using hi
    | succ j =>
      rw [Nat.succ_mul, List.getElem?_append_right (by omega), hy]
      have := ih (fun l h => hL l (.tail _ h)) j (by simpa using hj)
      rw [show j * s + s + i - s = j * s + i by omega]
      exact this
theorem own_sub {w : World} {B : Nat} {e : TypeId} {s : Nat} {v : Value} {n : Nat} {L : List (List Value)} (h : w.ownsRow B e s v n L.flatten) (hL : ∀ l ∈ L, l.length = s) (hn : 0 < n) (hs : 0 < s) : ∃ g cap, v = .slice (some ⟨g, 0, none⟩) n cap ∧ g < w.heap.size ∧ ∀ j l, L[j]? = some l → w.rangeAt g (j * s) l := by
  obtain ⟨ao, cap, rfl⟩ := own_frm h hs
  obtain ⟨g, rfl⟩ := own_some h hn
  refine ⟨g, cap, rfl, (own_lt2 h rfl).2, fun j l hj i u hi => ?_⟩
  have := own_rng h (j * s + i) u (flatten_get s L hL j l hj i u hi)
  rw [Nat.zero_add] at this
  exact this
theorem rangeAt_on {W w : World} {g off : Nat} {cs : List Value} (h : W.rangeAt g off cs) (hg : g < W.heap.size) (hb : Below W.heap.size W w) : w.rangeAt g off cs := fun j v hv => (hb.cell (p := ⟨g, off + j, none⟩) hg).trans (h j v hv)
structure HWd (h : Hk) (n : Nat) (a : Int) : Prop where
  he : h.e = 24
  hst : h.st = 1
  hn : h.n = n
  hm : h.m = n + 1
  hcs : h.cs = [.int .u32 a]
def Hk.c3 (h : Hk) : List Value := h.vl :: h.vm :: h.cs
def bcs (HB : List Hk) : List Value := (HB.map Hk.c3).flatten
theorem bcs_snoc (HB : List Hk) (h : Hk) : bcs (HB ++ [h]) = bcs HB ++ h.c3 := by simp [bcs]
theorem book_row {w : World} {B : Nat} {v : Value} {HB : List Hk} (hb : w.ownsRow B 63 3 v HB.length (bcs HB)) (hk : ∀ h ∈ HB, h.ok w B) (hw : ∀ h ∈ HB, ∃ n a, HWd h n a) {j : Nat} {x : Hk} (hx : HB[j]? = some x) :
    ∃ gB cB gM cM aL cL n a, HWd x n a ∧ v = .slice (some ⟨gB, 0, none⟩) HB.length cB ∧ gB < w.heap.size ∧ w.rangeAt gB (j * 3) [.slice aL n cL, .slice (some ⟨gM, 0, none⟩) (n + 1) cM, .int .u32 a] ∧ gM < w.heap.size ∧ (∀ i, i < n + 1 → w.rangeAt gM i [.int .u32 a]) ∧ ∀ i, i < n → ∃ gL, aL = some ⟨gL, 0, none⟩ ∧ gL < w.heap.size ∧ w.rangeAt gL i [.int .u32 a] := by
  have hj := (List.getElem?_eq_some_iff.1 hx).1
  have hxm : x ∈ HB := List.mem_of_getElem? hx
  obtain ⟨n, a, hh⟩ := hw x hxm
  obtain ⟨gB, cB, h1, h2, h3⟩ := own_sub (L := HB.map Hk.c3) hb (fun l hl => by
    obtain ⟨y, hy, rfl⟩ := List.mem_map.1 hl
    obtain ⟨_, _, hy2⟩ := hw y hy
    simp [Hk.c3, hy2.hcs]) (by omega) (by decide)
  have hl := (hk x hxm).l
  have hm := (hk x hxm).m
  rw [hh.he, hh.hst, hh.hcs, hh.hn] at hl
  rw [hh.he, hh.hst, hh.hcs, hh.hm] at hm
  have rep : ∀ n i, i < n → (List.replicate n [Value.int .u32 a])[i]? = some [.int .u32 a] := fun n i hi => by rw [List.getElem?_replicate, if_pos hi]
  obtain ⟨aL, cL, hvl⟩ := own_frm hl (by decide)
  obtain ⟨gM, cM, m1, m2, m3⟩ := own_sub (L := List.replicate (n + 1) [Value.int .u32 a]) hm (fun l hl => by rw [List.eq_of_mem_replicate hl]; rfl) (by omega) (by decide)
  have h4 := h3 j x.c3 (by rw [List.getElem?_map, hx]; rfl)
  unfold Hk.c3 at h4
  rw [hvl, m1, hh.hcs] at h4
  refine ⟨gB, cB, gM, cM, aL, cL, n, a, hh, h1, h2, h4, m2, fun i hi => by simpa using m3 i _ (rep _ i hi), fun i hi => ?_⟩
  obtain ⟨gL, cL', l1, l2, l3⟩ := own_sub (L := List.replicate n [Value.int .u32 a]) hl (fun l hl => by rw [List.eq_of_mem_replicate hl]; rfl) (by omega) (by decide)
  rw [hvl] at l1
  cases l1
  exact ⟨gL, rfl, l2, by simpa using l3 i _ (rep _ i hi)⟩
theorem stay_any (W : World) (B : Nat) (bo : Option Addr) (N bc : Nat) (HB : List Hk) (hl : HB.length = N) (hb : W.ownsRow B 63 3 (.slice bo N bc) HB.length (bcs HB)) (hk : ∀ h ∈ HB, h.ok W B) (hw : ∀ h ∈ HB, ∃ n a, HWd h n a ∧ n ≤ 262144) (hN : N ≤ 1000) :
    Calls Tryd.prog 26 #[.slice bo N bc] W fun e w' => e = .returned (.bool true) ∧ Below W.heap.size W w' := by
  have n1 : (N : Int) ≤ 1000 := by omega
  have HR := hid (fun (j : Nat) (x : Hk) (hx : HB[j]? = some x) => book_row hb hk (fun h hh => by obtain ⟨n, a, h1, _⟩ := hw h hh; exact ⟨n, a, h1⟩) hx)
  have HW := hid hw
  have HL := hid hl
  clear hb hk hw hl
  go_enter Tryd.func26, Tryd.ntmps26
  go_wp2_with fail
  go_loopw [3] (fun i wr => ∃ j : Nat, j ≤ N ∧ i = .int .i64 (j : Int) ∧ Hid (Below W.heap.size W wr)) (fun i _ => N - (intOf i).toNat)
  case atStart => exact ⟨0, Nat.zero_le _, rfl, hid (Below.refl _ _)⟩
  case round =>
    obtain ⟨j, hj, rfl, HT⟩ := hrel
    by_cases hlt : j < N
    · have q1 : (j : Int) < (N : Int) := by omega
      obtain ⟨x, hx⟩ : ∃ x, HB[j]? = some x := ⟨_, List.getElem?_eq_getElem (by rw [HL.out]; exact hlt)⟩
      obtain ⟨gB, cB, gM, cM, aL, cL, n, a, hh, hv, g1, r1, g2, r2, r3⟩ := HR.out j x hx
      obtain ⟨n', a', hh', hn'⟩ := HW.out x (List.mem_of_getElem? hx)
      have hnn : n ≤ 262144 := by have := hh.hn.symm.trans hh'.hn; omega
      have n2 : (n : Int) ≤ 262144 := by omega
      have hw1 : IntKind.i64.wrap ((n : Int) + 1) = (n : Int) + 1 := by rw [IntKind.wrap_i64]; omega
      have q4 : ¬ ((n : Int) + 1 ≤ (n : Int)) := by omega
      rw [HL.out] at hv
      cases hv
      have R1 := hid (rangeAt_on r1 g1 HT.out)
      have R2 := hid (fun (w : World) (i : Nat) (hi : i < n + 1) (hb : Below W.heap.size W w) => by have := rangeAt_on (r2 i hi) g2 hb 0 _ rfl; rw [Nat.add_zero] at this; exact this)
      have R3 := hid r3
      clear r1 r2 r3 g1 g2 hh hh' hn' hx HR HW
      go_upto_region 5 with (refine wpList_load_mid rfl 63 _ rfl gB (j * 3) rfl _ _ R1.out Tryd.underlying63 rfl (by rw [size63]; rfl) ?_)
      have HX := hid (cel_new wr 63 [.slice aL n cL, .slice (some ⟨gM, 0, none⟩) (n + 1) cM, .int .u32 a])
      have HT2 := hid (below_on HT.out (below_one wr (.cells #[.slice aL n cL, .slice (some ⟨gM, 0, none⟩) (n + 1) cM, .int .u32 a] 63)))
      clear HT R1
      generalize wr.alloc _ = w2 at *
      generalize wr.heap.size = gX at *
      have HT3 := hid (below_on HT2.out (Below.refl _ _).drew)
      have HX3 := hid (HX.out.below (Below.refl _ _).drew HX.out.lt)
      have HS := hid (And.intro HX3.out (R2.out _ n (by omega) HT3.out))
      refine wp_region_held_drew (S := fun w => Cel w gX 63 [.slice aL n cL, .slice (some ⟨gM, 0, none⟩) (n + 1) cM, .int .u32 a] ∧ w.cell? ⟨gM, n, none⟩ = some (.int .u32 a)) (by kernel_rfl) HS.out (fun hHeld => ?_)
      refine tk 0 ⟨some 16, .fieldAddr 63 (.tmp 4) 1, 0, "outright.go:184", #[], none⟩ (.pointer (some ⟨gX, 1, none⟩)) ?_
      simp only [Act.put, List.setIfInBounds_toArray, List.set_cons_zero, List.set_cons_succ]
      refine tk 1 ⟨some 17, .load 22 (.tmp 16), 22, "outright.go:184", #[⟨0, .data⟩], none⟩ (.slice (some ⟨gM, 0, none⟩) (n + 1) cM) ?_ (hy := Or.inl ⟨by rfl, by intro w hSw; have hc := hSw.1.cell 1; simp only [List.getElem?_cons_zero, List.getElem?_cons_succ] at hc; go_simp⟩)
      simp only [Act.put, List.setIfInBounds_toArray, List.set_cons_zero, List.set_cons_succ]
      refine tk 2 ⟨some 18, .call { callee := .builtin .len, args := #[.tmp 17], argTypes := #[22] }, 3, "outright.go:184", #[⟨1, .data⟩], none⟩ (.int .i64 ((n : Int) + 1)) ?_
      simp only [Act.put, List.setIfInBounds_toArray, List.set_cons_zero, List.set_cons_succ]
      refine tk 3 ⟨some 19, .fieldAddr 63 (.tmp 4) 0, 0, "outright.go:184", #[], none⟩ (.pointer (some ⟨gX, 0, none⟩)) ?_
      simp only [Act.put, List.setIfInBounds_toArray, List.set_cons_zero, List.set_cons_succ]
      refine tk 4 ⟨some 20, .load 22 (.tmp 19), 22, "outright.go:184", #[⟨3, .data⟩], none⟩ (.slice aL n cL) ?_ (hy := Or.inl ⟨by rfl, by intro w hSw; have hc := hSw.1.cell 0; simp only [List.getElem?_cons_zero] at hc; go_simp⟩)
      simp only [Act.put, List.setIfInBounds_toArray, List.set_cons_zero, List.set_cons_succ]
      refine tk 5 ⟨some 21, .call { callee := .builtin .len, args := #[.tmp 20], argTypes := #[22] }, 3, "outright.go:184", #[⟨4, .data⟩], none⟩ (.int .i64 (n : Int)) ?_
      simp only [Act.put, List.setIfInBounds_toArray, List.set_cons_zero, List.set_cons_succ]
      refine tk 6 ⟨some 22, .binOp .add 3 (.tmp 21) (.const (.int .i64 1)) 3, 3, "outright.go:184", #[⟨5, .data⟩], none⟩ (.int .i64 ((n : Int) + 1)) ?_
      simp only [Act.put, List.setIfInBounds_toArray, List.set_cons_zero, List.set_cons_succ]
      refine tk 7 ⟨some 23, .binOp .neq 3 (.tmp 18) (.tmp 22) 3, 4, "outright.go:184", #[⟨2, .data⟩, ⟨6, .data⟩], none⟩ (.bool false) ?_
      simp only [Act.put, List.setIfInBounds_toArray, List.set_cons_zero, List.set_cons_succ]
      refine tk 8 ⟨some 24, .move (.tmp 23), 4, "outright.go:184", #[⟨7, .data⟩], none⟩ (.bool false) ?_
      simp only [Act.put, List.setIfInBounds_toArray, List.set_cons_zero, List.set_cons_succ]
      refine tk 9 ⟨some 25, .fieldAddr 63 (.tmp 4) 1, 0, "outright.go:184", #[⟨8, .guard⟩], some (8, false)⟩ (.pointer (some ⟨gX, 1, none⟩)) ?_
      simp only [Act.put, List.setIfInBounds_toArray, List.set_cons_zero, List.set_cons_succ]
      refine tk 10 ⟨some 26, .load 22 (.tmp 25), 22, "outright.go:184", #[⟨9, .data⟩, ⟨8, .guard⟩], some (8, false)⟩ (.slice (some ⟨gM, 0, none⟩) (n + 1) cM) ?_ (hy := Or.inl ⟨by rfl, by intro w hSw; have hc := hSw.1.cell 1; simp only [List.getElem?_cons_zero, List.getElem?_cons_succ] at hc; go_simp⟩)
      simp only [Act.put, List.setIfInBounds_toArray, List.set_cons_zero, List.set_cons_succ]
      refine tk 11 ⟨some 27, .fieldAddr 63 (.tmp 4) 0, 0, "outright.go:184", #[⟨8, .guard⟩], some (8, false)⟩ (.pointer (some ⟨gX, 0, none⟩)) ?_
      simp only [Act.put, List.setIfInBounds_toArray, List.set_cons_zero, List.set_cons_succ]
      refine tk 12 ⟨some 28, .load 22 (.tmp 27), 22, "outright.go:184", #[⟨11, .data⟩, ⟨8, .guard⟩], some (8, false)⟩ (.slice aL n cL) ?_ (hy := Or.inl ⟨by rfl, by intro w hSw; have hc := hSw.1.cell 0; simp only [List.getElem?_cons_zero] at hc; go_simp⟩)
      simp only [Act.put, List.setIfInBounds_toArray, List.set_cons_zero, List.set_cons_succ]
      refine tk 13 ⟨some 29, .call { callee := .builtin .len, args := #[.tmp 28], argTypes := #[22] }, 3, "outright.go:184", #[⟨12, .data⟩, ⟨8, .guard⟩], some (8, false)⟩ (.int .i64 (n : Int)) ?_
      simp only [Act.put, List.setIfInBounds_toArray, List.set_cons_zero, List.set_cons_succ]
      refine tk 14 ⟨some 30, .indexAddr 22 (.tmp 26) (.tmp 29), 0, "outright.go:184", #[⟨10, .data⟩, ⟨13, .data⟩, ⟨8, .guard⟩], some (8, false)⟩ (.pointer (some ⟨gM, n, none⟩)) ?_
      simp only [Act.put, List.setIfInBounds_toArray, List.set_cons_zero, List.set_cons_succ]
      refine tk 15 ⟨some 31, .load 24 (.tmp 30), 24, "outright.go:184", #[⟨14, .data⟩, ⟨8, .guard⟩], some (8, false)⟩ (.int .u32 a) ?_ (hy := Or.inl ⟨by rfl, by intro w hSw; have hc := hSw.2; go_simp⟩)
      simp only [Act.put, List.setIfInBounds_toArray, List.set_cons_zero, List.set_cons_succ]
      refine tk 16 ⟨some 32, .fieldAddr 63 (.tmp 4) 2, 0, "outright.go:184", #[⟨8, .guard⟩], some (8, false)⟩ (.pointer (some ⟨gX, 2, none⟩)) ?_
      simp only [Act.put, List.setIfInBounds_toArray, List.set_cons_zero, List.set_cons_succ]
      refine tk 17 ⟨some 33, .load 24 (.tmp 32), 24, "outright.go:184", #[⟨16, .data⟩, ⟨8, .guard⟩], some (8, false)⟩ (.int .u32 a) ?_ (hy := Or.inl ⟨by rfl, by intro w hSw; have hc := hSw.1.cell 2; simp only [List.getElem?_cons_zero, List.getElem?_cons_succ] at hc; go_simp⟩)
      simp only [Act.put, List.setIfInBounds_toArray, List.set_cons_zero, List.set_cons_succ]
      refine tk 18 ⟨some 34, .binOp .neq 24 (.tmp 31) (.tmp 33) 24, 4, "outright.go:184", #[⟨15, .data⟩, ⟨17, .data⟩, ⟨8, .guard⟩], some (8, false)⟩ (.bool false) ?_
      simp only [Act.put, List.setIfInBounds_toArray, List.set_cons_zero, List.set_cons_succ]
      refine tk 19 ⟨some 35, .pick (.tmp 24) (.const (.bool true)) (.tmp 34), 4, "outright.go:184", #[⟨8, .data⟩, ⟨18, .data⟩], none⟩ (.bool false) ?_
      simp only [Act.put, List.setIfInBounds_toArray, List.set_cons_zero, List.set_cons_succ]
      refine wpAnyH_done (by kernel_rfl) ?_ _
      clear HT2 HX HS hHeld
      generalize World.drew _ = w3 at *
      go_wp2_with fail
      go_loopw [5] (fun i wr => ∃ t : Nat, t ≤ n ∧ i = .int .i64 (t : Int) ∧ Hid (Below w3.heap.size w3 wr)) (fun i _ => n - (intOf i).toNat)
      case atStart => exact ⟨0, Nat.zero_le _, rfl, hid (Below.refl _ _)⟩
      case round =>
        obtain ⟨i, hi, rfl, HT4⟩ := hrel
        have HX4 := hid (HX3.out.below HT4.out HX3.out.lt)
        have HT5 := hid (below_on HT3.out HT4.out)
        have y0 := HX4.out.cell 0
        simp only [List.getElem?_cons_zero] at y0
        by_cases hi2 : i < n
        · have q2 : (i : Int) < (n : Int) := by omega
          have q5 : ¬ ((n : Int) + 1 ≤ (i : Int)) := by omega
          obtain ⟨gL, rfl, g3, r3⟩ := R3.out i hi2
          go_upto_region 10 with fail
          have HX6 := hid (HX4.out.below (Below.refl _ _).drew HX4.out.lt)
          have HT6 := hid (below_on HT4.out (Below.refl _ _).drew)
          have HT7 := hid (below_on HT5.out (Below.refl _ _).drew)
          have HS := hid (And.intro HX6.out (And.intro (R2.out _ i (by omega) HT7.out) (by have := rangeAt_on r3 g3 HT7.out 0 _ rfl; rw [Nat.add_zero] at this; exact this)))
          refine wp_region_held_drew (S := fun w => Cel w gX 63 [.slice (some ⟨gL, 0, none⟩) n cL, .slice (some ⟨gM, 0, none⟩) (n + 1) cM, .int .u32 a] ∧ w.cell? ⟨gM, i, none⟩ = some (.int .u32 a) ∧ w.cell? ⟨gL, i, none⟩ = some (.int .u32 a)) (by kernel_rfl) HS.out (fun hHeld => ?_)
          refine tk 0 ⟨some 43, .fieldAddr 63 (.tmp 4) 0, 0, "outright.go:188", #[], none⟩ (.pointer (some ⟨gX, 0, none⟩)) ?_
          simp only [Act.put, List.setIfInBounds_toArray, List.set_cons_zero, List.set_cons_succ]
          refine tk 1 ⟨some 44, .load 22 (.tmp 43), 22, "outright.go:188", #[⟨0, .data⟩], none⟩ (.slice (some ⟨gL, 0, none⟩) n cL) ?_ (hy := Or.inl ⟨by rfl, by intro w hSw; have hc := hSw.1.cell 0; simp only [List.getElem?_cons_zero] at hc; go_simp⟩)
          simp only [Act.put, List.setIfInBounds_toArray, List.set_cons_zero, List.set_cons_succ]
          refine tk 2 ⟨some 45, .move (.tmp 5), 3, "outright.go:188", #[], none⟩ (.int .i64 (i : Int)) ?_
          simp only [Act.put, List.setIfInBounds_toArray, List.set_cons_zero, List.set_cons_succ]
          refine tk 3 ⟨some 46, .indexAddr 22 (.tmp 44) (.tmp 45), 0, "outright.go:188", #[⟨1, .data⟩, ⟨2, .data⟩], none⟩ (.pointer (some ⟨gL, i, none⟩)) ?_
          simp only [Act.put, List.setIfInBounds_toArray, List.set_cons_zero, List.set_cons_succ]
          refine tk 4 ⟨some 47, .load 24 (.tmp 46), 24, "outright.go:188", #[⟨3, .data⟩], none⟩ (.int .u32 a) ?_ (hy := Or.inl ⟨by rfl, by intro w hSw; have hc := hSw.2.2; go_simp⟩)
          simp only [Act.put, List.setIfInBounds_toArray, List.set_cons_zero, List.set_cons_succ]
          refine tk 5 ⟨some 48, .fieldAddr 63 (.tmp 4) 2, 0, "outright.go:188", #[], none⟩ (.pointer (some ⟨gX, 2, none⟩)) ?_
          simp only [Act.put, List.setIfInBounds_toArray, List.set_cons_zero, List.set_cons_succ]
          refine tk 6 ⟨some 49, .load 24 (.tmp 48), 24, "outright.go:188", #[⟨5, .data⟩], none⟩ (.int .u32 a) ?_ (hy := Or.inl ⟨by rfl, by intro w hSw; have hc := hSw.1.cell 2; simp only [List.getElem?_cons_zero, List.getElem?_cons_succ] at hc; go_simp⟩)
          simp only [Act.put, List.setIfInBounds_toArray, List.set_cons_zero, List.set_cons_succ]
          refine tk 7 ⟨some 50, .binOp .neq 24 (.tmp 47) (.tmp 49) 24, 4, "outright.go:188", #[⟨4, .data⟩, ⟨6, .data⟩], none⟩ (.bool false) ?_
          simp only [Act.put, List.setIfInBounds_toArray, List.set_cons_zero, List.set_cons_succ]
          refine tk 8 ⟨some 51, .move (.tmp 50), 4, "outright.go:188", #[⟨7, .data⟩], none⟩ (.bool false) ?_
          simp only [Act.put, List.setIfInBounds_toArray, List.set_cons_zero, List.set_cons_succ]
          refine tk 9 ⟨some 52, .fieldAddr 63 (.tmp 4) 1, 0, "outright.go:188", #[⟨8, .guard⟩], some (8, false)⟩ (.pointer (some ⟨gX, 1, none⟩)) ?_
          simp only [Act.put, List.setIfInBounds_toArray, List.set_cons_zero, List.set_cons_succ]
          refine tk 10 ⟨some 53, .load 22 (.tmp 52), 22, "outright.go:188", #[⟨9, .data⟩, ⟨8, .guard⟩], some (8, false)⟩ (.slice (some ⟨gM, 0, none⟩) (n + 1) cM) ?_ (hy := Or.inl ⟨by rfl, by intro w hSw; have hc := hSw.1.cell 1; simp only [List.getElem?_cons_zero, List.getElem?_cons_succ] at hc; go_simp⟩)
          simp only [Act.put, List.setIfInBounds_toArray, List.set_cons_zero, List.set_cons_succ]
          refine tk 11 ⟨some 54, .move (.tmp 5), 3, "outright.go:188", #[⟨8, .guard⟩], some (8, false)⟩ (.int .i64 (i : Int)) ?_
          simp only [Act.put, List.setIfInBounds_toArray, List.set_cons_zero, List.set_cons_succ]
          refine tk 12 ⟨some 55, .indexAddr 22 (.tmp 53) (.tmp 54), 0, "outright.go:188", #[⟨10, .data⟩, ⟨11, .data⟩, ⟨8, .guard⟩], some (8, false)⟩ (.pointer (some ⟨gM, i, none⟩)) ?_
          simp only [Act.put, List.setIfInBounds_toArray, List.set_cons_zero, List.set_cons_succ]
          refine tk 13 ⟨some 56, .load 24 (.tmp 55), 24, "outright.go:188", #[⟨12, .data⟩, ⟨8, .guard⟩], some (8, false)⟩ (.int .u32 a) ?_ (hy := Or.inl ⟨by rfl, by intro w hSw; have hc := hSw.2.1; go_simp⟩)
          simp only [Act.put, List.setIfInBounds_toArray, List.set_cons_zero, List.set_cons_succ]
          refine tk 14 ⟨some 57, .fieldAddr 63 (.tmp 4) 2, 0, "outright.go:188", #[⟨8, .guard⟩], some (8, false)⟩ (.pointer (some ⟨gX, 2, none⟩)) ?_
          simp only [Act.put, List.setIfInBounds_toArray, List.set_cons_zero, List.set_cons_succ]
          refine tk 15 ⟨some 58, .load 24 (.tmp 57), 24, "outright.go:188", #[⟨14, .data⟩, ⟨8, .guard⟩], some (8, false)⟩ (.int .u32 a) ?_ (hy := Or.inl ⟨by rfl, by intro w hSw; have hc := hSw.1.cell 2; simp only [List.getElem?_cons_zero, List.getElem?_cons_succ] at hc; go_simp⟩)
          simp only [Act.put, List.setIfInBounds_toArray, List.set_cons_zero, List.set_cons_succ]
          refine tk 16 ⟨some 59, .binOp .neq 24 (.tmp 56) (.tmp 58) 24, 4, "outright.go:188", #[⟨13, .data⟩, ⟨15, .data⟩, ⟨8, .guard⟩], some (8, false)⟩ (.bool false) ?_
          simp only [Act.put, List.setIfInBounds_toArray, List.set_cons_zero, List.set_cons_succ]
          refine tk 17 ⟨some 60, .pick (.tmp 51) (.const (.bool true)) (.tmp 59), 4, "outright.go:188", #[⟨8, .data⟩, ⟨16, .data⟩], none⟩ (.bool false) ?_
          simp only [Act.put, List.setIfInBounds_toArray, List.set_cons_zero, List.set_cons_succ]
          refine wpAnyH_done (by kernel_rfl) ?_ _
          go_wp2_with fail
          go_roundw
          case measure => simp [intOf] <;> omega
          case rel => exact ⟨i + 1, by omega, by simp, HT6⟩
        · have q2 : (n : Int) ≤ (i : Int) := by omega
          go_wp2_with fail
          go_roundw
          case measure => simp [intOf] <;> omega
          case rel => exact ⟨j + 1, by omega, by simp, HT5⟩
    · have q1 : (N : Int) ≤ (j : Int) := by omega
      go_wp2_with fail
      go_ret
      exact ⟨rfl, HT.out⟩
end Go.Proofs.YtmomidkodjihjaaDoor
