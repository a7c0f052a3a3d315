import Derived.Test.YtbpdmkohihgnjaaGreatDoorP07
namespace Go.Proofs.YtbpdmkohihgnjaaGreatDoor
open Go.RowKit

namespace S
def pz (n : Nat) : Nat := (30 - n % 16) % 16
def pad (L : List Int) (b : Int) : List Int := (L ++ List.replicate (pz L.length) 0) ++ [b / 4294967296, b % 4294967296]
def fin (A L : List Int) (b : Int) : List Int := run A (pad L b) ((pad L b).length / 16)
end S
theorem ownsRow_below {w w' : World} {base : Nat} {e : TypeId} {size : Nat} {v : Value} {n : Nat} {xs : List Value} (h : w.ownsRow base e size v n xs) (hb : Below w.heap.size w w') : w'.ownsRow base e size v n xs := by
  have hl := h.lt
  obtain ⟨h1, h2⟩ := h
  refine ⟨h1, ?_⟩
  rcases h2 with h2 | ⟨g, cap, cur, hv, hg, hh, r⟩
  · exact .inl h2
  · subst hv
    exact .inr ⟨g, cap, cur, rfl, hg, (hb.block g (hl g rfl).2).trans hh, r⟩

theorem own_form {w : World} {base : Nat} {k : IntKind} {e : TypeId} {v : Value} {L : List Int} (h : w.ownsRow base e 1 v L.length (L.map (Value.int k))) (hn : 0 < L.length) : ∃ g cap, v = .slice (some ⟨g, 0, none⟩) L.length cap ∧ L.length ≤ cap ∧ base ≤ g ∧ g < w.heap.size ∧ Row w k g 0 L := by
  have hlt := h.lt
  rcases h.2 with ⟨_, h0⟩ | ⟨g, cap, cur, rfl, hg, hh, hc, hm, hs, ht⟩
  · omega
  · refine ⟨g, cap, rfl, hc, hg, (hlt g rfl).2, ?_⟩
    intro i hi
    rw [Nat.zero_add, h.cellAt i (by omega)]
    simp [List.getD_eq_getElem?_getD, hi]
theorem Blk.on {W w : World} {g : Nat} {k : IntKind} {e : TypeId} {L : List Int} (h : Blk W g k e L) (hb : Below W.heap.size W w) : Blk w g k e L := h.below hb h.lt
attribute [-simp] Tryz.isAgg26 Tryz.sizeOf26 Tryz.zeroValue26
set_option maxRecDepth 20000 in
set_option maxHeartbeats 4000000 in
theorem finish_any (W : World) (hT : Tab W) (h2 : 12 < W.heap.size) (g : Nat) (A : List Int) (n : Nat) (p : List Int) (D : Dig W g A n p) (ad : Addr) (m c : Nat) (xs : List Int) (hx : xs.length = m) (hat : At W .u32 (some ad) xs) (hm0 : 1 ≤ m) (hm : m ≤ 16) (b : Int) (b0 : 0 ≤ b) (b1 : b < 18446744073709551616) :
    Calls Tryz.prog 149 #[.pointer (some ⟨g, 0, none⟩), .slice (some ad) m c, .int .u64 b] W fun e W' => e = .returned (Ag (S.fin A (p ++ xs) b)) ∧ Below W.heap.size W W' := by
  obtain ⟨i0, hi, hz0, hz1, hz2⟩ := info_parts Tryz.info25
  have hgl := D.lt
  obtain ⟨Z, hZ⟩ : ∃ Z : List Int, Z = List.replicate 8 0 := ⟨_, rfl⟩
  have hZl : Z.length = 8 := by rw [hZ]; simp
  have hz : ∀ w, (zeroValue 26).run Tryz.prog w = .ok (.agg (Z.map (Value.int .u32)).toArray) w := fun w => by rw [Tryz.zeroValue26, hZ]; rfl
  clear hZ
  obtain ⟨t, ht⟩ : ∃ t, n % 16 = t := ⟨_, rfl⟩
  have hpl := D.pl
  rw [ht] at hpl
  have htl : t < 16 := by omega
  have hb1 : Below W.heap.size W (W.alloc (Obj.cells (List.map (Value.int IntKind.u32) Z).toArray 26)) := below_one _ _
  have bZ := Blk.new W .u32 26 Z
  have D1 := D.below hb1 hgl
  have WT : Hid (∀ w, Below W.heap.size W w → Calls Tryz.prog 140 #[.pointer (some ⟨g, 0, none⟩)] w fun e W' => e = .returned (.slice (some ⟨g, 9, none⟩) t t) ∧ w = W') := fun w hw => by
    have := waiting_any w g A n p (D.below hw hgl)
    rwa [ht] at this
  have rp := D1.rowP
  have HO : Hid (∀ j u, (p.map (Value.int .u32))[j]? = some u → (W.alloc (Obj.cells (List.map (Value.int IntKind.u32) Z).toArray 26)).cell? ((⟨g, 9, none⟩ : Addr).add j) = some u) := fun j u hu => by rw [Addr.add_mid]; exact rp.range j u hu
  have HN : Hid (∀ j u, (xs.map (Value.int .u32))[j]? = some u → (W.alloc (Obj.cells (List.map (Value.int IntKind.u32) Z).toArray 26)).cell? (ad.add j) = some u) := (hat.below hb1).cells
  have l1 : (p.map (Value.int .u32)).length = t * 1 := by simp [hpl]
  have l2 : (xs.map (Value.int .u32)).length = m * 1 := by simp [hx]
  have h63 : t + m ≤ maxLen := by unfold maxLen; omega
  have hby : (t + m) * 4 ≤ 140737488355328 := by omega
  have BZ : Hid (Blk _ W.heap.size .u32 26 Z) := bZ
  have HB1 : Hid _ := hb1
  have hall : (p ++ xs).length = t + m := by simp [hpl, hx]
  clear rp hat D1 bZ hb1
  go_enter Tryz.func149, Tryz.ntmps149
  go_wp2_with (first | (go_at_call 140; refine (WT.out _ HB1.out).mono ?_; rintro en w' ⟨rfl, rfl⟩) | (at_builtin; refine wpList_append_grows _ rfl _ _ 127 rfl 25 i0 (.int .u32 0) 1 4 Tryz.underlying127 hi hz0 hz1 hz2 rfl (by decide) (some ⟨g, 9, none⟩) t t (p.map (Value.int .u32)) rfl (fun h => by cases h) l1 (fun b' hb' => by cases hb'; exact HO.out) ad m c (xs.map (Value.int .u32)) rfl l2 HN.out (ints_oneCell .u32 xs) (by omega) h63 hby ?_; intro v1 w1 hown1 hgrow1))
  have hsl : (W.alloc (Obj.cells (List.map (Value.int IntKind.u32) Z).toArray 26)).heap.size = W.heap.size + 1 := by simp
  have h1' : Below (W.heap.size + 1) (W.alloc (Obj.cells (List.map (Value.int IntKind.u32) Z).toArray 26)) w1 := by
    have := (Below.refl _ _).grown hgrow1 (Nat.le_refl _) (fun _ h => by cases h)
    rwa [hsl] at this
  rw [← List.map_append, hsl] at hown1
  have bZ1 := BZ.out.below h1' (by omega)
  have hb1 := HB1.out.trans (h1'.mono (by omega))
  clear hgrow1 h1' BZ HB1 HO HN l1 l2 h63 hby
  go_loopw [7] (fun v wr => ∃ k : Nat, k ≤ S.pz (t + m) ∧ wr.ownsRow (W.heap.size + 1) 25 1 v (t + m + k) (((p ++ xs) ++ List.replicate k 0).map (Value.int .u32)) ∧ Blk wr W.heap.size .u32 26 Z ∧ Below W.heap.size W wr) (fun v _ => match v with | .slice _ k _ => 64 - k | _ => 0)
  case atStart => exact ⟨0, Nat.zero_le _, by simpa using hown1, bZ1, hb1⟩
  case round =>
    clear hown1 bZ1 hb1
    obtain ⟨k, hk, ho, bZ, hb⟩ := hrel
    have hpz : S.pz (t + m) = (30 - (t + m) % 16) % 16 := rfl
    obtain ⟨gt, ct, rfl, _, hgt⟩ := ho.form (by omega)
    have hql : (((p ++ xs) ++ List.replicate k 0).map (Value.int .u32)).length = t + m + k := by rw [List.length_map, List.length_append, hall, List.length_replicate]
    obtain ⟨q, hq⟩ : ∃ q, q = t + m + k := ⟨_, rfl⟩
    have i1 : (q : Int) ≤ 64 := by omega
    have i1' : q < 64 := by omega
    rw [← hq] at ho hql ⊢
    by_cases hlt : k < S.pz (t + m)
    · obtain ⟨q', hq'⟩ : ∃ q', q' = q % 16 := ⟨_, rfl⟩
      have i2 : (q : Int) % 16 = (q' : Int) := by omega
      have i3 : ((q' : Int) != 14) = true := by simp; omega
      have h63' : q + 1 ≤ maxLen := by unfold maxLen; omega
      have hby' : (q + 1) * 4 ≤ 140737488355328 := by omega
      have hba : W.heap.size + 1 ≤ (wr.alloc (.cells #[.int .u32 0] 25)).heap.size := by have := bZ.lt; simp; omega
      have HO : Hid (wr.ownsRow (W.heap.size + 1) 25 1 (.slice (some ⟨gt, 0, none⟩) q ct) q (((p ++ xs) ++ List.replicate k 0).map (Value.int .u32))) := ho
      have HV := (ho.lt gt rfl).1
      have HH : Hid (∀ (v' : Value) (w2 : World), w2.ownsRow (W.heap.size + 1) 25 1 v' (q + 1) (((p ++ xs) ++ List.replicate k 0).map (Value.int .u32) ++ [.int .u32 0]) → (wr.alloc (.cells #[.int .u32 0] 25)).grownBy w2 (some gt) → ∃ k' : Nat, k' ≤ S.pz (t + m) ∧ w2.ownsRow (W.heap.size + 1) 25 1 v' (t + m + k') (((p ++ xs) ++ List.replicate k' 0).map (Value.int .u32)) ∧ Blk w2 W.heap.size .u32 26 Z ∧ Below W.heap.size W w2) := fun v' w2 h1 h2' => by
        refine ⟨k + 1, by omega, ?_, ?_, ?_⟩
        · rw [List.replicate_succ', ← List.append_assoc, List.map_append, show t + m + (k + 1) = q + 1 by omega]
          exact h1
        · exact (bZ.alloc _).below ((Below.refl (W.heap.size + 1) _).grown h2' (by have := bZ.lt; simp; omega) (fun k h => by cases h; exact HV)) (by omega)
        · exact ((hb.alloc hb.size _)).grown h2' (by have := hb.size; simp; omega) (fun k h => by cases h; omega)
      have HLEN : Hid (∀ (v' : Value) (w2 : World), w2.ownsRow (W.heap.size + 1) 25 1 v' (q + 1) (((p ++ xs) ++ List.replicate k 0).map (Value.int .u32) ++ [.int .u32 0]) → ∃ ao' cap', v' = .slice ao' (q + 1) cap') := fun v' w2 h1 => by
        obtain ⟨g', c', rfl, _, _⟩ := h1.form (by omega)
        exact ⟨_, _, rfl⟩
      clear ho bZ hb hq' hlt hk hpz hq
      go_wp2_with (first | (at_builtin; refine wpList_append_own _ rfl _ _ 127 rfl (W.heap.size + 1) 25 i0 (.int .u32 0) 1 4 Tryz.underlying127 hi hz0 hz1 hz2 rfl (by decide) (.slice (some ⟨gt, 0, none⟩) q ct) q _ rfl (HO.out.alloc _) ⟨wr.heap.size, 0, none⟩ 1 1 [.int .u32 0] rfl rfl (cell_one_new _ _ _) (ints_oneCell .u32 [0]) h63' hby' hba ?_; intro v' w2 hown2 hgrow2 _))
      have HX := HH.out _ _ hown2 hgrow2
      obtain ⟨ao', cap', rfl⟩ := HLEN.out _ _ hown2
      go_wp2
      refine ⟨HX, ?_⟩
      show 64 - (q + 1) < 64 - q
      omega
    · obtain rfl : k = S.pz (t + m) := by omega
      obtain ⟨Y, hY⟩ : ∃ Y, Y = (p ++ xs) ++ List.replicate (S.pz (t + m)) 0 := ⟨_, rfl⟩
      obtain ⟨hh, hhh⟩ : ∃ x, x = b / 4294967296 := ⟨_, rfl⟩
      obtain ⟨ll, hll⟩ : ∃ x, x = b % 4294967296 := ⟨_, rfl⟩
      have hpad : S.pad (p ++ xs) b = Y ++ [hh, ll] := by rw [hY, hhh, hll, ← hall]; rfl
      have hYl : Y.length = q := by rw [hY, List.length_append, hall, List.length_replicate, hq]
      have hfin : S.fin A (p ++ xs) b = S.run A (Y ++ [hh, ll]) ((q + 2) / 16) := by
        unfold S.fin
        rw [hpad, List.length_append, hYl]
        rfl
      rw [← hY] at ho
      have i2 : (q : Int) % 16 = 14 := by omega
      have hMl := run_length A (Y ++ [hh, ll]) D.al ((q + 2) / 16)
      have HIGH : Hid (∀ w, Calls Tryz.prog 154 #[.int .u64 b] w fun e W' => e = .returned (.int .u32 hh) ∧ w = W') := by rw [hhh]; exact fun w => high_any w b b0 b1
      have LOW : Hid (∀ w, Calls Tryz.prog 155 #[.int .u64 b] w fun e W' => e = .returned (.int .u32 ll) ∧ w = W') := by rw [hll]; exact fun w => low_any w b
      obtain ⟨N, hN⟩ : ∃ N : Nat, N = 8 := ⟨_, rfl⟩
      have a27 := Tryz.isAgg26
      have z27 := Tryz.sizeOf26
      rw [← hN] at z27
      have hN0 : ¬ N = 0 := by omega
      have rA := D.rowA
      have al := D.al
      have ld1 : ∀ w, Below W.heap.size W w → (loadCellsFrom ⟨g, 0, none⟩ 0 N #[]).run Tryz.prog w = .ok (A.map (Value.int .u32)).toArray w := fun w hw => cells_row (rA.below hw hgl) N (by rw [al, hN])
      have hgt0 := (ho.lt gt rfl).1
      have AP : Hid (∀ w gs, Below wr.heap.size wr w → Blk w gs .u32 25 [hh, ll] → ∀ ty, ∃ ao' cap' w', (Builtin.append_ #[127, 127] ty #[.slice (some ⟨gt, 0, none⟩) q ct, .slice (some ⟨gs, 0, none⟩) 2 2]).run Tryz.prog w = .ok (.slice ao' (q + 2) cap') w' ∧ (q + 2 ≤ cap' ∧ At w' .u32 ao' (Y ++ [hh, ll]) ∧ But gt w w' ∧ Below W.heap.size W w')) := fun w gs hw hgs ty => by
        have hwW := hb.trans (hw.mono hb.size)
        obtain ⟨v', w', hr, h1, h2', _⟩ := run_append_own (P := Tryz.prog) w (W.heap.size + 1) 127 ty 25 i0 (.int .u32 0) 1 4 Tryz.underlying127 hi hz0 hz1 hz2 rfl (by decide) (.slice (some ⟨gt, 0, none⟩) q ct) q _ (ownsRow_below ho hw) ⟨gs, 0, none⟩ 2 2 ([hh, ll].map (Value.int .u32)) rfl hgs.at.cells (ints_oneCell .u32 _) (by unfold maxLen; omega) (by omega) (by have := hw.size; have := bZ.lt; omega)
        rw [← List.map_append] at h1
        have hl : (Y ++ [hh, ll]).length = q + 2 := by simp [hYl]
        have hbut : But gt w w' := ⟨h2'.os, h2'.tape, h2'.output, h2'.size, fun k hk hne => h2'.block k hk (fun h => hne (Option.some.inj h))⟩
        have hW' : Below W.heap.size W w' := hwW.trans (hbut.below (by omega) (by have := hwW.size; omega))
        rw [← hl] at h1
        obtain ⟨g', c', rfl, hc', _, hg', hrow⟩ := own_form h1 (by omega)
        rw [hl] at hr hc'
        exact ⟨some ⟨g', 0, none⟩, c', w', hr, hc', .inr ⟨g', 0, rfl, hg', hrow⟩, hbut, hW'⟩
      have BL : Hid (∀ w ao' cap', Below W.heap.size W w → q + 2 ≤ cap' → At w .u32 ao' (Y ++ [hh, ll]) → Calls Tryz.prog 139 #[.agg (A.map (Value.int .u32)).toArray, .slice ao' (q + 2) cap'] w fun en w3 => ∃ ao'' rs cap'', en = .returned (.tuple #[.agg ((S.run A (Y ++ [hh, ll]) ((q + 2) / 16)).map (Value.int .u32)).toArray, .slice ao'' rs cap'']) ∧ Below w.heap.size w w3 ∧ Below W.heap.size W w3) := fun w ao' cap' hw hc' ha => by
        have hsz := hw.size
        refine (blocks_any w (hT.below hw h2) (by omega) A (Y ++ [hh, ll]) al ao' (q + 2) cap' (by simp [hYl]) hc' ha (by omega)).mono ?_
        rintro en w3 ⟨ao'', cap'', rfl, hc'', hat3, hb3⟩
        exact ⟨ao'', _, cap'', rfl, hb3, hw.trans (hb3.mono hsz)⟩
      rw [← hfin] at BL hMl
      have HF : Hid (S.run A (Y ++ [hh, ll]) ((q + 2) / 16) = S.fin A (p ++ xs) b) := hfin.symm
      clear hfin
      obtain ⟨M, hM⟩ : ∃ M, S.fin A (p ++ xs) b = M := ⟨_, rfl⟩
      have HM : Hid (S.fin A (p ++ xs) b = M) := hM
      rw [hM] at BL hMl
      clear hM HF
      have hMN : M.length = N := by rw [hMl, hN]
      have zM : (Tryz.prog.info? 26).map (·.size) = some M.length := by rw [hMl]; exact size26
      have FN : Hid (∀ w gz, Blk w gz .u32 26 Z → W.heap.size + 1 ≤ gz → Below W.heap.size W w → Blk w W.heap.size .u32 26 Z → (storeCells ⟨gz, 0, none⟩ (M.map (Value.int .u32)) 0).run Tryz.prog w = .ok () (w.setRow gz (M.map (Value.int .u32)).toArray) ∧ Hid (Blk (w.setRow gz (M.map (Value.int .u32)).toArray) gz .u32 26 M ∧ Blk (w.setRow gz (M.map (Value.int .u32)).toArray) W.heap.size .u32 26 Z ∧ Below W.heap.size W (w.setRow gz (M.map (Value.int .u32)).toArray))) := fun w gz hz' hgz hw hw0 =>
        ⟨storeCells_blk hz' (by rw [hZl, hMl]), hz'.setRow M, hw0.setRow_other _ (by omega), below_setRow hw (by omega) _⟩
      have hsz := bZ.lt
      have C0 : Hid (Below wr.heap.size wr wr.drew) := (Below.refl _ _).drew
      have C1 : Hid (Below wr.heap.size wr (wr.alloc (Obj.cells (List.map (Value.int IntKind.u32) Z).toArray 26)).drew) := (below_one _ _).drew
      have C2 : Hid (Below wr.heap.size wr (wr.alloc (Obj.cells #[.int .u32 hh, .int .u32 ll] 25)).drew) := (below_one _ _).drew
      have C3 : Hid (Below wr.heap.size wr ((wr.alloc (Obj.cells (List.map (Value.int IntKind.u32) Z).toArray 26)).alloc (Obj.cells #[.int .u32 hh, .int .u32 ll] 25)).drew) := ((below_one _ _).alloc (by simp) _).drew
      have C4 : Hid (Below wr.heap.size wr ((wr.alloc (Obj.cells #[.int .u32 hh, .int .u32 ll] 25)).alloc (Obj.cells (List.map (Value.int IntKind.u32) Z).toArray 26)).drew) := ((below_one _ _).alloc (by simp) _).drew
      have CW : Hid (∀ w, Below wr.heap.size wr w → Below W.heap.size W w) := fun w hw => hb.trans (hw.mono hb.size)
      have S2 : Hid (Blk (wr.alloc (Obj.cells #[.int .u32 hh, .int .u32 ll] 25)).drew wr.heap.size .u32 25 [hh, ll]) := Blk.new wr .u32 25 [hh, ll]
      have S3 : Hid (Blk ((wr.alloc (Obj.cells (List.map (Value.int IntKind.u32) Z).toArray 26)).alloc (Obj.cells #[.int .u32 hh, .int .u32 ll] 25)).drew (wr.heap.size + 1) .u32 25 [hh, ll]) := Blk.newAt (by simp) .u32 25 [hh, ll]
      have S4 : Hid (Blk ((wr.alloc (Obj.cells #[.int .u32 hh, .int .u32 ll] 25)).alloc (Obj.cells (List.map (Value.int IntKind.u32) Z).toArray 26)).drew wr.heap.size .u32 25 [hh, ll]) := (Blk.new wr .u32 25 [hh, ll]).alloc _
      have Z3 : Hid (Blk ((wr.alloc (Obj.cells (List.map (Value.int IntKind.u32) Z).toArray 26)).alloc (Obj.cells #[.int .u32 hh, .int .u32 ll] 25)).drew wr.heap.size .u32 26 Z) := (Blk.new wr .u32 26 Z).alloc _
      have Z4 : Hid (Blk ((wr.alloc (Obj.cells #[.int .u32 hh, .int .u32 ll] 25)).alloc (Obj.cells (List.map (Value.int IntKind.u32) Z).toArray 26)).drew (wr.heap.size + 1) .u32 26 Z) := Blk.newAt (by simp) .u32 26 Z
      have RZ : Hid (∀ w, Below wr.heap.size wr w → Blk w W.heap.size .u32 26 Z) := fun w hw => bZ.on hw
      have G1 : Hid (wr.heap.size ≠ gt) := by show _ ≠ _; omega
      have G2 : Hid (wr.heap.size + 1 ≠ gt) := by show _ ≠ _; omega
      have G3 : Hid (W.heap.size ≠ gt) := by show _ ≠ _; omega
      have G4 : Hid (W.heap.size + 1 ≤ wr.heap.size) := hsz
      have G5 : Hid (W.heap.size + 1 ≤ wr.heap.size + 1) := by show _ ≤ _; omega
      have G6 : Hid (∀ w, Blk w W.heap.size .u32 26 Z → W.heap.size + 1 ≤ w.heap.size) := fun w h => h.lt
      have HML : Hid (M.length = 8) := hMl
      have HZL : Hid (Z.length = 8) := hZl
      clear hMl hZl bZ hb ho hN rA D al hYl hpad hY hhh hll hall hpl htl hq hql hlt hk hpz hsz hgt hgt0 hx hm0 hm ht
      go_wp2
      go_region_held3 (fun w => Below W.heap.size W w) (first | (exact CW.out _ C0.out) | (exact CW.out _ C1.out) | (exact CW.out _ C2.out) | (exact CW.out _ C3.out) | (exact CW.out _ C4.out) | (exact hw3) | (exact hw2) | (exact hw3.alloc hw3.size _) | (exact hw2.alloc hw2.size _) | (exact F.out.2.2)) (first | (go_at_call 154; refine (HIGH.out _).mono ?_; rintro en w' ⟨rfl, rfl⟩) | (go_at_call 155; refine (LOW.out _).mono ?_; rintro en w' ⟨rfl, rfl⟩) | (refine step_append_at (by rfl) _ _ 127 (by rfl) _ _ (by rfl) (by rfl) (by first | exact AP.out _ _ C2.out S2.out | exact AP.out _ _ C3.out S3.out | exact AP.out _ _ C4.out S4.out) ?_; rintro ao' cap' w2 ⟨hcap, hat2, hbt2, hw2⟩) | (go_at_call 139; (first | (refine (BL.out _ _ _ hw2 hcap hat2).mono ?_) | (refine (BL.out _ _ _ (hw2.alloc hw2.size _) hcap (hat2.below (below_one _ _))).mono ?_)); rintro en w3 ⟨ao'', rs, cap'', rfl, hb3, hw3⟩; (first | (have FX := FN.out _ _ ((hbt2.blk Z3.out G1.out).on hb3) G4.out hw3 ((hbt2.blk (RZ.out _ C3.out) G3.out).on hb3); obtain ⟨hst, F⟩ := FX) | (have FX := FN.out _ _ ((hbt2.blk Z4.out G2.out).on hb3) G5.out hw3 ((hbt2.blk (RZ.out _ C4.out) G3.out).on hb3); obtain ⟨hst, F⟩ := FX) | (have FX := FN.out _ _ ((Blk.new w2 .u32 26 Z).on hb3) (G6.out _ (hbt2.blk (RZ.out _ C2.out) G3.out)) hw3 (((hbt2.blk (RZ.out _ C2.out) G3.out).alloc _).on hb3); obtain ⟨hst, F⟩ := FX) | (have FX := FN.out _ _ (Blk.new w3 .u32 26 Z) (G6.out _ ((hbt2.blk (RZ.out _ C2.out) G3.out).on hb3)) (hw3.alloc hw3.size _) (((hbt2.blk (RZ.out _ C2.out) G3.out).on hb3).alloc _); obtain ⟨hst, F⟩ := FX))))
      all_goals
        obtain ⟨bM, bZ, hb⟩ := F.out
        clear F hst hb3 hw3 hbt2 hw2 hat2
        generalize World.setRow _ _ _ = w4 at *
        have BM : Hid (Blk w4 _ .u32 26 M) := bM
        have BZ : Hid (Blk w4 W.heap.size .u32 26 Z) := bZ
        have HB4 : Hid (Below W.heap.size W w4) := hb
        clear bM bZ hb
        go_wp2_with (first | (refine wpList_load_blk rfl 26 _ rfl _ M rfl BM.out Tryz.underlying26 zM ?_) | (refine wpList_store_blk rfl 26 _ _ rfl W.heap.size M rfl rfl BZ.out zM (by rw [HZL.out, HML.out]) ?_))
        refine ret_cell rfl rfl W.heap.size M rfl (BZ.out.setRow _) Tryz.underlying26 zM ?_
        rw [HM.out]
        exact ⟨rfl, below_setRow HB4.out (Nat.le_refl _) _⟩
end Go.Proofs.YtbpdmkohihgnjaaGreatDoor
