import Derived.Test.YtlfnpllojinjdaaDoorKeeps2
import Derived.Deep.DrawnRows
namespace Go.Proofs.YtlfnpllojinjdaaDoor
open Go.RowKit

theorem size_put (a : Act) (d : Option Tmp) (v : Value) : (a.put d v).tmps.size = a.tmps.size := by
  unfold Act.put; split <;> simp
theorem read_put (a : Act) (i : Nat) (v : Value) (h : i < a.tmps.size) : (a.put (some i) v).tmps[i]?.getD undef = v := by
  simp [Act.put, h]
theorem wds_set {xs : List Int} (h : Wds xs) (i : Nat) (u : Int) (u0 : 0 ≤ u) (u1 : u < 4294967296) : Wds (xs.set i u) := by
  intro j
  have := h j
  simp only [List.getD_eq_getElem?_getD, List.getElem?_set] at this ⊢
  split
  · split <;> simp <;> omega
  · exact this
theorem bts_set {xs : List Int} (h : Bts xs) (i : Nat) (u : Int) (u0 : 0 ≤ u) (u1 : u < 256) : Bts (xs.set i u) := by
  intro j
  have := h j
  simp only [List.getD_eq_getElem?_getD, List.getElem?_set] at this ⊢
  split
  · split <;> simp <;> omega
  · exact this
theorem xor1 (c : Int) (h0 : 0 ≤ c) (h1 : c < 256) : 0 ≤ bits .xor .u8 c 1 ∧ bits .xor .u8 c 1 < 256 := by
  rw [u8_xor c 1 h0 h1 (by decide) (by decide)]
  have : c.toNat ^^^ (1 : Int).toNat < 2 ^ 8 := Nat.xor_lt_two_pow (by omega) (by decide)
  omega
theorem not1 (y : Int) (h0 : 0 ≤ y) (h1 : y < 4294967296) : 0 ≤ bits .xor .u32 (if IntKind.u32.signed = true then -1 else IntKind.u32.max) y ∧ bits .xor .u32 (if IntKind.u32.signed = true then -1 else IntKind.u32.max) y < 4294967296 := by
  have e : (if IntKind.u32.signed = true then -1 else IntKind.u32.max) = (4294967295 : Int) := by decide
  rw [e, u32_xor 4294967295 y (by decide) (by decide) h0 h1]
  have : (4294967295 : Int).toNat ^^^ y.toNat < 2 ^ 32 := Nat.xor_lt_two_pow (by decide) (by omega)
  omega
theorem ownsRow_below {w w' : World} {base : Nat} {e : TypeId} {size : Nat} {v : Value} {n : Nat} {xs : List Value} (h : w.ownsRow base e size v n xs) (hb : Below w.heap.size w w') : w'.ownsRow base e size v n xs := by
  have hl := h.lt
  obtain ⟨h1, h2⟩ := h
  refine ⟨h1, ?_⟩
  rcases h2 with h2 | ⟨g, cap, cur, hv, hg, hh, r⟩
  · exact .inl h2
  · subst hv
    exact .inr ⟨g, cap, cur, rfl, hg, (hb.block g (hl g rfl).2).trans hh, r⟩
theorem ownsRow_base {w : World} {base base' : Nat} {e : TypeId} {size : Nat} {v : Value} {n : Nat} {xs : List Value} (h : w.ownsRow base e size v n xs) (hb : base' ≤ base) : w.ownsRow base' e size v n xs := by
  obtain ⟨h1, h2⟩ := h
  refine ⟨h1, ?_⟩
  rcases h2 with h2 | ⟨g, cap, cur, hv, hg, r⟩
  · exact .inl h2
  · exact .inr ⟨g, cap, cur, hv, by omega, r⟩
/-- The two rows that are turned. -/
structure Turn (W wr : World) (gw cw g1 n : Nat) (xs bs : List Int) : Prop where
  xl : xs.length = n
  xw : Wds xs
  bl : bs.length = 4 * n
  bw : Bts bs
  ow : wr.ownsRow W.heap.size 22 1 (.slice (some ⟨gw, 0, none⟩) (n + 300) cw) (n + 300) ((xs ++ mk 300).map (Value.int .u32))
  ob : wr.ownsRow W.heap.size 5 1 (.slice (some ⟨g1, 0, none⟩) (4 * n) (4 * n)) (4 * n) (bs.map (Value.int .u8))
  ne : gw ≠ g1
  below : Below W.heap.size W wr
theorem Turn.cellw {W wr : World} {gw cw g1 n : Nat} {xs bs : List Int} (h : Turn W wr gw cw g1 n xs bs) (i : Nat) (hi : i < n) : wr.cell? ⟨gw, i, none⟩ = some (.int .u32 (xs.getD i 0)) := by
  rw [h.ow.cellAt i (by omega)]
  have := h.xl
  rw [List.map_append, List.getElem?_append_left (by simp; omega)]
  simp [List.getD_eq_getElem?_getD, show i < xs.length by omega]
theorem Turn.cellb {W wr : World} {gw cw g1 n : Nat} {xs bs : List Int} (h : Turn W wr gw cw g1 n xs bs) (i : Nat) (hi : i < 4 * n) : wr.cell? ⟨g1, i, none⟩ = some (.int .u8 (bs.getD i 0)) := by
  rw [h.ob.cellAt i (by omega)]
  have := h.bl
  simp [List.getD_eq_getElem?_getD, show i < bs.length by omega]
theorem Turn.carry {W wr w' : World} {gw cw g1 n : Nat} {xs bs : List Int} (h : Turn W wr gw cw g1 n xs bs) (hb : Below wr.heap.size wr w') : Turn W w' gw cw g1 n xs bs :=
  ⟨h.xl, h.xw, h.bl, h.bw, ownsRow_below h.ow hb, ownsRow_below h.ob hb, h.ne, h.below.trans (hb.mono h.below.size)⟩
theorem Turn.roww {W wr : World} {gw cw g1 n : Nat} {xs bs : List Int} (h : Turn W wr gw cw g1 n xs bs) : Row wr .u32 gw 0 xs := fun i hi => by
  rw [Nat.zero_add]; exact h.cellw i (by rw [← h.xl]; exact hi)
theorem Turn.rowb {W wr : World} {gw cw g1 n : Nat} {xs bs : List Int} (h : Turn W wr gw cw g1 n xs bs) : Row wr .u8 g1 0 bs := fun i hi => by
  rw [Nat.zero_add]; exact h.cellb i (by rw [← h.bl]; exact hi)
theorem Turn.ltw {W wr : World} {gw cw g1 n : Nat} {xs bs : List Int} (h : Turn W wr gw cw g1 n xs bs) : gw < wr.heap.size := (h.ow.lt gw rfl).2
theorem Turn.ltb {W wr : World} {gw cw g1 n : Nat} {xs bs : List Int} (h : Turn W wr gw cw g1 n xs bs) : g1 < wr.heap.size := (h.ob.lt g1 rfl).2
theorem Turn.setw {W wr : World} {gw cw g1 n : Nat} {xs bs : List Int} (h : Turn W wr gw cw g1 n xs bs) (i : Nat) (hi : i < n) (u : Int) (u0 : 0 ≤ u) (u1 : u < 4294967296) : Turn W (wr.setCell ⟨gw, i, none⟩ (.int .u32 u)) gw cw g1 n (xs.set i u) bs := by
  obtain ⟨s1, s2⟩ := h.ow.stored i (.int .u32 u)
  refine ⟨by rw [List.length_set, h.xl], wds_set h.xw i u u0 u1, h.bl, h.bw, ?_, h.ob.kept s2 (.inr (fun e => h.ne (Option.some.inj e).symm)), h.ne, h.below.setCell (h.ow.lt gw rfl).1 _⟩
  rw [← List.map_set, List.set_append_left _ _ (by rw [h.xl]; exact hi)] at s1
  exact s1
theorem Turn.setb {W wr : World} {gw cw g1 n : Nat} {xs bs : List Int} (h : Turn W wr gw cw g1 n xs bs) (i : Nat) (u : Int) (u0 : 0 ≤ u) (u1 : u < 256) : Turn W (wr.setCell ⟨g1, i, none⟩ (.int .u8 u)) gw cw g1 n xs (bs.set i u) := by
  obtain ⟨s1, s2⟩ := h.ob.stored i (.int .u8 u)
  refine ⟨h.xl, h.xw, by rw [List.length_set, h.bl], bts_set h.bw i u u0 u1, h.ow.kept s2 (.inr (fun e => h.ne (Option.some.inj e))), ?_, h.ne, h.below.setCell (h.ob.lt g1 rfl).1 _⟩
  rw [← List.map_set] at s1
  exact s1

attribute [local go_sem ↓] Go.wp_at_zero Go.wp_at_succ
set_option maxRecDepth 100000 in
set_option maxHeartbeats 10000000 in
theorem turned_any (W : World) (hT : Tab W) (h0 : 0 < W.heap.size) (ao : Option Addr) (n cap : Nat) (xs : List Int) (hx : xs.length = n) (wx : Wds xs) (h1 : At W .u32 ao xs) (hnil : ao = none → cap = 0 ∧ n = 0) (hn : n ≤ 262144) :
    Calls Tryd.prog 29 #[.slice ao n cap] W fun e W' => e = .returned (.bool true) ∧ Below W.heap.size W W' := by
  obtain ⟨i0, hi, hz0, hz1, hz2⟩ := info_parts Tryd.info22
  have hbl : (bytesD xs).length = 4 * n := by rw [bytesD_length, hx]
  have hwl : (xs ++ mk 300).length = n + 300 := by simp [mk_length, hx]
  go_enter Tryd.func29, Tryd.ntmps29
  go_wp2_with fail
  refine (lent_any _ ao n cap xs hx h1 hnil (by omega)).mono ?_
  rintro e w1 ⟨v, rfl, F1⟩
  have hb1 := F1.below
  obtain ⟨gw, cw, hv, hcw, hgw, hgw1, rw1⟩ := F1.form (by simp [mk_length])
  have ow1 := F1.own
  rw [hwl] at hv hcw ow1
  subst hv
  clear F1
  go_wp2_with fail
  refine (bytes_any _ (hT.below hb1 h0) gw 0 n cw xs hx wx rw1.head (by omega) hgw1 (by omega)).mono ?_
  rintro e w2 ⟨rfl, F2⟩
  have ow2 := F2.owned
  have hb2 := hb1.trans (F2.below.mono hb1.size)
  have lt2 := F2.lt
  have T2 : Turn W w2 gw cw w1.heap.size n xs (bytesD xs) := ⟨hx, wx, hbl, bytesD_bts xs, ownsRow_below ow1 F2.below, ownsRow_base ow2.own hb1.size, by omega, hb2⟩
  clear ow1 ow2 F2 rw1
  generalize w1.heap.size = g1 at *
  have r2 := T2.rowb
  go_wp2_with fail
  refine (words_any _ g1 0 n (4 * n) (bytesD xs) hbl (bytesD_bts xs) r2 (by omega) T2.ltb).mono ?_
  rintro e w3 ⟨rfl, ow3⟩
  have T3 := T2.carry ow3.below
  clear T2 ow3 r2 hb2
  go_wp2_with fail
  refine (hexAll_any _ (hT.below T3.below h0) gw 0 n cw xs hx wx T3.roww (by omega) T3.ltw (by have := T3.ltw; omega)).mono ?_
  rintro e w4 ⟨rfl, hb4⟩
  have T4 := T3.carry hb4
  clear T3 hb4
  go_wp2_with fail
  go_loopw [6] (fun i wr => ∃ t : Nat, t ≤ n + 6 ∧ i = .int .i64 t ∧ ∃ xs' bs', Turn W wr gw cw g1 n xs' bs') (fun i _ => n + 7 - (intOf i).toNat)
  case atStart => exact ⟨0, Nat.zero_le _, rfl, xs, bytesD xs, T4⟩
  case round =>
    clear T4
    obtain ⟨t, ht, rfl, xs', bs', T⟩ := hrel
    by_cases hlt : t < n
    · have c1 := T.cellw t hlt
      have f1 := T.ow.frozenAt t
      obtain ⟨y0, y1⟩ := T.xw t
      generalize xs'.getD t 0 = y at *
      have c2 : ∀ u, (wr.setCell ⟨gw, t, none⟩ (.int .u32 u)).cell? ⟨g1, 4 * t + 3, none⟩ = some (.int .u8 (bs'.getD (4 * t + 3) 0)) := fun u => by
        rw [World.cell?_setCell_far _ _ _ _ T.ne]
        exact T.cellb _ (by omega)
      have f2 : ∀ u, (wr.setCell ⟨gw, t, none⟩ (.int .u32 u)).frozen? ⟨g1, 4 * t + 3, none⟩ = false := fun u => by
        rw [World.frozen?_setCell]; exact T.ob.frozenAt _
      obtain ⟨z0, z1⟩ := T.bw (4 * t + 3)
      generalize bs'.getD (4 * t + 3) 0 = z at *
      go_wp2
      refine ⟨⟨t + 7, by omega, by go_num, _, _, (T.setw t hlt _ ?_ ?_).setb (4 * t + 3) _ (xor1 z z0 z1).1 (xor1 z z0 z1).2⟩, by simp [intOf]; omega⟩
      · exact (not1 y y0 y1).1
      · exact (not1 y y0 y1).2
    · have hown0 : wr.ownsRow wr.heap.size 22 1 (.slice none 0 0) 0 [] := World.ownsRow_nil _ _ _ _
      have hlen : (xs'.map (Value.int .u32)).length = n * 1 := by simp [T.xl]
      have hc := At.cells (.inr ⟨gw, 0, rfl, T.ltw, T.roww⟩)
      have h63 : 0 + n ≤ maxLen := by unfold maxLen; omega
      have hby : (0 + n) * 4 ≤ 140737488355328 := by omega
      go_wp2_with (first | (at_builtin; refine wpList_append_own _ rfl _ _ 32 rfl wr.heap.size 22 i0 (.int .u32 0) 1 4 Tryd.underlying32 hi hz0 hz1 hz2 rfl (by decide) (.slice none 0 0) 0 [] rfl hown0 ⟨gw, 0, none⟩ n cw (xs'.map (Value.int .u32)) rfl hlen hc (ints_oneCell .u32 xs') h63 hby (Nat.le_refl _) ?_))
      intro v1 w5 hown1 hgrow1 _
      have HH : Holds wr w5 .u32 22 v1 xs' := Holds.grow (Below.refl _ _) (fun g hg => by cases hg) hown1 hgrow1 (by simp [T.xl]) (by simp)
      obtain ⟨no, nc, hv, at5, hnn⟩ := HH.at'
      rw [T.xl] at hv hnn
      subst hv
      have T5 := T.carry HH.below
      have s5 := HH.below.size
      clear hown1 hgrow1 hc hown0 hlen HH T h63 hby
      have r5 := T5.rowb
      go_wp2_with fail
      refine (words_any _ g1 0 n (4 * n) bs' T5.bl T5.bw r5 (by omega) T5.ltb).mono ?_
      rintro e w6 ⟨rfl, ow6⟩
      have T6 := T5.carry ow6.below
      have b6 := ow6.blk
      have at6 := at5.below ow6.below
      have s6 := ow6.lt
      clear ow6 T5 at5 r5
      go_wp2_with fail
      refine (rwords_any _ (some ⟨g1, 0, none⟩) n (4 * n) bs' T6.bl T6.bw (.inr ⟨g1, 0, rfl, T6.ltb, T6.rowb⟩) (by omega)).mono ?_
      rintro e w7 ⟨v, rfl, F7⟩
      have T7 := T6.carry F7.below
      have at7 := at6.below F7.below
      have b7 := b6.below F7.below s6
      have hb7 := T7.below
      have hvl : (wordsD bs' n).length = n := partW_length _ _ _
      obtain ⟨vo, vc, hv, av7, hvn⟩ := F7.at'
      rw [hvl] at hv hvn
      subst hv
      clear F7 T6 at6 b6
      have rw7 := T7.roww
      have lw7 := T7.ltw
      have xl := T7.xl
      have xw := T7.xw
      have hyl : (bytesD xs').length = 4 * n := by rw [bytesD_length, xl]
      have hT7 := hT.below hb7 h0
      have BYTES : Hid (∀ w, Below w7.heap.size w7 w → Calls Tryd.prog 14 #[.slice (some ⟨gw, 0, none⟩) n cw] w fun e w' => ∃ g, e = .returned (.slice (some ⟨g, 0, none⟩) (4 * n) (4 * n)) ∧ At w' .u8 (some ⟨g, 0, none⟩) (bytesD xs') ∧ Below w7.heap.size w7 w' ∧ (convert 36 9 (.slice (some ⟨g, 0, none⟩) (4 * n) (4 * n))).run Tryd.prog w' = .ok (.string (strOfNums (bytesD xs'))) w') := fun w hw => by
        have hsz := hw.size
        refine (bytes_any w (hT7.below hw (by omega)) gw 0 n cw xs' xl xw (rw7.below hw (by omega)) (by omega) (by omega) (by omega)).mono ?_
        rintro e w' ⟨rfl, F⟩
        exact ⟨_, rfl, F.owned.blk.at, hw.trans (F.below.mono hw.size), conv_at F.owned.blk.at _ _ hyl⟩
      have RBYTES : Hid (∀ w g, Below w7.heap.size w7 w → At w .u8 (some ⟨g, 0, none⟩) (bytesD xs') → Calls Tryd.prog 30 #[.slice no n nc] w fun e w' => ∃ ro rc, e = .returned (.slice ro (4 * n) rc) ∧ Below w7.heap.size w7 w' ∧ (convert 36 9 (.slice (some ⟨g, 0, none⟩) (4 * n) (4 * n))).run Tryd.prog w' = .ok (.string (strOfNums (bytesD xs'))) w' ∧ (convert 36 9 (.slice ro (4 * n) rc)).run Tryd.prog w' = .ok (.string (strOfNums (bytesD xs'))) w') := fun w g hw hg => by
        refine (rbytes_at w no n nc xs' xl xw (at7.below hw) (by omega)).mono ?_
        rintro e w' ⟨v, rfl, F⟩
        obtain ⟨ro, rc, hv, hr, _⟩ := F.at'
        rw [hyl] at hv
        subst hv
        exact ⟨ro, rc, rfl, hw.trans (F.below.mono hw.size), conv_at (hg.below F.below) _ _ hyl, conv_at hr _ _ hyl⟩
      have HEX : Hid (∀ w, Below w7.heap.size w7 w → Calls Tryd.prog 15 #[.slice (some ⟨gw, 0, none⟩) n cw] w fun e w' => e = .returned (.string (strOfNums (hexD xs'))) ∧ Below w7.heap.size w7 w') := fun w hw => by
        have hsz := hw.size
        refine (hexAll_any w (hT7.below hw (by omega)) gw 0 n cw xs' xl xw (rw7.below hw (by omega)) (by omega) (by omega) (by omega)).mono ?_
        rintro e w' ⟨rfl, F⟩
        exact ⟨rfl, hw.trans (F.mono hw.size)⟩
      have RHEX : Hid (∀ w, Below w7.heap.size w7 w → Calls Tryd.prog 41 #[.slice no n nc] w fun e w' => e = .returned (.string (strOfNums (hexD xs'))) ∧ Below w7.heap.size w7 w') := fun w hw => by
        refine (rhexAll_any w no n nc xs' xl xw (at7.below hw) (by omega)).mono ?_
        rintro e w' ⟨rfl, F⟩
        exact ⟨rfl, hw.trans (F.mono hw.size)⟩
      have SAME : Hid (∀ w, Below w7.heap.size w7 w → Calls Tryd.prog 18 #[.slice (some ⟨w5.heap.size, 0, none⟩) n n, .slice vo n vc] w fun e w' => e = .returned (.bool true) ∧ Below w7.heap.size w7 w') := fun w hw => by
        refine (lawSame_yes w _ _ n _ _ (wordsD bs' n) hvl (b7.at.below hw) (av7.below hw) (by omega)).mono ?_
        rintro e w' ⟨rfl, q, rfl⟩
        exact ⟨rfl, below_drewN hw q⟩
      have DR : Hid (Below w7.heap.size w7 w7.drew) := (Below.refl _ _).drew
      clear rw7 at7 b7 av7 T7
      go_wp2_with fail
      go_region_with (first | (go_at_call 14; refine (BYTES.out _ DR.out).mono ?_; rintro e wa ⟨ga, rfl, hata, hba, cva⟩) | (go_at_call 30; refine (RBYTES.out _ _ hba hata).mono ?_; rintro e wb ⟨ro, rc, rfl, hbb, cvx, cvy⟩) | (go_at_call 15; refine (HEX.out _ hbb).mono ?_; rintro e wc ⟨rfl, hbc⟩) | (go_at_call 41; refine (RHEX.out _ hbc).mono ?_; rintro e wd ⟨rfl, hbd⟩) | (go_at_call 18; refine (SAME.out _ hbd).mono ?_; rintro e we ⟨rfl, hbe⟩))
      all_goals
        have FIN : Hid (Below W.heap.size W we) := hb7.trans (hbe.mono hb7.size)
        clear BYTES RBYTES HEX RHEX SAME hata hba cva hbb cvx cvy hbc hbd hbe
        go_wp2
        go_ret
        refine ⟨?_, FIN.out⟩
        clear FIN DR
        simp
        exact read_put _ 2 _ (by simp [size_put])
end Go.Proofs.YtlfnpllojinjdaaDoor
