import Derived.Test.YtbjinmlelchmgaaGreatDoorP27
import Derived.Test.YtbjinmlelchmgaaGreatDoorP07
namespace Go.Proofs.YtbjinmlelchmgaaGreatDoor
open Go.RowKit
set_option maxRecDepth 100000
set_option maxHeartbeats 8000000
theorem second_any (w : World) (v : Value) (k : Int) : Calls Tryz.prog 16 #[v, .int .i64 k] w fun e w' => e = .returned (.int .i64 k) ∧ w' = w := by
  go_enter Tryz.func16, Tryz.ntmps16
  go_wp2_with fail
  go_ret
  exact ⟨rfl, rfl⟩
theorem third_any (w : World) (v : Value) (c k : Int) : Calls Tryz.prog 18 #[v, .int .i64 c, .int .i64 k] w fun e w' => e = .returned (.int .i64 k) ∧ w' = w := by
  go_enter Tryz.func18, Tryz.ntmps18
  go_wp2_with fail
  go_ret
  exact ⟨rfl, rfl⟩
theorem AtB.lie {w : World} {ao : Option Addr} {l : List UInt8} (h : AtB w ao l) : Lie w ao (Lib.byteCells l) := by
  rcases h with h | ⟨b, o, e, _, hc⟩
  · exact .inl (by subst h; rfl)
  · refine .inr ⟨b, o, e, fun j u hu => ?_⟩
    have hj : j < l.length := by
      have := (List.getElem?_eq_some_iff.1 hu).1
      simpa [Lib.byteCells] using this
    rw [hc j hj]
    simp only [Lib.byteCells, List.getElem?_map, List.getElem?_eq_getElem hj] at hu
    exact hu
theorem StrsAt.lie {w : World} {ao : Option Addr} {l : List (List UInt8)} (h : StrsAt w ao l) : Lie w ao (strsV l) := by
  rcases h with h | ⟨b, o, e, _, hc⟩
  · exact .inl (by subst h; rfl)
  · refine .inr ⟨b, o, e, fun j u hu => ?_⟩
    have hj : j < l.length := by
      have := (List.getElem?_eq_some_iff.1 hu).1
      simpa [strsV] using this
    rw [hc j hj]
    simp only [strsV, List.getElem?_map, List.getElem?_eq_getElem hj] at hu
    exact hu
theorem bytes_one (l : List UInt8) : ∀ u ∈ Lib.byteCells l, u.oneCell' = true := fun u hu => by
  obtain ⟨b, _, rfl⟩ := List.mem_map.1 hu
  rfl
theorem strs_one (l : List (List UInt8)) : ∀ u ∈ strsV l, u.oneCell' = true := fun u hu => by
  obtain ⟨b, _, rfl⟩ := List.mem_map.1 hu
  rfl
theorem bytes_len (l : List UInt8) : (Lib.byteCells l).length = l.length := by simp [Lib.byteCells]
theorem bytes_app (l m : List UInt8) : Lib.byteCells (l ++ m) = Lib.byteCells l ++ Lib.byteCells m := by simp [Lib.byteCells]
def marks (j : Nat) : List UInt8 := (List.range j).map UInt8.ofNat
theorem marks_succ (j : Nat) : marks (j + 1) = marks j ++ [UInt8.ofNat j] := by simp [marks, List.range_succ]
theorem marks_len (j : Nat) : (marks j).length = j := by simp [marks]
theorem wrap8 (j : Nat) : ((UInt8.ofNat j).toNat : Int) = (j : Int) % 256 := by
  simp
def brw (v : Value) (l : List UInt8) : Rr := ⟨5, 1, v, l.length, Lib.byteCells l⟩
theorem lent_any (X w : World) (R : List Rr) (H : List Hk) (h : KS X w R H) (ab : Option Addr) (n c : Nat) (l : List UInt8) (hl : l.length = n) (hn : n ≤ 10000000) (hat : AtB w ab l) :
    Calls Tryz.prog 20 #[.slice ab n c] w fun e w' => ∃ v, e = .returned v ∧ KS X w' (brw v (l ++ marks 300) :: R) H := by
  have q1 : (n : Int) ≤ 10000000 := by omega
  have H0 : Hid (KS X w (brw (.slice none 0 0) [] :: R) H) := hid (h.add (brw (.slice none 0 0) []) (Below.refl _ _) (World.ownsRow_nil _ _ _ _))
  have HA := hid hat.lie
  have HL := hid hl
  clear h hat hl
  go_enter Tryz.func20, Tryz.ntmps20
  go_upto_region 3 with (at_builtin; refine wpList_append_s rfl _ _ 26 5 rfl Tryz.underlying26 Tryz.info5 rfl (by decide) (by decide) rfl H0.out.own0 H0.out.below.size rfl (by rw [bytes_len, HL.out]; omega) HA.out (bytes_one l) (by show 0 + n ≤ _; omega) ?_; intro v1 w1 hal; have H1 : Hid (KS X w1 (brw v1 (l ++ marks 0) :: R) H) := hid (by have := H0.out.app 0 rfl hal; simp only [List.set_cons_zero] at this; unfold brw; rw [bytes_app, List.length_append, HL.out, marks_len]; simpa [Lib.byteCells, marks, brw] using this); clear hal H0)
  go_wp2_with fail
  go_loopw [3, 4] (fun v3 i wr => ∃ (j : Nat) (v : Value), j ≤ 300 ∧ i = .int .i64 (j : Int) ∧ v = v3 ∧ Hid (KS X wr (brw v (l ++ marks j) :: R) H)) (fun _ i _ => 300 - (intOf i).toNat)
  case atStart => exact ⟨0, v1, by omega, rfl, rfl, H1⟩
  case round =>
    clear H1
    obtain ⟨j, v, hj, rfl, rfl, HB⟩ := hrel
    by_cases hlt : j < 300
    · have q2 : (j : Int) < 300 := by omega
      have HW8 := hid (wrap8 j)
      go_wp2_with (at_builtin; refine wpList_append_s rfl _ _ 26 5 rfl Tryz.underlying26 Tryz.info5 rfl (by decide) (by decide) rfl (HB.out.on (below_one _ _)).own0 (HB.out.on (below_one _ _)).below.size rfl (m := 1) rfl (cel_new _ 5 [.int .u8 ((j : Int) % 256)]).lie (by simp [Value.oneCell']) (by rw [List.length_append, marks_len, HL.out]; omega) ?_; intro v2 w2 hal; have HB2 : Hid (KS X w2 (brw v2 (l ++ marks (j + 1)) :: R) H) := hid (by have := (HB.out.on (below_one _ _)).app 0 rfl hal; simp only [List.set_cons_zero] at this; unfold brw; rw [marks_succ, ← List.append_assoc, bytes_app, show (l ++ marks j ++ [UInt8.ofNat j]).length = (l ++ marks j).length + 1 from by simp only [List.length_append, List.length_cons, List.length_nil]]; show KS X w2 (⟨5, 1, v2, _, _ ++ [.int .u8 ((UInt8.ofNat j).toNat : Int)]⟩ :: R) H; rw [HW8.out]; exact this); clear hal HB)
      go_roundw
      case measure => simp [intOf] <;> omega
      case rel => exact ⟨j + 1, v2, by omega, by simp, rfl, HB2⟩
    · have hj3 : j = 300 := by omega
      subst hj3
      go_wp2_with fail
      go_ret
      exact ⟨_, rfl, HB.out⟩
structure Iw where
  g : Nat
  c : Nat
  r : List (List UInt8)
def endV : Value := .string ⟨#[101, 110, 100]⟩
def Iw.row (x : Iw) : Rr := ⟨9, 1, .slice (some ⟨x.g, 0, none⟩) (x.r.length + 4) x.c, x.r.length + 4, strsV x.r ++ rp 4 [endV]⟩
def Iw.vl (x : Iw) : Value := .slice (some ⟨x.g, 0, none⟩) x.r.length x.c
def orow (v : Value) (L : List Iw) : Rr := ⟨24, 1, v, L.length, L.map Iw.vl⟩
theorem orow_snoc (v : Value) (L : List Iw) (y : Iw) : (⟨24, 1, v, L.length + 1, L.map Iw.vl ++ [y.vl]⟩ : Rr) = orow v (L ++ [y]) := by simp [orow]
theorem Tryz.info24 : (Tryz.prog.info? 24).map (fun i => (i.zero, i.size, i.bytes)) = some (some (.slice none 0 0), 1, 24) := by kernel_rfl
theorem snoc_row {W w : World} {a b : Rr} {L R : List Rr} {H : List Hk} (h : KS W w (a :: b :: (L ++ R)) H) : KS W w (b :: ((L ++ [a]) ++ R)) H :=
  h.perm (by
    have : (a :: ((b :: L) ++ R)).Perm ((b :: L) ++ a :: R) := List.perm_middle.symm
    simpa using this)
theorem own_some2 {w : World} {B : Nat} {e : TypeId} {s : Nat} {v : Value} {n : Nat} {xs : List Value} (h : w.ownsRow B e s v n xs) (hs : 0 < s) (hn : 0 < n) : ∃ g c, v = .slice (some ⟨g, 0, none⟩) n c := by
  obtain ⟨ao, c, rfl⟩ := own_frm h hs
  obtain ⟨g, rfl⟩ := own_some h hn
  exact ⟨g, c, rfl⟩
theorem two_frm' {w : World} {B n : Nat} {v : Value} {xs : List Value} (h : w.ownsRow B 9 1 v n xs) : ∃ a c, v = .slice a n c := own_frm h (by decide)
def rowsR (v : Value) (e1 e2 : Nat) (L : List Iw) : List Rr := ⟨24, 1, v, L.length + 2, L.map Iw.vl ++ [.slice (some ⟨e1, 0, none⟩) 1 1, .slice (some ⟨e2, 0, none⟩) 1 1]⟩ :: bx 9 e1 [endV] :: bx 9 e2 [endV] :: L.map Iw.row
theorem rows_any (X w : World) (R : List Rr) (H : List Hk) (h : KS X w R H) (ar : Option Addr) (n c : Nat) (rws : List (List (List UInt8))) (hl : rws.length = n) (hn : n ≤ 10000000) (hr : ∀ r ∈ rws, r.length ≤ 10000000) (hat : RowsAt X ar rws) :
    Calls Tryz.prog 21 #[.slice ar n c] w fun e w' => ∃ v e1 e2 L, e = .returned v ∧ L.map Iw.r = rws ∧ KS X w' (rowsR v e1 e2 L ++ R) H := by
  have q1 : (n : Int) ≤ 10000000 := by omega
  have H0 : Hid (KS X w (orow (.slice none 0 0) [] :: ((([] : List Iw).map Iw.row) ++ R)) H) := hid (h.add (orow (.slice none 0 0) []) (Below.refl _ _) (World.ownsRow_nil _ _ _ _))
  have HAT : Hid (∀ (k : Nat) (hk : k < rws.length), ∃ b o ai ci, ar = some ⟨b, o, none⟩ ∧ b < X.heap.size ∧ X.cell? ⟨b, o + k, none⟩ = some (.slice ai rws[k].length ci) ∧ StrsAt X ai rws[k]) := hid (fun k hk => by
    rcases hat with h0 | ⟨b, o, e, hb, hc⟩
    · subst h0; simp at hk
    · obtain ⟨ai, ci, h1, h2⟩ := hc k hk
      exact ⟨b, o, ai, ci, e, hb, h1, h2⟩)
  have HL := hid hl
  have HRL := hid hr
  clear h hat hl hr
  go_enter Tryz.func21, Tryz.ntmps21
  go_wp2_with fail
  go_loopw [3, 4, 5] (fun v3 i u5 wr => ∃ (k : Nat) (v : Value) (L : List Iw), k ≤ n ∧ i = .int .i64 (k : Int) ∧ v = v3 ∧ L.map Iw.r = rws.take k ∧ Hid (KS X wr (orow v L :: (L.map Iw.row ++ R)) H)) (fun _ i _ _ => n - (intOf i).toNat)
  case atStart => exact ⟨0, _, [], Nat.zero_le _, rfl, rfl, rfl, H0⟩
  case round =>
    clear H0
    obtain ⟨k, v, L, hk, rfl, rfl, hLr, HK⟩ := hrel
    have hLl : L.length ≤ 10000000 := by have := congrArg List.length hLr; rw [List.length_map, List.length_take] at this; omega
    by_cases hlt : k < n
    · have q2 : (k : Int) < (n : Int) := by omega
      have hkl : k < rws.length := by rw [HL.out]; exact hlt
      obtain ⟨b, o, ai, ci, rfl, hb, hc, hs⟩ := HAT.out k hkl
      have c0 : wr.cell? ⟨b, o + k, none⟩ = some (.slice ai rws[k].length ci) := by rw [HK.out.below.cell (p := ⟨b, o + k, none⟩) hb]; exact hc
      have HC0 : Hid (∀ w2, Below X.heap.size X w2 → w2.cell? ⟨b, o + k, none⟩ = some (.slice ai rws[k].length ci)) := hid (fun w2 h2 => by rw [h2.cell (p := ⟨b, o + k, none⟩) hb]; exact hc)
      have HTK : Hid (rws.take (k + 1) = rws.take k ++ [rws[k]]) := hid (by rw [List.take_add_one, List.getElem?_eq_getElem hkl]; rfl)
      have hrk := HRL.out rws[k] (List.getElem_mem _)
      generalize hx : rws[k] = x at *
      have HS := hid hs.lie
      have HSX := hid hs
      clear hc hs HAT hx hkl
      have q4 : (x.length : Int) ≤ 10000000 := by omega
      have H1 := hid (HK.out.add ⟨9, 1, .slice none 0 0, 0, []⟩ (Below.refl _ _) (World.ownsRow_nil _ _ _ _))
      clear HK
      go_upto_region 7 with (at_builtin; refine wpList_append_s rfl _ _ 24 9 rfl Tryz.underlying24 Tryz.info9 rfl (by decide) (by decide) rfl H1.out.own0 H1.out.below.size rfl (by rw [strsV_length]; omega) (HSX.out.on H1.out.below).lie (strs_one x) (by omega) ?_; intro v1 w1 hal; have H2 : Hid (KS X w1 (⟨9, 1, v1, x.length, strsV x⟩ :: orow v L :: (L.map Iw.row ++ R)) H) := hid (by have := H1.out.app 0 rfl hal; simp only [List.set_cons_zero, Nat.zero_add, List.nil_append] at this; exact this); clear hal H1)
      obtain ⟨a1, c1, rfl⟩ := two_frm' H2.out.own0
      go_upto_region 8 with (at_builtin; refine wpList_append_s rfl _ _ 24 9 rfl Tryz.underlying24 Tryz.info9 rfl (by decide) (by decide) rfl (H2.out.on (below_one _ _)).own0 (H2.out.on (below_one _ _)).below.size rfl (m := 4) (st := 1) rfl (cel_new _ 9 [endV, endV, endV, endV]).lie (by simp [Value.oneCell', endV]) (by omega) ?_; intro v2 w2 hal; have H3 : Hid (KS X w2 (⟨9, 1, v2, x.length + 4, strsV x ++ rp 4 [endV]⟩ :: orow v L :: (L.map Iw.row ++ R)) H) := hid (by have := (H2.out.on (below_one _ _)).app 0 rfl hal; simp only [List.set_cons_zero] at this; exact this); clear hal H2)
      obtain ⟨g2, c2, rfl⟩ := own_some2 H3.out.own0 (by decide) (by omega)
      have q5 := own_cap H3.out.own0
      have c5 := HC0.out w2 H3.out.below
      have q6 : (x.length : Int) ≤ (c2 : Int) := by omega
      have q7 : (0 : Int) ≤ (x.length : Int) := by omega
      clear c0 HC0
      go_wp2_with (at_builtin; refine wpList_append_s rfl _ _ 32 24 rfl Tryz.underlying32 Tryz.info24 rfl (by decide) (by decide) rfl ((H3.out.on (below_one _ _)).mem (i := 1) rfl) (H3.out.on (below_one _ _)).below.size rfl (m := 1) (st := 1) rfl (cel_new _ 24 [(⟨g2, c2, x⟩ : Iw).vl]).lie (by simp [Value.oneCell', Iw.vl]) (by show L.length + 1 ≤ _; omega) ?_; intro v3 w3 hal; have H4 : Hid (KS X w3 (Iw.row ⟨g2, c2, x⟩ :: orow v3 (L ++ [⟨g2, c2, x⟩]) :: (L.map Iw.row ++ R)) H) := hid (by have := (H3.out.on (below_one _ _)).app 1 rfl hal; simp only [List.set_cons_zero, List.set_cons_succ] at this; rw [← orow_snoc]; exact this); clear hal H3)
      go_roundw
      case measure => simp [intOf] <;> omega
      case rel => exact ⟨k + 1, v3, L ++ [⟨g2, c2, x⟩], by omega, by simp, rfl, by rw [List.map_append, hLr, HTK.out]; rfl, hid (by have := snoc_row H4.out; rw [List.map_append]; exact this)⟩
    · have hkn : k = n := by omega
      subst hkn
      have HLR : Hid (L.map Iw.r = rws) := hid (by rw [hLr, List.take_of_length_le (by rw [HL.out]; exact Nat.le_refl _)])
      have hLn : L.length = rws.length := by have := congrArg List.length HLR.out; simpa using this
      clear hLr HAT
      have H5 := hid ((HK.out.box 9 [endV]).box 9 [endV])
      rw [World.size_alloc] at H5
      have HB2 := hid (below_one ((wr.alloc (.cells #[endV] 9)).alloc (.cells #[endV] 9)) (.cells #[.slice (some ⟨wr.heap.size, 0, none⟩) 1 1, .slice (some ⟨wr.heap.size + 1, 0, none⟩) 1 1] 24))
      have hcn := cel_new ((wr.alloc (.cells #[endV] 9)).alloc (.cells #[endV] 9)) 24 [.slice (some ⟨wr.heap.size, 0, none⟩) 1 1, .slice (some ⟨wr.heap.size + 1, 0, none⟩) 1 1]
      rw [World.size_alloc, World.size_alloc] at hcn
      have HCN := hid hcn
      clear hcn
      clear HK
      go_wp2_with (at_builtin; refine wpList_append_s rfl _ _ 32 24 rfl Tryz.underlying32 Tryz.info24 rfl (by decide) (by decide) rfl ((H5.out.on HB2.out).mem (i := 2) rfl) (H5.out.on HB2.out).below.size rfl (m := 2) (st := 1) rfl HCN.out.lie (by simp [Value.oneCell']) (by show L.length + 2 ≤ _; omega) ?_; intro v3 w3 hal; have H6 := hid ((H5.out.on HB2.out).app 2 rfl hal); clear hal H5)
      go_ret
      refine ⟨v3, wr.heap.size, wr.heap.size + 1, L, rfl, HLR.out, ?_⟩
      have h6 := H6.out
      simp only [List.set_cons_zero, List.set_cons_succ] at h6
      exact h6.perm (((List.Perm.swap _ _ _).trans ((List.Perm.swap _ _ _).cons _)).trans (List.Perm.swap _ _ _))
end Go.Proofs.YtbjinmlelchmgaaGreatDoor
namespace Go.Proofs.YtbjinmlelchmgaaGreatDoor
open Go.RowKit
set_option maxRecDepth 100000
set_option maxHeartbeats 8000000
def lnV (s : ByteArray) : List (List UInt8) := if 65536 < s.size then [] else T.lines s.data.toList
def lnE (s : ByteArray) : Int := if 65536 < s.size then 2 else 0
def wdV (s : ByteArray) : List T.Wd := match T.rd s.data.toList 0 with
  | .inl _ => []
  | .inr ws => ws
def wdE (s : ByteArray) : Int := match T.rd s.data.toList 0 with
  | .inl _ => 40
  | .inr _ => 0
theorem wdV_len (s : ByteArray) : (wdV s).length ≤ s.size := by
  have hN := rd_len s.data.toList 0
  rw [size_list] at hN
  unfold wdV
  cases h : T.rd s.data.toList 0 with
  | inl x => simp
  | inr ws => rw [h] at hN; exact hN
theorem lnV_len (s : ByteArray) (hs : s.size ≤ 1048576) : (lnV s).length ≤ 1048577 := by
  unfold lnV
  split
  · simp
  · unfold T.lines
    have := cutL_len s.data.toList
    rw [size_list] at this
    split
    · rw [List.length_dropLast]; omega
    · omega
theorem own_strs {w : World} {B : Nat} {v : Value} {l : List (List UInt8)} (h : w.ownsRow B 9 1 v l.length (strsV l)) : ∃ ao c, v = .slice ao l.length c ∧ StrsAt w ao l := by
  obtain ⟨ao, c, rfl⟩ := own_frm h (by decide)
  refine ⟨ao, c, rfl, ?_⟩
  rcases Nat.eq_zero_or_pos l.length with h0 | h0
  · exact .inl (List.eq_nil_of_length_eq_zero h0)
  · obtain ⟨g, rfl⟩ := own_some h h0
    refine .inr ⟨g, 0, rfl, (own_lt2 h rfl).2, fun i hi => ?_⟩
    exact own_rng h i _ (by simp [strsV, hi])
theorem own_atb {w : World} {B : Nat} {v : Value} {l : List UInt8} (h : w.ownsRow B 5 1 v l.length (Lib.byteCells l)) : ∃ ao c, v = .slice ao l.length c ∧ AtB w ao l := by
  obtain ⟨ao, c, rfl⟩ := own_frm h (by decide)
  refine ⟨ao, c, rfl, ?_⟩
  rcases Nat.eq_zero_or_pos l.length with h0 | h0
  · exact .inl (List.eq_nil_of_length_eq_zero h0)
  · obtain ⟨g, rfl⟩ := own_some h h0
    refine .inr ⟨g, 0, rfl, (own_lt2 h rfl).2, fun i hi => ?_⟩
    exact own_rng h i _ (by simp [Lib.byteCells, hi])
theorem conv_at {w : World} {ao : Option Addr} {l : List UInt8} (n c : Nat) (h : AtB w ao l) (hn : l.length = n) : (convert 26 9 (.slice ao n c)).run Tryz.prog w = .ok (.string ⟨l.toArray⟩) w := by
  subst hn
  rcases h with h0 | ⟨b, o, rfl, hb, hc⟩
  · subst h0
    rw [List.length_nil]
    cases ao with
    | none => rw [run_convert_bytes_string (P := Tryz.prog) w 26 9 5 none 0 c Tryz.underlying26 Tryz.underlying5 Tryz.underlying9]; rfl
    | some a => exact run_convert_bytes_back (P := Tryz.prog) w 26 9 5 a c [] Tryz.underlying26 Tryz.underlying5 Tryz.underlying9 (fun j hj => absurd hj (by simp))
  · exact run_convert_bytes_back (P := Tryz.prog) w 26 9 5 ⟨b, o, none⟩ c l Tryz.underlying26 Tryz.underlying5 Tryz.underlying9 (fun j hj => by rw [addr_add]; exact hc j hj)
theorem lines_p (w : World) (s : ByteArray) (m : Int) (hs : s.size ≤ 1048576) (hm : w.cell? ⟨1, 0, none⟩ = some (.int .i64 m)) :
    Calls Tryz.prog 12 #[.string s] w fun e w' => ∃ v, e = .returned (.tuple #[v, .int .i64 (lnE s)]) ∧ w'.ownsRow w.heap.size 9 1 v (lnV s).length (strsV (lnV s)) ∧ Below w.heap.size w w' := by
  by_cases hb : 65536 < s.size
  · refine (lines_long w s hb (by omega)).mono ?_
    rintro e w' ⟨rfl, rfl⟩
    refine ⟨.slice none 0 0, ?_, ?_, Below.refl _ _⟩
    · rw [lnE, if_pos hb]
    · rw [lnV, if_pos hb]; exact World.ownsRow_nil _ _ _ _
  · refine (lines_own w s m (by omega) hm).mono ?_
    rintro e w' ⟨g, c, rfl, h, hb2⟩
    refine ⟨.slice (some ⟨g, 0, none⟩) (T.lines s.data.toList).length c, ?_, ?_, hb2⟩
    · rw [lnE, if_neg hb]
    · rw [lnV, if_neg hb]; exact h
theorem lines_r (w : World) (s : ByteArray) (hs : s.size ≤ 1048576) :
    Calls Tryz.prog 17 #[.string s] w fun e w' => ∃ ao c, e = .returned (.tuple #[.slice ao (lnV s).length c, .int .i64 (lnE s)]) ∧ StrsAt w' ao (lnV s) ∧ Below w.heap.size w w' := by
  refine (rlines_any w s (by omega)).mono ?_
  intro e w' h
  unfold LnPost at h
  by_cases hb : 65536 < s.size
  · rw [if_pos hb] at h
    obtain ⟨rfl, hb2⟩ := h
    rw [lnV, lnE, if_pos hb, if_pos hb]
    exact ⟨none, 0, rfl, .inl rfl, hb2⟩
  · rw [if_neg hb] at h
    obtain ⟨v, rfl, F⟩ := h
    rw [lnV, lnE, if_neg hb, if_neg hb]
    have ho := F.own
    rw [strsV_length] at ho
    obtain ⟨ao, c, rfl, h2⟩ := own_strs ho
    exact ⟨ao, c, rfl, h2, F.below⟩
theorem words_p (w : World) (s : ByteArray) (hs : s.size ≤ 1048576) :
    Calls Tryz.prog 13 #[.string s] w fun e w' => ∃ v k, e = .returned (.tuple #[v, .int .i64 k, .int .i64 (wdE s)]) ∧ w'.ownsRow w.heap.size 61 3 v (wdV s).length (wdsC (wdV s)) ∧ Below w.heap.size w w' := by
  refine (words_any w s (by omega)).mono ?_
  intro e w' h
  unfold wdV wdE
  cases hr : T.rd s.data.toList 0 with
  | inl x =>
    rw [hr] at h
    obtain ⟨rfl, hb⟩ := h
    exact ⟨_, _, rfl, World.ownsRow_nil _ _ _ _, hb⟩
  | inr ws =>
    rw [hr] at h
    obtain ⟨v, rfl, F⟩ := h
    exact ⟨v, _, rfl, F.own, F.below⟩
theorem words_r (w : World) (s : ByteArray) (hs : s.size ≤ 1048576) :
    Calls Tryz.prog 19 #[.string s] w fun e w' => ∃ ao c k, e = .returned (.tuple #[.slice ao (wdV s).length c, .int .i64 k, .int .i64 (wdE s)]) ∧ WdsAt w' ao (wdV s) ∧ Below w.heap.size w w' := by
  refine (rwords_any w s (by omega)).mono ?_
  intro e w' h
  unfold T.words at h
  unfold wdV wdE
  cases hr : T.rd s.data.toList 0 with
  | inl x =>
    rw [hr] at h
    obtain ⟨rfl, hb⟩ := h
    exact ⟨none, 0, _, rfl, .inl rfl, hb⟩
  | inr ws =>
    rw [hr] at h
    obtain ⟨v, rfl, F⟩ := h
    obtain ⟨ao, c, rfl, h2⟩ := own_wds F.own
    exact ⟨ao, c, _, rfl, h2, F.below⟩
structure OpF (X : World) (s : ByteArray) (ab ar : Option Addr) (nb nr : Nat) (l : List UInt8) (rws : List (List (List UInt8))) : Prop where
  ls : s.size ≤ 1048576
  hnb : l.length = nb
  lb : nb ≤ 1048576
  ab : AtB X ab l
  hnr : rws.length = nr
  ar : RowsAt X ar rws
  wt : T.Z.wt rws ≤ 1048576
def opC (k p u i : Int) (s : ByteArray) (ab ar : Option Addr) (nb cb nr cr : Nat) : List Value := [.int .i64 k, .string s, .int .i64 p, .slice ab nb cb, .int .u32 u, .int .i32 i, .slice ar nr cr]
theorem told_any (X w : World) (hX : Below X.heap.size X w) (k p u i : Int) (s : ByteArray) (ab ar : Option Addr) (nb cb nr cr : Nat) (l : List UInt8) (rws : List (List (List UInt8))) (ho : OpF X s ab ar nb nr l rws)
    (a1 a2 a3 : Option Addr) (c1 c2 c3 : Nat) (y1 y2 y3 y4 : Value) (h1 : StrsAt w a1 (lnV s)) (h2 : WdsAt w a2 (wdV s)) (h3 : AtB w a3 l) :
    Calls Tryz.prog 7 #[.agg #[.slice a1 (lnV s).length c1, y1, .slice a2 (wdV s).length c2, y2, .slice a3 l.length c3, y3, y4], .agg #[.int .i64 k, .string s, .int .i64 p, .slice ab nb cb, .int .u32 u, .int .i32 i, .slice ar nr cr]] w fun e w' => e = .returned (.bool true) ∧ Below w.heap.size w w' := by
  have HL1 : Hid (∀ w, Calls Tryz.prog 17 #[.string s] w fun e w' => ∃ ao c, e = .returned (.tuple #[.slice ao (lnV s).length c, .int .i64 (lnE s)]) ∧ StrsAt w' ao (lnV s) ∧ Below w.heap.size w w') := hid (fun w => lines_r w s ho.ls)
  have HL2 : Hid (∀ w, Calls Tryz.prog 19 #[.string s] w fun e w' => ∃ ao c k, e = .returned (.tuple #[.slice ao (wdV s).length c, .int .i64 k, .int .i64 (wdE s)]) ∧ WdsAt w' ao (wdV s) ∧ Below w.heap.size w w') := hid (fun w => words_r w s ho.ls)
  have hq1 := lnV_len s ho.ls
  have hq2 := wdV_len s
  have hq3 := ho.ls
  have HL3 : Hid (∀ w b1 b2 d1 d2, StrsAt w b1 (lnV s) → StrsAt w b2 (lnV s) → Calls Tryz.prog 26 #[.slice b1 (lnV s).length d1, .slice b2 (lnV s).length d2] w fun e w' => e = .returned (.bool true) ∧ Below w.heap.size w w') := hid (fun w b1 b2 d1 d2 g1 g2 => same_any w b1 b2 _ d1 d2 _ rfl (by omega) g1 g2)
  have HL4 : Hid (∀ w b1 b2 d1 d2, WdsAt w b1 (wdV s) → WdsAt w b2 (wdV s) → Calls Tryz.prog 27 #[.slice b1 (wdV s).length d1, .slice b2 (wdV s).length d2] w fun e w' => e = .returned (.bool true) ∧ Below w.heap.size w w') := hid (fun w b1 b2 d1 d2 g1 g2 => sameWords_any w b1 b2 _ d1 d2 _ rfl (by omega) g1 g2)
  have HK0 := hid (((KS.start w).box 28 [.slice a1 (lnV s).length c1, y1, .slice a2 (wdV s).length c2, y2, .slice a3 l.length c3, y3, y4]).box 34 [.int .i64 k, .string s, .int .i64 p, .slice ab nb cb, .int .u32 u, .int .i32 i, .slice ar nr cr])
  rw [World.size_alloc] at HK0
  have HA1 := hid h1
  have HA2 := hid h2
  have HA3 := hid h3
  have HA4 : Hid (AtB w ab l) := hid (ho.ab.on hX)
  have HNB := hid ho.hnb
  clear h1 h2 h3 ho hX hq1 hq2 hq3
  generalize lnV s = L1 at *
  generalize wdV s = L2 at *
  generalize lnE s = e1 at *
  generalize wdE s = e2 at *
  go_enter Tryz.func7, Tryz.ntmps7
  go_wp2_with fail
  refine (HL1.out _).mono ?_
  rintro e w1 ⟨b1, d1, rfl, hs1, hb1⟩
  have HK1 := hid (HK0.out.on hb1)
  have HS1 := hid hs1
  clear hs1 hb1 HK0
  have k1 := (HK1.out.cel 0 rfl).cell 1
  simp only [List.getElem?_cons_zero, List.getElem?_cons_succ] at k1
  go_wp2_with fail
  refine (HL2.out _).mono ?_
  rintro e w2 ⟨b2, d2, k2, rfl, hs2, hb2⟩
  have HK2 := hid (HK1.out.on hb2)
  have HS2 := hid (HS1.out.on hb2)
  have HS3 := hid hs2
  clear hs2 hb2 HK1 k1 HS1
  have f0 := (HK2.out.cel 1 rfl).cell 0
  simp only [List.getElem?_cons_zero] at f0
  go_wp2_with fail
  refine (HL3.out _ _ _ _ _ (HA1.out.on HK2.out.below) HS2.out).mono ?_
  rintro e w3 ⟨rfl, hb3⟩
  have HK3 := hid (HK2.out.on hb3)
  have HS4 := hid (HS3.out.on hb3)
  clear hb3 HK2 f0
  have f2 := (HK3.out.cel 1 rfl).cell 2
  simp only [List.getElem?_cons_zero, List.getElem?_cons_succ] at f2
  go_wp2_with fail
  refine (HL4.out _ _ _ _ _ (HA2.out.on HK3.out.below) HS4.out).mono ?_
  rintro e w4 ⟨rfl, hb4⟩
  have HK4 := hid (HK3.out.on hb4)
  clear hb4 HK3 f2
  have f4 := (HK4.out.cel 1 rfl).cell 4
  have o3 := (HK4.out.cel 0 rfl).cell 3
  simp only [List.getElem?_cons_zero, List.getElem?_cons_succ] at f4 o3
  have g1 := conv_at l.length c3 (HA3.out.on HK4.out.below) rfl
  have g2 := conv_at nb cb (HA4.out.on HK4.out.below) HNB.out
  go_wp2_with fail
  go_ret
  exact ⟨rfl, HK4.out.below⟩
end Go.Proofs.YtbjinmlelchmgaaGreatDoor
namespace Go.Proofs.YtbjinmlelchmgaaGreatDoor
open Go.RowKit
theorem cutM {A B C D E F I J K : Type} {P M : World → A → B → C → D → E → F → I → J → K → Prop} {G : Prop} (main : (∀ w a b c d e f i j k, P w a b c d e f i j k → M w a b c d e f i j k) → G) (fin : ∀ w a b c d e f i j k, P w a b c d e f i j k → M w a b c d e f i j k) : G := main fin
theorem wp_store_box {P : Program} {op : Oper} {a : Act} {w : World} {K : Act → World → Prop} {Q : Exit → Act → World → Prop} (ty : TypeId) (x y : Operand) (ho : op.op = .store ty x y)
    (g : Nat) (cs : List Value) (hx : a.eval x = .pointer (some ⟨g, 0, none⟩)) (hy : a.eval y = .agg cs.toArray) {e : TypeId} {L : List Value} (hg : Cel w g e L) (hi : (P.info? ty).map (·.size) = some cs.length) (hl : L.length = cs.length) (h1 : cs.toArray.all (·.oneCell') = true)
    (h : K (a.put op.dst undef) (w.setRow g cs.toArray)) : op.wp P a w K Q := by
  have hs : (Instr.storeAt ty (.pointer (some ⟨g, 0, none⟩)) (.agg cs.toArray)).run P w = .ok () (w.setRow g cs.toArray) := by
    simp only [Instr.storeAt, Instr.sureAddr, Sem.run_bind, Sem.run_pure, Result.andThen]
    exact run_storeVar_row w g e ty _ _ hg (by rw [hi]; simp) (by simp [hl]) h1
  unfold Oper.wp execOp
  simp only [ho, hx, hy, Sem.run_bind, Sem.run_pure, hs, Result.andThen_ok]
  exact h
theorem listed_to {P : Program} {md : Region.Mode} {ops : Array Oper} {Q : Exit → Act → World → Prop} {S : World → Prop} {fuel : Nat} {l l' : Array Bool} {a : Act} {w : World} (h : l = l') (k : wpAnyH P md ops Q S fuel l' a w) : wpAnyH P md ops Q S fuel l a w := h ▸ k
theorem KS.hsub {W w : World} {R : List Rr} {H H' : List Hk} (h : KS W w R H) (hs : ∀ x ∈ H', x ∈ H) : KS W w R H' := ⟨h.below, h.own, h.ap, fun x hx => h.each x (hs x hx), fun i r hr g hg x hx => h.off i r hr g hg x (hs x hx)⟩
theorem perm_erase (r : Rr) : ∀ (R : List Rr) (i : Nat), R[i]? = some r → R.Perm (r :: R.eraseIdx i)
  | [], i, h => by simp at h
  | a :: R, 0, h => by
    simp only [List.getElem?_cons_zero, Option.some.injEq] at h
    subst h
    simp
  | a :: R, i + 1, h => by
    rw [List.getElem?_cons_succ] at h
    rw [List.eraseIdx_cons_succ]
    exact ((perm_erase r R i h).cons a).trans (List.Perm.swap _ _ _)
theorem KS.keepAt {W w w' : World} {R : List Rr} {H : List Hk} {e : TypeId} {st n : Nat} {v v' : Value} {cs : List Value} (h : KS W w R H) (i : Nat) (hz : R[i]? = some ⟨e, st, v, n, rp n cs⟩) (hcs : cs.length = st) (ha : Two2 w w' W.heap.size e st v v' n 1 (rp n cs ++ cs)) : KS W w' (R.eraseIdx i) (⟨e, st, v, v', n, n + 1, cs⟩ :: H) := by
  have hp := perm_erase _ R i hz
  exact keep1 (h.perm hp) hcs ha
theorem KS.boxAt {W w : World} {R : List Rr} {H : List Hk} (h : KS W w R H) (k : Nat) (hk : k ≤ R.length) (e : TypeId) (cs : List Value) : KS W (w.alloc (.cells cs.toArray e)) (R.insertIdx k (bx e w.heap.size cs)) H :=
  (h.box e cs).perm (List.perm_insertIdx _ _ hk).symm
end Go.Proofs.YtbjinmlelchmgaaGreatDoor
