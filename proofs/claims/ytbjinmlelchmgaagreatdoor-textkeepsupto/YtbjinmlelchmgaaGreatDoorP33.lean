import Derived.Test.YtbjinmlelchmgaaGreatDoorP32
import Derived.Test.YtbjinmlelchmgaaGreatDoorP01
namespace Go.Proofs.YtbjinmlelchmgaaGreatDoor
open Go.RowKit
set_option maxRecDepth 100000
set_option maxHeartbeats 8000000
def prw (g n c : Nat) (l : List UInt8) : Rr := ⟨5, 1, .slice (some ⟨g, 0, none⟩) (n + 300) c, n + 300, Lib.byteCells l⟩
def KF (w wr : World) (gp nb cp g1 : Nat) (cs : List Value) (g4 nr c4 e1 e2 : Nat) (l : List UInt8) (L : List Iw) : Prop := KS w wr (prw gp nb cp l :: bx 34 g1 cs :: rowsR (.slice (some ⟨g4, 0, none⟩) (nr + 2) c4) e1 e2 L) []
variable {w wr wr2 : World} {gp nb cp g1 g4 nr c4 e1 e2 : Nat} {cs : List Value} {l : List UInt8} {L : List Iw}
theorem KF.of (h : KS w wr (rowsR (.slice (some ⟨g4, 0, none⟩) (nr + 2) c4) e1 e2 L ++ [prw gp nb cp l, bx 34 g1 cs]) []) : KF w wr gp nb cp g1 cs g4 nr c4 e1 e2 l L :=
  h.perm (List.perm_append_comm (l₂ := [prw gp nb cp l, bx 34 g1 cs]))
theorem KF.to (h : KF w wr gp nb cp g1 cs g4 nr c4 e1 e2 l L) : KS w wr (rowsR (.slice (some ⟨g4, 0, none⟩) (nr + 2) c4) e1 e2 L ++ [prw gp nb cp l, bx 34 g1 cs]) [] :=
  KS.perm h (List.perm_append_comm (l₁ := [prw gp nb cp l, bx 34 g1 cs]))
theorem KF.on (h : KF w wr gp nb cp g1 cs g4 nr c4 e1 e2 l L) (hb : Below wr.heap.size wr wr2) : KF w wr2 gp nb cp g1 cs g4 nr c4 e1 e2 l L := KS.on h hb
theorem KF.rf2 (h : KF w wr gp nb cp g1 cs g4 nr c4 e1 e2 l L) : L.length = nr ∧ RF wr g4 c4 e1 e2 L := by
  obtain ⟨g, c, hv, hr⟩ := h.to.rf
  injection hv with h1 h2 h3
  injection h1 with h1
  injection h1 with h1
  subst h1 h3
  exact ⟨by omega, hr⟩
theorem KF.own0 (h : KF w wr gp nb cp g1 cs g4 nr c4 e1 e2 l L) : wr.ownsRow w.heap.size 5 1 (.slice (some ⟨gp, 0, none⟩) (nb + 300) cp) (nb + 300) (Lib.byteCells l) := KS.own0 h
theorem KF.cel (h : KF w wr gp nb cp g1 cs g4 nr c4 e1 e2 l L) : Cel wr g1 34 cs := KS.cel h 1 rfl
theorem handed_any (X w : World) (hX : Below X.heap.size X w) (k p u i : Int) (s : ByteArray) (ab ar : Option Addr) (nb cb nr cr : Nat) (l : List UInt8) (rws : List (List (List UInt8))) (ho' : OpF X s ab ar nb nr l rws) :
    Calls Tryz.prog 6 #[.agg #[.int .i64 k, .string s, .int .i64 p, .slice ab nb cb, .int .u32 u, .int .i32 i, .slice ar nr cr]] w fun e w' => e = .returned (.bool true) ∧ Below w.heap.size w w' := by
  have ho := ho'.on hX
  have HB0 := hid (RB.of ho.wt)
  have hbd := HB0.out.bounds
  have q1 : (nb : Int) ≤ 1048576 := by have := ho.lb; omega
  have q2 : (nr : Int) ≤ 1048576 := by have := hbd.1; have := ho.hnr; omega
  have q1' : nb ≤ 1048576 := ho.lb
  have q2' : nr ≤ 1048576 := by omega
  have HO := hid ho
  have HQ := hid (fun (w : World) (a : Option Addr) (c : Nat) (l' : List UInt8) (h1 : l'.length = nb) (h2 : AtB w a l') => quote_any w a nb c l' h1 (by omega) h2)
  have HR := hid (fun (w : World) (a : Option Addr) (c : Nat) (l' : List UInt8) (h1 : l'.length = nb) (h2 : AtB w a l') => rquote_any w a nb c l' h1 (by omega) h2)
  have HC := hid (fun (w : World) (a : Option Addr) (c N : Nat) (rs : List (List (List UInt8))) (h1 : rs.length = nr) (h2 : RowsAt w a rs) (h3 : RB rs N) => columns_any w a nr c rs h1 (by omega) (fun r hr => ⟨by have := (h3.bounds.2.1 r hr).1; omega, fun x hx => by have := (h3.bounds.2.1 r hr).2 x hx; omega⟩) h2 (by have := h3.bounds.2.2.2; omega))
  have HD := hid (fun (w : World) (a : Option Addr) (c N : Nat) (rs : List (List (List UInt8))) (h1 : rs.length = nr) (h2 : RowsAt w a rs) (h3 : RB rs N) => rcolumns_any w a nr c rs h1 (by omega) (fun r hr => ⟨by have := (h3.bounds.2.1 r hr).1; omega, fun x hx => by have := (h3.bounds.2.1 r hr).2 x hx; omega⟩) h2 (fun r hr => h3.bounds.2.2.1 r hr) h3.bounds.2.2.2)
  have HK0 := hid ((KS.start w).box 34 [.int .i64 k, .string s, .int .i64 p, .slice ab nb cb, .int .u32 u, .int .i32 i, .slice ar nr cr])
  have HRL : Hid (∀ r ∈ rws, r.length ≤ 10000000) := hid (fun r hr => by have := (hbd.2.1 r hr).1; omega)
  clear ho ho' hX hbd
  go_enter Tryz.func6, Tryz.ntmps6
  go_wp2_with fail
  refine (lent_any w _ _ _ HK0.out ab nb cb l HO.out.hnb (by omega) (HO.out.ab.on HK0.out.below)).mono ?_
  rintro e w1 ⟨v3, rfl, hk1⟩
  have HK1 := hid hk1
  clear hk1 HK0
  generalize w.heap.size = g1 at *
  have hpl : (l ++ marks 300).length = nb + 300 := by rw [List.length_append, marks_len, HO.out.hnb]
  obtain ⟨gp, cp, rfl⟩ := own_some2 HK1.out.own0 (by decide) (by omega)
  have HK1 : Hid (KS w w1 [prw gp nb cp (l ++ marks 300), bx 34 g1 [.int .i64 k, .string s, .int .i64 p, .slice ab nb cb, .int .u32 u, .int .i32 i, .slice ar nr cr]] []) := hid (by have := HK1.out; unfold brw at this; rw [hpl] at this; exact this)
  rw [hpl]
  clear hpl
  have z6 := (HK1.out.cel 1 rfl).cell 6
  simp only [List.getElem?_cons_zero, List.getElem?_cons_succ] at z6
  go_wp2_with fail
  refine (rows_any w w1 _ _ HK1.out ar nr cr rws HO.out.hnr (by omega) HRL.out HO.out.ar).mono ?_
  rintro e w2 ⟨v4, e1, e2, L, rfl, hLr, hk2⟩
  subst hLr
  have HLn : Hid (L.length = nr) := hid (by have := HO.out.hnr; simpa using this)
  have hlq := HLn.out
  obtain ⟨g4, c4, rfl, hrf⟩ := hk2.rf
  rw [hlq] at hk2 ⊢
  have HK2 : Hid (KF w w2 gp nb cp g1 [.int .i64 k, .string s, .int .i64 p, .slice ab nb cb, .int .u32 u, .int .i32 i, .slice ar nr cr] g4 nr c4 e1 e2 (l ++ marks 300) L) := hid (KF.of hk2)
  clear hk2 hrf hlq HK1 z6
  have y3 := (HK2.out.cel).cell 3
  have y6 := (HK2.out.cel).cell 6
  simp only [List.getElem?_cons_zero, List.getElem?_cons_succ] at y3 y6
  have q3 : (nb : Int) ≤ (cp : Int) := by have := own_cap HK2.out.own0; omega
  have q4 : (nr : Int) ≤ (c4 : Int) := by have := HK2.out.rf2.2.cap; have := HLn.out; omega
  have q5 : (0 : Int) ≤ (nb : Int) := by omega
  have q6 : (0 : Int) ≤ (nr : Int) := by omega
  go_wp2_with fail
  refine (HQ.out _ _ _ l HO.out.hnb (own_pre HK2.out.own0)).mono ?_
  rintro e w3 ⟨rfl, hb3⟩
  have HK3 : Hid (KF w w3 gp nb cp g1 [.int .i64 k, .string s, .int .i64 p, .slice ab nb cb, .int .u32 u, .int .i32 i, .slice ar nr cr] g4 nr c4 e1 e2 (l ++ marks 300) L) := hid (HK2.out.on hb3)
  clear hb3 HK2 y3 y6
  have y6 := (HK3.out.cel).cell 6
  simp only [List.getElem?_cons_zero, List.getElem?_cons_succ] at y6
  go_wp2_with fail
  refine (HC.out _ _ _ _ (L.map Iw.r) (by rw [List.length_map]; exact HLn.out) HK3.out.rf2.2.rows HB0.out).mono ?_
  rintro e w4 ⟨rfl, hb4⟩
  have HK4 : Hid (KF w w4 gp nb cp g1 [.int .i64 k, .string s, .int .i64 p, .slice ab nb cb, .int .u32 u, .int .i32 i, .slice ar nr cr] g4 nr c4 e1 e2 (l ++ marks 300) L) := hid (HK3.out.on hb4)
  clear hb4 HK3 y6
  go_upto_region 5 with fail
  have HLM : Hid ((l ++ marks 300).length = nb + 300) := hid (by rw [List.length_append, marks_len, HO.out.hnb])
  have HL1 : Hid (∀ w', Below w.heap.size w w' → Calls Tryz.prog 20 #[.slice ab nb cb] w' fun e w2 => ∃ a c, e = .returned (.slice a (nb + 300) c) ∧ AtB w2 a (l ++ marks 300) ∧ Below w'.heap.size w' w2) := hid (fun w' hw => (lent_any w' w' [] [] (KS.start w') ab nb cb l HO.out.hnb (by omega) (HO.out.ab.on hw)).mono (by
    rintro e w2 ⟨v, rfl, hk⟩
    obtain ⟨a, c, rfl, h2⟩ := own_atb (KS.own0 hk)
    exact ⟨a, c, by rw [HLM.out], h2, hk.below⟩))
  have HA : Hid (∀ w', Below w4.heap.size w4 w' → AtB w' (some ⟨gp, 0, none⟩) (l ++ marks 300)) := hid (fun w' hw => by
    have h := HK4.out.own0
    rw [← List.append_nil (l ++ marks 300)] at h
    exact (own_pre h).on hw)
  have hz3 := (HK4.out.cel).cell 3
  have hz6 := (HK4.out.cel).cell 6
  have hzl := (HK4.out.cel).lt
  simp only [List.getElem?_cons_zero, List.getElem?_cons_succ] at hz3 hz6
  have HZ := hid (fun (w' : World) (hw : Below w4.heap.size w4 w') => And.intro ((hw.cell (p := ⟨g1, 3, none⟩) hzl).trans hz3) ((hw.cell (p := ⟨g1, 6, none⟩) hzl).trans hz6))
  clear hz3 hz6 hzl
  have HR1 : Hid (∀ w', Below w.heap.size w w' → Calls Tryz.prog 23 #[.slice ab nb cb] w' fun e w2 => e = .returned (.string ⟨(T.quote l).toArray⟩) ∧ Below w'.heap.size w' w2) := hid (fun w' hw => HR.out w' ab cb l HO.out.hnb (HO.out.ab.on hw))
  have HD1 : Hid (∀ w', Below w.heap.size w w' → Calls Tryz.prog 24 #[.slice ar nr cr] w' fun e w2 => e = .returned (.string ⟨(T.columns (L.map Iw.r)).toArray⟩) ∧ Below w'.heap.size w' w2) := hid (fun w' hw => HD.out w' ar cr _ (L.map Iw.r) (by rw [List.length_map]; exact HLn.out) (HO.out.ar.on hw) HB0.out)
  have HU : Hid (∀ w', RF w' g4 c4 e1 e2 L → RowsAt w' ar (L.map Iw.r) → Calls Tryz.prog 25 #[.slice (some ⟨g4, 0, none⟩) (nr + 2) c4, .slice ar nr cr] w' fun e w2 => e = .returned (.bool true) ∧ Below w'.heap.size w' w2) := hid (fun w' h1 h2 => by
    have h3 := HLn.out
    rw [← h3]
    exact unchanged_any w' g4 c4 e1 e2 L ar cr (by omega) (fun x hx => HRL.out _ (List.mem_map.2 ⟨x, hx, rfl⟩)) h1 h2)
  generalize (⟨(T.quote l).toArray⟩ : ByteArray) = sq at *
  generalize (⟨(T.columns (L.map Iw.r)).toArray⟩ : ByteArray) = st at *
  generalize l ++ marks 300 = lm at *
  have HK5 : Hid (KF w w4.drew gp nb cp g1 [.int .i64 k, .string s, .int .i64 p, .slice ab nb cb, .int .u32 u, .int .i32 i, .slice ar nr cr] g4 nr c4 e1 e2 lm L) := hid (HK4.out.on (Below.refl _ _).drew)
  have HS5 : Hid (Below w4.heap.size w4 w4.drew) := hid (Below.refl _ _).drew
  refine wp_region_held_drew (S := fun w => Below w4.heap.size w4 w) (by kernel_rfl) (Below.refl _ _).drew (fun hHeld => ?_)
  clear hHeld
  revert HK5 HS5
  generalize World.drew w4 = w5
  intro HK5 HS5
  have hHeld : Below w4.heap.size w4 w5 := HS5.out
  refine tk 0 ⟨some 27, .move (.tmp 5), 9, "law.go:240", #[], none⟩ (.string sq) ?_
  simp only [Act.put, List.setIfInBounds_toArray, List.set_cons_zero, List.set_cons_succ]
  refine tk 1 ⟨some 28, .fieldAddr 34 (.tmp 1) 3, 0, "law.go:240", #[], none⟩ (.pointer (some ⟨g1, 3, none⟩)) ?_
  simp only [Act.put, List.setIfInBounds_toArray, List.set_cons_zero, List.set_cons_succ]
  refine tk 2 ⟨some 29, .load 26 (.tmp 28), 26, "law.go:240", #[⟨1, .data⟩], none⟩ (.slice ab nb cb) ?_ (hy := Or.inl ⟨by rfl, by intro w hSw; have z := (HZ.out w hSw).1; go_simp⟩)
  simp only [Act.put, List.setIfInBounds_toArray, List.set_cons_zero, List.set_cons_succ]
  refine wpAnyH_ready (rs := [3]) (by kernel_rfl) (by simp) (AllReadyH.cons (o := ⟨some 30, .call { callee := .value (.func 23), args := #[.tmp 29], argTypes := #[26] }, 9, "law.go:240", #[⟨2, .data⟩], none⟩) rfl (fun KQ hK => ?_) AllReadyH.nil)
  go_simp
  refine (HR1.out _ (KS.below HK5.out)).mono ?_
  rintro e w6 ⟨rfl, hb6⟩
  have HS6 := hid (Below.trans HS5.out (hb6.mono HS5.out.size))
  have HK6 : Hid (KF w w6 gp nb cp g1 [.int .i64 k, .string s, .int .i64 p, .slice ab nb cb, .int .u32 u, .int .i32 i, .slice ar nr cr] g4 nr c4 e1 e2 lm L) := hid (HK5.out.on hb6)
  clear hb6 HK5 HS5
  go_wp2_with fail
  refine hK.out _ _ HS6.out (fun hHeld => ?_)
  clear hK KQ
  try simp only [Act.put, List.setIfInBounds_toArray, List.set_cons_zero, List.set_cons_succ]
  refine tk 4 ⟨some 31, .binOp .neq 9 (.tmp 27) (.tmp 30) 9, 4, "law.go:240", #[⟨0, .data⟩, ⟨3, .data⟩], none⟩ (.bool false) ?_
  simp only [Act.put, List.setIfInBounds_toArray, List.set_cons_zero, List.set_cons_succ]
  refine tk 5 ⟨some 32, .move (.tmp 31), 4, "law.go:240", #[⟨4, .data⟩, ⟨3, .chain⟩], none⟩ (.bool false) ?_
  simp only [Act.put, List.setIfInBounds_toArray, List.set_cons_zero, List.set_cons_succ]
  refine tk 6 ⟨some 33, .move (.tmp 6), 9, "law.go:240", #[⟨5, .guard⟩], some (5, false)⟩ (.string st) ?_
  simp only [Act.put, List.setIfInBounds_toArray, List.set_cons_zero, List.set_cons_succ]
  refine tk 7 ⟨some 34, .fieldAddr 34 (.tmp 1) 6, 0, "law.go:240", #[⟨5, .guard⟩], some (5, false)⟩ (.pointer (some ⟨g1, 6, none⟩)) ?_
  simp only [Act.put, List.setIfInBounds_toArray, List.set_cons_zero, List.set_cons_succ]
  refine tk 8 ⟨some 35, .load 32 (.tmp 34), 32, "law.go:240", #[⟨7, .data⟩, ⟨5, .guard⟩], some (5, false)⟩ (.slice ar nr cr) ?_ (hy := Or.inl ⟨by rfl, by intro w hSw; have z := (HZ.out w hSw).2; go_simp⟩)
  simp only [Act.put, List.setIfInBounds_toArray, List.set_cons_zero, List.set_cons_succ]
  refine wpAnyH_ready (rs := [9]) (by kernel_rfl) (by simp) (AllReadyH.cons (o := ⟨some 36, .call { callee := .value (.func 24), args := #[.tmp 35], argTypes := #[32] }, 9, "law.go:240", #[⟨8, .data⟩, ⟨5, .chain⟩, ⟨5, .guard⟩], some (5, false)⟩) rfl (fun KQ hK => ?_) AllReadyH.nil)
  go_simp
  refine (HD1.out _ (KS.below HK6.out)).mono ?_
  rintro e w7 ⟨rfl, hb7⟩
  have HS7 := hid (Below.trans HS6.out (hb7.mono HS6.out.size))
  have HK7 : Hid (KF w w7 gp nb cp g1 [.int .i64 k, .string s, .int .i64 p, .slice ab nb cb, .int .u32 u, .int .i32 i, .slice ar nr cr] g4 nr c4 e1 e2 lm L) := hid (HK6.out.on hb7)
  clear hb7 HK6 HS6
  go_wp2_with fail
  refine hK.out _ _ HS7.out (fun hHeld => ?_)
  clear hK KQ
  try simp only [Act.put, List.setIfInBounds_toArray, List.set_cons_zero, List.set_cons_succ]
  refine tk 10 ⟨some 37, .binOp .neq 9 (.tmp 33) (.tmp 36) 9, 4, "law.go:240", #[⟨6, .data⟩, ⟨9, .data⟩, ⟨5, .guard⟩], some (5, false)⟩ (.bool false) ?_
  simp only [Act.put, List.setIfInBounds_toArray, List.set_cons_zero, List.set_cons_succ]
  refine tk 11 ⟨some 38, .pick (.tmp 32) (.const (.bool true)) (.tmp 37), 4, "law.go:240", #[⟨5, .data⟩, ⟨10, .data⟩], none⟩ (.bool false) ?_
  simp only [Act.put, List.setIfInBounds_toArray, List.set_cons_zero, List.set_cons_succ]
  refine tk 12 ⟨some 39, .move (.tmp 38), 4, "law.go:240", #[⟨11, .data⟩, ⟨9, .chain⟩], none⟩ (.bool false) ?_
  simp only [Act.put, List.setIfInBounds_toArray, List.set_cons_zero, List.set_cons_succ]
  refine tk 13 ⟨some 40, .move (.tmp 3), 26, "law.go:240", #[⟨12, .guard⟩], some (12, false)⟩ (.slice (some ⟨gp, 0, none⟩) (nb + 300) cp) ?_
  simp only [Act.put, List.setIfInBounds_toArray, List.set_cons_zero, List.set_cons_succ]
  refine tk 14 ⟨some 41, .convert 26 9 (.tmp 40), 9, "law.go:240", #[⟨13, .data⟩, ⟨12, .guard⟩], some (12, false)⟩ (.string (⟨lm.toArray⟩ : ByteArray)) ?_ (hy := Or.inl ⟨by rfl, by intro w hSw; have z := conv_at (nb + 300) cp (HA.out w hSw) HLM.out; go_simp⟩)
  simp only [Act.put, List.setIfInBounds_toArray, List.set_cons_zero, List.set_cons_succ]
  refine tk 15 ⟨some 42, .fieldAddr 34 (.tmp 1) 3, 0, "law.go:240", #[⟨12, .guard⟩], some (12, false)⟩ (.pointer (some ⟨g1, 3, none⟩)) ?_
  simp only [Act.put, List.setIfInBounds_toArray, List.set_cons_zero, List.set_cons_succ]
  refine tk 16 ⟨some 43, .load 26 (.tmp 42), 26, "law.go:240", #[⟨15, .data⟩, ⟨12, .guard⟩], some (12, false)⟩ (.slice ab nb cb) ?_ (hy := Or.inl ⟨by rfl, by intro w hSw; have z := (HZ.out w hSw).1; go_simp⟩)
  simp only [Act.put, List.setIfInBounds_toArray, List.set_cons_zero, List.set_cons_succ]
  refine wpAnyH_ready (rs := [17]) (by kernel_rfl) (by simp) (AllReadyH.cons (o := ⟨some 44, .call { callee := .value (.func 20), args := #[.tmp 43], argTypes := #[26] }, 26, "law.go:240", #[⟨16, .data⟩, ⟨12, .chain⟩, ⟨12, .guard⟩], some (12, false)⟩) rfl (fun KQ hK => ?_) AllReadyH.nil)
  go_simp
  refine (HL1.out _ (KS.below HK7.out)).mono ?_
  rintro e w8 ⟨a8, c8, rfl, ha8, hb8⟩
  have HA8 := hid ha8
  clear ha8
  have HS8 := hid (Below.trans HS7.out (hb8.mono HS7.out.size))
  have HK8 : Hid (KF w w8 gp nb cp g1 [.int .i64 k, .string s, .int .i64 p, .slice ab nb cb, .int .u32 u, .int .i32 i, .slice ar nr cr] g4 nr c4 e1 e2 lm L) := hid (HK7.out.on hb8)
  clear hb8 HK7 HS7
  go_wp2_with fail
  refine hK.out _ _ HS8.out (fun hHeld => ?_)
  clear hK KQ
  try simp only [Act.put, List.setIfInBounds_toArray, List.set_cons_zero, List.set_cons_succ]
  refine wpAnyH_ready (rs := [18]) (by kernel_rfl) (by simp) (AllReadyH.cons (o := ⟨some 45, .convert 26 9 (.tmp 44), 9, "law.go:240", #[⟨17, .data⟩, ⟨12, .guard⟩], some (12, false)⟩) rfl (fun KQ hK => ?_) AllReadyH.nil)
  have z := conv_at (nb + 300) c8 HA8.out HLM.out
  go_simp
  refine hK.out _ _ HS8.out (fun hHeld => ?_)
  clear hK KQ
  try simp only [Act.put, List.setIfInBounds_toArray, List.set_cons_zero, List.set_cons_succ]
  refine tk 19 ⟨some 46, .binOp .neq 9 (.tmp 41) (.tmp 45) 9, 4, "law.go:240", #[⟨14, .data⟩, ⟨18, .data⟩, ⟨12, .guard⟩], some (12, false)⟩ (.bool false) ?_
  simp only [Act.put, List.setIfInBounds_toArray, List.set_cons_zero, List.set_cons_succ]
  refine tk 20 ⟨some 47, .pick (.tmp 39) (.const (.bool true)) (.tmp 46), 4, "law.go:240", #[⟨12, .data⟩, ⟨19, .data⟩], none⟩ (.bool false) ?_
  simp only [Act.put, List.setIfInBounds_toArray, List.set_cons_zero, List.set_cons_succ]
  refine tk 21 ⟨some 48, .move (.tmp 47), 4, "law.go:240", #[⟨20, .data⟩, ⟨17, .chain⟩], none⟩ (.bool false) ?_
  simp only [Act.put, List.setIfInBounds_toArray, List.set_cons_zero, List.set_cons_succ]
  refine tk 22 ⟨some 49, .move (.tmp 4), 32, "law.go:240", #[⟨21, .guard⟩], some (21, false)⟩ (.slice (some ⟨g4, 0, none⟩) (nr + 2) c4) ?_
  simp only [Act.put, List.setIfInBounds_toArray, List.set_cons_zero, List.set_cons_succ]
  refine tk 23 ⟨some 50, .fieldAddr 34 (.tmp 1) 6, 0, "law.go:240", #[⟨21, .guard⟩], some (21, false)⟩ (.pointer (some ⟨g1, 6, none⟩)) ?_
  simp only [Act.put, List.setIfInBounds_toArray, List.set_cons_zero, List.set_cons_succ]
  refine tk 24 ⟨some 51, .load 32 (.tmp 50), 32, "law.go:240", #[⟨23, .data⟩, ⟨21, .guard⟩], some (21, false)⟩ (.slice ar nr cr) ?_ (hy := Or.inl ⟨by rfl, by intro w hSw; have z := (HZ.out w hSw).2; go_simp⟩)
  simp only [Act.put, List.setIfInBounds_toArray, List.set_cons_zero, List.set_cons_succ]
  refine wpAnyH_ready (rs := [25]) (by kernel_rfl) (by simp) (AllReadyH.cons (o := ⟨some 52, .call { callee := .value (.func 25), args := #[.tmp 49, .tmp 51], argTypes := #[32, 32] }, 4, "law.go:240", #[⟨22, .data⟩, ⟨24, .data⟩, ⟨21, .chain⟩, ⟨21, .guard⟩], some (21, false)⟩) rfl (fun KQ hK => ?_) AllReadyH.nil)
  go_simp
  refine (HU.out _ HK8.out.rf2.2 (HO.out.ar.on (KS.below HK8.out))).mono ?_
  rintro e w9 ⟨rfl, hb9⟩
  have HS9 := hid (Below.trans HS8.out (hb9.mono HS8.out.size))
  have HK9 : Hid (KF w w9 gp nb cp g1 [.int .i64 k, .string s, .int .i64 p, .slice ab nb cb, .int .u32 u, .int .i32 i, .slice ar nr cr] g4 nr c4 e1 e2 lm L) := hid (HK8.out.on hb9)
  clear hb9 HK8 HS8
  go_wp2_with fail
  refine hK.out _ _ HS9.out (fun hHeld => ?_)
  clear hK KQ
  try simp only [Act.put, List.setIfInBounds_toArray, List.set_cons_zero, List.set_cons_succ]
  refine tk 26 ⟨some 53, .unOp .not 4 (.tmp 52), 4, "law.go:240", #[⟨25, .data⟩, ⟨21, .guard⟩], some (21, false)⟩ (.bool false) ?_
  simp only [Act.put, List.setIfInBounds_toArray, List.set_cons_zero, List.set_cons_succ]
  refine tk 27 ⟨some 54, .pick (.tmp 48) (.const (.bool true)) (.tmp 53), 4, "law.go:240", #[⟨21, .data⟩, ⟨26, .data⟩], none⟩ (.bool false) ?_
  simp only [Act.put, List.setIfInBounds_toArray, List.set_cons_zero, List.set_cons_succ]
  refine wpAnyH_done (by kernel_rfl) ?_ _
  go_wp2_with fail
  go_loopw [7] (fun ii wr => ∃ (j : Nat) (l' : List UInt8), ii = .int .i64 (j : Int) ∧ l'.length = nb + 300 ∧ j ≤ nb + 4 ∧ Hid (KF w wr gp nb cp g1 [.int .i64 k, .string s, .int .i64 p, .slice ab nb cb, .int .u32 u, .int .i32 i, .slice ar nr cr] g4 nr c4 e1 e2 l' L)) (fun ii _ => nb + 5 - (intOf ii).toNat)
  case atStart => exact ⟨0, lm, rfl, HLM.out, by omega, HK9⟩
  case round =>
    obtain ⟨j, l', rfl, hl', hj, HK⟩ := hrel
    have HLL := hid hl'
    have z3 := (HK.out.cel).cell 3
    simp only [List.getElem?_cons_zero, List.getElem?_cons_succ] at z3
    by_cases hlt : j < nb
    · have p1 : (j : Int) < (nb : Int) := by omega
      have p2 : (j : Int) < (nb : Int) + 300 := by omega
      have hjl : j < l'.length := by omega
      have f1 := own_free HK.out.own0 j
      have f2 := own_rng HK.out.own0 j (.int .u8 (l'[j].toNat : Int)) (by simp [Lib.byteCells, hjl])
      rw [Nat.zero_add] at f2
      have f3 := xor1 l'[j].toNat (UInt8.toNat_lt _)
      have HK1 := hid (KS.set1 HK.out 0 rfl j (.int .u8 ((UInt8.ofNat (l'[j].toNat ^^^ 1)).toNat : Int)))
      simp only [List.set_cons_zero] at HK1
      rw [bytes_set] at HK1
      generalize l'[j].toNat = m at *
      generalize UInt8.ofNat (m ^^^ 1) = b at *
      have HK2 : Hid (KF w (wr.setCell ⟨gp, j, none⟩ (.int .u8 (b.toNat : Int))) gp nb cp g1 [.int .i64 k, .string s, .int .i64 p, .slice ab nb cb, .int .u32 u, .int .i32 i, .slice ar nr cr] g4 nr c4 e1 e2 (l'.set j b) L) := HK1
      clear HK HK1 hjl
      go_wp2_with fail
      go_roundw
      case measure => simp [intOf] <;> omega
      case rel => exact ⟨j + 5, l'.set j b, by simp, by rw [List.length_set]; exact HLL.out, by omega, HK2⟩
    · have p1 : (nb : Int) ≤ (j : Int) := by omega
      go_wp2_with fail
      clear z3
      go_loopw [8] (fun ii wr => ∃ (j : Nat) (L' : List Iw), ii = .int .i64 (j : Int) ∧ j ≤ nr ∧ Hid (RB (L'.map Iw.r) (cnt (L.map Iw.r))) ∧ Hid (KF w wr gp nb cp g1 [.int .i64 k, .string s, .int .i64 p, .slice ab nb cb, .int .u32 u, .int .i32 i, .slice ar nr cr] g4 nr c4 e1 e2 l' L')) (fun ii _ => nr - (intOf ii).toNat)
      case atStart => exact ⟨0, L, rfl, Nat.zero_le _, HB0, HK⟩
      case round =>
        clear HK
        obtain ⟨j, L', rfl, hj, HRB, HK⟩ := hrel
        have z6 := (HK.out.cel).cell 6
        simp only [List.getElem?_cons_zero, List.getElem?_cons_succ] at z6
        obtain ⟨hLl, hrf⟩ := HK.out.rf2
        by_cases hlt : j < nr
        · have p1 : (j : Int) < (nr : Int) := by omega
          have p2 : (j : Int) < (nr : Int) + 2 := by omega
          obtain ⟨x, hx⟩ : ∃ x, L'[j]? = some x := ⟨_, List.getElem?_eq_getElem (by omega)⟩
          have z1 : wr.cell? ⟨g4, j, none⟩ = some (.slice (some ⟨x.g, 0, none⟩) x.r.length x.c) := (hrf.at_ j x hx).1
          have hrw : wr.ownsRow w.heap.size 9 1 (.slice (some ⟨x.g, 0, none⟩) (x.r.length + 4) x.c) (x.r.length + 4) (strsV x.r ++ rp 4 [endV]) := KS.inn HK.out.to (r := x.row) (List.mem_append_left _ (List.mem_cons_of_mem _ (List.mem_cons_of_mem _ (List.mem_cons_of_mem _ (List.mem_map.2 ⟨x, List.mem_of_getElem? hx, rfl⟩)))))
          have f1 := own_free hrw 0
          have f2 := own_rng hrw 0
          rw [Nat.zero_add] at f2
          cases hxr : x.r with
          | nil =>
            rw [hxr] at z1
            have HX := hid (And.intro hx hrw)
            clear hx hrw f1 f2 hrf
            go_wp2_with fail
            go_roundw
            case measure => simp [intOf] <;> omega
            case rel => exact ⟨j + 1, L', by simp, by omega, HRB, HK⟩
          | cons c r =>
            rw [hxr] at z1 f2
            have f3 := f2 (.string ⟨c.toArray⟩) rfl
            have hsr := KS.setrow HK.out.to hx hxr [97, 110, 111, 116, 104, 101, 114]
            have hnl : (L'.set j ⟨x.g, x.c, [97, 110, 111, 116, 104, 101, 114] :: r⟩).length = nr := by rw [List.length_set]; exact hLl
            have HK1 : Hid (KF w (wr.setCell ⟨x.g, 0, none⟩ (.string ⟨#[97, 110, 111, 116, 104, 101, 114]⟩)) gp nb cp g1 [.int .i64 k, .string s, .int .i64 p, .slice ab nb cb, .int .u32 u, .int .i32 i, .slice ar nr cr] g4 nr c4 e1 e2 l' (L'.set j ⟨x.g, x.c, [97, 110, 111, 116, 104, 101, 114] :: r⟩)) := hid (KF.of hsr.1)
            have HRB2 : Hid (RB ((L'.set j ⟨x.g, x.c, [97, 110, 111, 116, 104, 101, 114] :: r⟩).map Iw.r) (cnt (L.map Iw.r))) := hid (by
              rw [List.map_set]
              exact HRB.out.set (c := c) (by rw [List.getElem?_map, hx]; simp [hxr]) (by decide))
            have q7 : (0 : Int) < ((c :: r).length : Int) := by simp only [List.length_cons]; omega
            generalize (c :: r).length = nx at *
            generalize L'.set j _ = L2 at *
            clear hx hrw f2 hrf hsr hxr hLl HRB HK
            go_wp2_with fail
            go_roundw
            case measure => simp [intOf] <;> omega
            case rel => exact ⟨j + 1, L2, by simp, by omega, HRB2, HK1⟩
        · have p1 : (nr : Int) ≤ (j : Int) := by omega
          clear hrf
          have HLL := hid hl'
          have hz3 := (HK.out.cel).cell 3
          have hzl := (HK.out.cel).lt
          simp only [List.getElem?_cons_zero, List.getElem?_cons_succ] at hz3
          have HY := hid (fun (w' : World) (hw : Below wr.heap.size wr w') => And.intro ((hw.cell (p := ⟨g1, 3, none⟩) hzl).trans hz3) ((hw.cell (p := ⟨g1, 6, none⟩) hzl).trans z6))
          clear hz3 hzl
          go_upto_region 16 with fail
          clear z6
          have HT : Hid ((l'.take nb).length = nb) := hid (by rw [List.length_take, HLL.out]; omega)
          have HAQ : Hid (∀ v, KF w v gp nb cp g1 [.int .i64 k, .string s, .int .i64 p, .slice ab nb cb, .int .u32 u, .int .i32 i, .slice ar nr cr] g4 nr c4 e1 e2 l' L' → AtB v (some ⟨gp, 0, none⟩) (l'.take nb)) := hid (fun v hv => own_pre (m := l'.drop nb) (by rw [List.take_append_drop]; exact hv.own0))
          have HQ1 : Hid (∀ v, KF w v gp nb cp g1 [.int .i64 k, .string s, .int .i64 p, .slice ab nb cb, .int .u32 u, .int .i32 i, .slice ar nr cr] g4 nr c4 e1 e2 l' L' → Calls Tryz.prog 15 #[.slice (some ⟨gp, 0, none⟩) nb cp] v fun e w2 => e = .returned (.string ⟨(T.quote (l'.take nb)).toArray⟩) ∧ Below v.heap.size v w2) := hid (fun v hv => HQ.out v _ cp _ HT.out (HAQ.out v hv))
          have HQ2 : Hid (∀ v, KF w v gp nb cp g1 [.int .i64 k, .string s, .int .i64 p, .slice ab nb cb, .int .u32 u, .int .i32 i, .slice ar nr cr] g4 nr c4 e1 e2 l' L' → Calls Tryz.prog 23 #[.slice (some ⟨gp, 0, none⟩) nb cp] v fun e w2 => e = .returned (.string ⟨(T.quote (l'.take nb)).toArray⟩) ∧ Below v.heap.size v w2) := hid (fun v hv => HR.out v _ cp _ HT.out (HAQ.out v hv))
          have HQ3 : Hid (∀ v, KF w v gp nb cp g1 [.int .i64 k, .string s, .int .i64 p, .slice ab nb cb, .int .u32 u, .int .i32 i, .slice ar nr cr] g4 nr c4 e1 e2 l' L' → Calls Tryz.prog 22 #[.slice (some ⟨g4, 0, none⟩) nr c4] v fun e w2 => e = .returned (.string ⟨(T.columns (L'.map Iw.r)).toArray⟩) ∧ Below v.heap.size v w2) := hid (fun v hv => HC.out v _ c4 _ _ (by rw [List.length_map]; exact hv.rf2.1) hv.rf2.2.rows HRB.out)
          have HQ4 : Hid (∀ v, KF w v gp nb cp g1 [.int .i64 k, .string s, .int .i64 p, .slice ab nb cb, .int .u32 u, .int .i32 i, .slice ar nr cr] g4 nr c4 e1 e2 l' L' → Calls Tryz.prog 24 #[.slice (some ⟨g4, 0, none⟩) nr c4] v fun e w2 => e = .returned (.string ⟨(T.columns (L'.map Iw.r)).toArray⟩) ∧ Below v.heap.size v w2) := hid (fun v hv => HD.out v _ c4 _ _ (by rw [List.length_map]; exact hv.rf2.1) hv.rf2.2.rows HRB.out)
          clear HT HAQ
          generalize (⟨(T.quote (l'.take nb)).toArray⟩ : ByteArray) = sq2 at *
          generalize (⟨(T.columns (L'.map Iw.r)).toArray⟩ : ByteArray) = st2 at *
          have HK5 : Hid (KF w wr.drew gp nb cp g1 [.int .i64 k, .string s, .int .i64 p, .slice ab nb cb, .int .u32 u, .int .i32 i, .slice ar nr cr] g4 nr c4 e1 e2 l' L') := hid (HK.out.on (Below.refl _ _).drew)
          have HS5 : Hid (Below wr.heap.size wr wr.drew) := hid (Below.refl _ _).drew
          refine wp_region_held_drew (S := fun w => Below wr.heap.size wr w) (by kernel_rfl) (Below.refl _ _).drew (fun hHeld => ?_)
          clear hHeld
          revert HK5 HS5
          generalize World.drew wr = w5
          intro HK5 HS5
          have hHeld : Below wr.heap.size wr w5 := HS5.out
          refine tk 0 ⟨some 88, .move (.tmp 3), 26, "law.go:251", #[], none⟩ (.slice (some ⟨gp, 0, none⟩) (nb + 300) cp) ?_
          simp only [Act.put, List.setIfInBounds_toArray, List.set_cons_zero, List.set_cons_succ]
          refine tk 1 ⟨some 89, .fieldAddr 34 (.tmp 1) 3, 0, "law.go:251", #[], none⟩ (.pointer (some ⟨g1, 3, none⟩)) ?_
          simp only [Act.put, List.setIfInBounds_toArray, List.set_cons_zero, List.set_cons_succ]
          refine tk 2 ⟨some 90, .load 26 (.tmp 89), 26, "law.go:251", #[⟨1, .data⟩], none⟩ (.slice ab nb cb) ?_ (hy := Or.inl ⟨by rfl, by intro w hSw; have z := (HY.out w hSw).1; go_simp⟩)
          simp only [Act.put, List.setIfInBounds_toArray, List.set_cons_zero, List.set_cons_succ]
          refine tk 3 ⟨some 91, .call { callee := .builtin .len, args := #[.tmp 90], argTypes := #[26] }, 3, "law.go:251", #[⟨2, .data⟩], none⟩ (.int .i64 (nb : Int)) ?_
          simp only [Act.put, List.setIfInBounds_toArray, List.set_cons_zero, List.set_cons_succ]
          refine tk 4 ⟨some 92, .slice 26 (.tmp 88) none (some (.tmp 91)) none, 26, "law.go:251", #[⟨0, .data⟩, ⟨3, .data⟩], none⟩ (.slice (some ⟨gp, 0, none⟩) nb cp) ?_
          simp only [Act.put, List.setIfInBounds_toArray, List.set_cons_zero, List.set_cons_succ]
          refine tk 6 ⟨some 94, .move (.tmp 3), 26, "law.go:251", #[], none⟩ (.slice (some ⟨gp, 0, none⟩) (nb + 300) cp) ?_
          simp only [Act.put, List.setIfInBounds_toArray, List.set_cons_zero, List.set_cons_succ]
          refine tk 7 ⟨some 95, .fieldAddr 34 (.tmp 1) 3, 0, "law.go:251", #[], none⟩ (.pointer (some ⟨g1, 3, none⟩)) ?_
          simp only [Act.put, List.setIfInBounds_toArray, List.set_cons_zero, List.set_cons_succ]
          refine tk 8 ⟨some 96, .load 26 (.tmp 95), 26, "law.go:251", #[⟨7, .data⟩], none⟩ (.slice ab nb cb) ?_ (hy := Or.inl ⟨by rfl, by intro w hSw; have z := (HY.out w hSw).1; go_simp⟩)
          simp only [Act.put, List.setIfInBounds_toArray, List.set_cons_zero, List.set_cons_succ]
          refine tk 9 ⟨some 97, .call { callee := .builtin .len, args := #[.tmp 96], argTypes := #[26] }, 3, "law.go:251", #[⟨8, .data⟩], none⟩ (.int .i64 (nb : Int)) ?_
          simp only [Act.put, List.setIfInBounds_toArray, List.set_cons_zero, List.set_cons_succ]
          refine tk 10 ⟨some 98, .slice 26 (.tmp 94) none (some (.tmp 97)) none, 26, "law.go:251", #[⟨6, .data⟩, ⟨9, .data⟩], none⟩ (.slice (some ⟨gp, 0, none⟩) nb cp) ?_
          simp only [Act.put, List.setIfInBounds_toArray, List.set_cons_zero, List.set_cons_succ]
          refine wpAnyH_ready (rs := [5]) (by kernel_rfl) (by simp) (AllReadyH.cons (o := ⟨some 93, .call { callee := .value (.func 15), args := #[.tmp 92], argTypes := #[26] }, 9, "law.go:251", #[⟨4, .data⟩], none⟩) rfl (fun KQ hK => ?_) AllReadyH.nil)
          go_simp
          refine (HQ1.out _ HK5.out).mono ?_
          rintro e v6 ⟨rfl, hb6⟩
          have HS6 := hid (Below.trans HS5.out (hb6.mono HS5.out.size))
          have HK6 : Hid (KF w v6 gp nb cp g1 [.int .i64 k, .string s, .int .i64 p, .slice ab nb cb, .int .u32 u, .int .i32 i, .slice ar nr cr] g4 nr c4 e1 e2 l' L') := hid (HK5.out.on hb6)
          clear hb6 HK5 HS5
          go_wp2_with fail
          refine hK.out _ _ HS6.out (fun hHeld => ?_)
          clear hK KQ
          try simp only [Act.put, List.setIfInBounds_toArray, List.set_cons_zero, List.set_cons_succ]
          refine wpAnyH_ready (rs := [11]) (by kernel_rfl) (by simp) (AllReadyH.cons (o := ⟨some 99, .call { callee := .value (.func 23), args := #[.tmp 98], argTypes := #[26] }, 9, "law.go:251", #[⟨10, .data⟩, ⟨5, .chain⟩], none⟩) rfl (fun KQ hK => ?_) AllReadyH.nil)
          go_simp
          refine (HQ2.out _ HK6.out).mono ?_
          rintro e v7 ⟨rfl, hb7⟩
          have HS7 := hid (Below.trans HS6.out (hb7.mono HS6.out.size))
          have HK7 : Hid (KF w v7 gp nb cp g1 [.int .i64 k, .string s, .int .i64 p, .slice ab nb cb, .int .u32 u, .int .i32 i, .slice ar nr cr] g4 nr c4 e1 e2 l' L') := hid (HK6.out.on hb7)
          clear hb7 HK6 HS6
          go_wp2_with fail
          refine hK.out _ _ HS7.out (fun hHeld => ?_)
          clear hK KQ
          try simp only [Act.put, List.setIfInBounds_toArray, List.set_cons_zero, List.set_cons_succ]
          refine tk 12 ⟨some 100, .binOp .eql 9 (.tmp 93) (.tmp 99) 9, 4, "law.go:251", #[⟨5, .data⟩, ⟨11, .data⟩], none⟩ (.bool true) ?_
          simp only [Act.put, List.setIfInBounds_toArray, List.set_cons_zero, List.set_cons_succ]
          refine tk 13 ⟨some 101, .move (.tmp 100), 4, "law.go:251", #[⟨12, .data⟩, ⟨11, .chain⟩], none⟩ (.bool true) ?_
          simp only [Act.put, List.setIfInBounds_toArray, List.set_cons_zero, List.set_cons_succ]
          refine tk 14 ⟨some 102, .move (.tmp 4), 32, "law.go:251", #[⟨13, .guard⟩], some (13, true)⟩ (.slice (some ⟨g4, 0, none⟩) (nr + 2) c4) ?_
          simp only [Act.put, List.setIfInBounds_toArray, List.set_cons_zero, List.set_cons_succ]
          refine tk 15 ⟨some 103, .fieldAddr 34 (.tmp 1) 6, 0, "law.go:251", #[⟨13, .guard⟩], some (13, true)⟩ (.pointer (some ⟨g1, 6, none⟩)) ?_
          simp only [Act.put, List.setIfInBounds_toArray, List.set_cons_zero, List.set_cons_succ]
          refine tk 16 ⟨some 104, .load 32 (.tmp 103), 32, "law.go:251", #[⟨15, .data⟩, ⟨13, .guard⟩], some (13, true)⟩ (.slice ar nr cr) ?_ (hy := Or.inl ⟨by rfl, by intro w hSw; have z := (HY.out w hSw).2; go_simp⟩)
          simp only [Act.put, List.setIfInBounds_toArray, List.set_cons_zero, List.set_cons_succ]
          refine tk 17 ⟨some 105, .call { callee := .builtin .len, args := #[.tmp 104], argTypes := #[32] }, 3, "law.go:251", #[⟨16, .data⟩, ⟨13, .guard⟩], some (13, true)⟩ (.int .i64 (nr : Int)) ?_
          simp only [Act.put, List.setIfInBounds_toArray, List.set_cons_zero, List.set_cons_succ]
          refine tk 18 ⟨some 106, .slice 32 (.tmp 102) none (some (.tmp 105)) none, 32, "law.go:251", #[⟨14, .data⟩, ⟨17, .data⟩, ⟨13, .guard⟩], some (13, true)⟩ (.slice (some ⟨g4, 0, none⟩) nr c4) ?_
          simp only [Act.put, List.setIfInBounds_toArray, List.set_cons_zero, List.set_cons_succ]
          refine tk 20 ⟨some 108, .move (.tmp 4), 32, "law.go:251", #[⟨13, .guard⟩], some (13, true)⟩ (.slice (some ⟨g4, 0, none⟩) (nr + 2) c4) ?_
          simp only [Act.put, List.setIfInBounds_toArray, List.set_cons_zero, List.set_cons_succ]
          refine tk 21 ⟨some 109, .fieldAddr 34 (.tmp 1) 6, 0, "law.go:251", #[⟨13, .guard⟩], some (13, true)⟩ (.pointer (some ⟨g1, 6, none⟩)) ?_
          simp only [Act.put, List.setIfInBounds_toArray, List.set_cons_zero, List.set_cons_succ]
          refine tk 22 ⟨some 110, .load 32 (.tmp 109), 32, "law.go:251", #[⟨21, .data⟩, ⟨13, .guard⟩], some (13, true)⟩ (.slice ar nr cr) ?_ (hy := Or.inl ⟨by rfl, by intro w hSw; have z := (HY.out w hSw).2; go_simp⟩)
          simp only [Act.put, List.setIfInBounds_toArray, List.set_cons_zero, List.set_cons_succ]
          refine tk 23 ⟨some 111, .call { callee := .builtin .len, args := #[.tmp 110], argTypes := #[32] }, 3, "law.go:251", #[⟨22, .data⟩, ⟨13, .guard⟩], some (13, true)⟩ (.int .i64 (nr : Int)) ?_
          simp only [Act.put, List.setIfInBounds_toArray, List.set_cons_zero, List.set_cons_succ]
          refine tk 24 ⟨some 112, .slice 32 (.tmp 108) none (some (.tmp 111)) none, 32, "law.go:251", #[⟨20, .data⟩, ⟨23, .data⟩, ⟨13, .guard⟩], some (13, true)⟩ (.slice (some ⟨g4, 0, none⟩) nr c4) ?_
          simp only [Act.put, List.setIfInBounds_toArray, List.set_cons_zero, List.set_cons_succ]
          refine wpAnyH_ready (rs := [19]) (by kernel_rfl) (by simp) (AllReadyH.cons (o := ⟨some 107, .call { callee := .value (.func 22), args := #[.tmp 106], argTypes := #[32] }, 9, "law.go:251", #[⟨18, .data⟩, ⟨13, .chain⟩, ⟨13, .guard⟩], some (13, true)⟩) rfl (fun KQ hK => ?_) AllReadyH.nil)
          go_simp
          refine (HQ3.out _ HK7.out).mono ?_
          rintro e v8 ⟨rfl, hb8⟩
          have HS8 := hid (Below.trans HS7.out (hb8.mono HS7.out.size))
          have HK8 : Hid (KF w v8 gp nb cp g1 [.int .i64 k, .string s, .int .i64 p, .slice ab nb cb, .int .u32 u, .int .i32 i, .slice ar nr cr] g4 nr c4 e1 e2 l' L') := hid (HK7.out.on hb8)
          clear hb8 HK7 HS7
          go_wp2_with fail
          refine hK.out _ _ HS8.out (fun hHeld => ?_)
          clear hK KQ
          try simp only [Act.put, List.setIfInBounds_toArray, List.set_cons_zero, List.set_cons_succ]
          refine wpAnyH_ready (rs := [25]) (by kernel_rfl) (by simp) (AllReadyH.cons (o := ⟨some 113, .call { callee := .value (.func 24), args := #[.tmp 112], argTypes := #[32] }, 9, "law.go:251", #[⟨24, .data⟩, ⟨19, .chain⟩, ⟨13, .guard⟩], some (13, true)⟩) rfl (fun KQ hK => ?_) AllReadyH.nil)
          go_simp
          refine (HQ4.out _ HK8.out).mono ?_
          rintro e v9 ⟨rfl, hb9⟩
          have HS9 := hid (Below.trans HS8.out (hb9.mono HS8.out.size))
          have HK9 : Hid (KF w v9 gp nb cp g1 [.int .i64 k, .string s, .int .i64 p, .slice ab nb cb, .int .u32 u, .int .i32 i, .slice ar nr cr] g4 nr c4 e1 e2 l' L') := hid (HK8.out.on hb9)
          clear hb9 HK8 HS8
          go_wp2_with fail
          refine hK.out _ _ HS9.out (fun hHeld => ?_)
          clear hK KQ
          try simp only [Act.put, List.setIfInBounds_toArray, List.set_cons_zero, List.set_cons_succ]
          refine tk 26 ⟨some 114, .binOp .eql 9 (.tmp 107) (.tmp 113) 9, 4, "law.go:251", #[⟨19, .data⟩, ⟨25, .data⟩, ⟨13, .guard⟩], some (13, true)⟩ (.bool true) ?_
          simp only [Act.put, List.setIfInBounds_toArray, List.set_cons_zero, List.set_cons_succ]
          refine tk 27 ⟨some 115, .pick (.tmp 101) (.tmp 114) (.const (.bool false)), 4, "law.go:251", #[⟨13, .data⟩, ⟨26, .data⟩], none⟩ (.bool true) ?_
          simp only [Act.put, List.setIfInBounds_toArray, List.set_cons_zero, List.set_cons_succ]
          refine wpAnyH_ready (rs := [28]) (by kernel_rfl) (by simp) (AllReadyH.cons (o := ⟨some 2, .assign (.tmp 115), 4, "law.go:251", #[⟨27, .data⟩, ⟨25, .chain⟩, ⟨0, .phase⟩, ⟨1, .phase⟩, ⟨2, .phase⟩, ⟨3, .phase⟩, ⟨4, .phase⟩, ⟨5, .phase⟩, ⟨6, .phase⟩, ⟨7, .phase⟩, ⟨8, .phase⟩, ⟨9, .phase⟩, ⟨10, .phase⟩, ⟨11, .phase⟩, ⟨12, .phase⟩, ⟨13, .phase⟩, ⟨14, .phase⟩, ⟨15, .phase⟩, ⟨16, .phase⟩, ⟨17, .phase⟩, ⟨18, .phase⟩, ⟨19, .phase⟩, ⟨20, .phase⟩, ⟨21, .phase⟩, ⟨22, .phase⟩, ⟨23, .phase⟩, ⟨24, .phase⟩, ⟨25, .phase⟩, ⟨26, .phase⟩, ⟨27, .phase⟩], none⟩) rfl (fun KQ hK => ?_) AllReadyH.nil)
          go_simp
          refine hK.out _ _ HS9.out (fun hHeld => ?_)
          clear hK KQ
          try simp only [Act.put, List.setIfInBounds_toArray, List.set_cons_zero, List.set_cons_succ]
          refine wpAnyH_done (by kernel_rfl) ?_ _
          go_wp2_with fail
          go_ret
          exact ⟨rfl, KS.below HK9.out⟩
end Go.Proofs.YtbjinmlelchmgaaGreatDoor
