/- asm's read (23). errors.As (40) at an asm.broken; faultIn (24). asm's faultIn (24). asm.Assemble (9). A program elsewhere, and further down: pure facts. A program further down: pure facts. The law's same (10). The law's first (8). AsmMoves (3). -/
import Derived.Test.YtncnogndopgknaaGreatDoorAsI
import Derived.Test.YtncnogndopgknaaGreatDoorCol0Rf1RfDRfELin1
import Derived.Test.YtncnogndopgknaaGreatDoorAsE
namespace Go.Proofs.YtncnogndopgknaaGreatDoor
open Go.RowKit
def sumL (L : List (List UInt8)) : Nat := (L.map List.length).sum
theorem cut_sum (l : List UInt8) : sumL (T.cutL l) + (T.cutL l).length = l.length + 1 := by
  induction l with
  | nil => rfl
  | cons c t ih =>
    unfold T.cutL
    split
    · show (0 + sumL (T.cutL t)) + ((T.cutL t).length + 1) = t.length + 1 + 1
      omega
    · cases hc : T.cutL t with
      | nil => exact absurd hc (T.cutL_ne t)
      | cons h r =>
        rw [hc] at ih
        simp only [sumL, List.map_cons, List.sum_cons, List.length_cons] at ih ⊢
        omega
theorem sumL_cons (a : List UInt8) (b : List (List UInt8)) : sumL (a :: b) = a.length + sumL b := by simp [sumL]
theorem sumL_append (a b : List (List UInt8)) : sumL (a ++ b) = sumL a + sumL b := by simp [sumL]
theorem lines_sum (l : List UInt8) : sumL (T.lines l) ≤ l.length ∧ (T.lines l).length ≤ l.length + 1 := by
  have h := cut_sum l
  unfold T.lines
  split
  · have e := List.dropLast_concat_getLast (T.cutL_ne l)
    have e2 := congrArg sumL e
    have e3 := congrArg List.length e
    rw [sumL_append] at e2
    rw [List.length_append] at e3
    simp only [List.length_cons, List.length_nil] at e3
    omega
  · have := List.length_pos_iff.2 (T.cutL_ne l)
    omega
namespace S
theorem lines_cons (st : St) (n : Nat) (l : List UInt8) (ls : List (List UInt8)) : lines st n (l :: ls) = match oneLine (n + 1) st l with | .inl f => .inl (f.1, n + 1, f.2) | .inr st' => lines st' (n + 1) ls := by
  conv => lhs; unfold lines
  unfold oneLine
  cases T.rd l 0 with
  | inl x => rfl
  | inr ws =>
    simp only
    cases lay (n + 1) st ws <;> rfl
theorem one_ok {line : Nat} {st st' : St} {l : List UInt8} (h : oneLine line st l = .inr st') (hl : l.length ≤ 65536) (hk : ∀ t ∈ st.lat, Lok st.ws.length t) : (∀ t ∈ st'.lat, Lok st'.ws.length t) ∧ st'.lat.length ≤ st.lat.length + 3 ∧ st'.labs.length ≤ st.labs.length + l.length := by
  unfold oneLine at h
  have hw := rdw_ok l 0
  cases hr : T.rd l 0 with
  | inl x => rw [hr] at h; cases h
  | inr ws =>
    rw [hr] at h hw
    have h0 := lay_lok h (fun w hwm => Nat.le_trans (hw.2 w hwm) (by omega)) hk
    exact ⟨h0.1, h0.2.1, Nat.le_trans h0.2.2 (by have := hw.1; omega)⟩
theorem fin1_len {base : Nat} {labs : List (List UInt8 × Nat)} {ws ws' : List Nat} {t : Lt} (h : fin1 base labs ws t = .inr ws') (hp : t.place ≤ ws.length) : ws'.length = ws.length := by
  unfold fin1 at h
  split at h
  · cases h
  · split at h
    · cases h
    · cases h; exact over_len hp
end S
def PgPost (W : World) (base : Nat) (r : (Int × Nat × Nat) ⊕ (List Nat × List (List UInt8 × Nat))) (x : Ending) (w' : World) : Prop :=
  match r with
  | .inl f => x = .returned (.tuple #[.pointer none, bk f.1 f.2.1 f.2.2]) ∧ Below W.heap.size W w'
  | .inr y => ∃ V g gm line lat fs i vw vl vf, x = .returned (.tuple #[.pointer (some ⟨g, 0, none⟩), .nilIface]) ∧ Below W.heap.size W V ∧ PF V w' g gm base line y.1 y.2 lat fs i vw vl vf
set_option maxRecDepth 20000 in
theorem lines_long2 (W : World) (s : ByteArray) (hb : 65536 < s.size) : Calls Tryz.prog 37 #[.string s] W fun e W' => e = .returned (.tuple #[.slice none 0 0, .int .i64 2]) ∧ W' = W := by
  have c1 : (65536 : Int) < (s.size : Int) := by omega
  clear hb
  go_enter Tryz.func37, Tryz.ntmps37
  go_wp2_with fail
  go_ret2
  exact ⟨rfl, rfl⟩
set_option maxRecDepth 40000 in
theorem read_long (W : World) (s : ByteArray) (hb : 65536 < s.size) (base : Nat) : Calls Tryz.prog 23 #[.string s, .int .u32 (base : Int)] W fun x w' => PgPost W base (.inl (2, 0, 0)) x w' := by
  have H37 := hid (lines_long2 W s hb)
  clear hb
  go_enter Tryz.func23, Tryz.ntmps23
  go_wp2_with fail
  refine H37.out.mono ?_
  rintro e w1 ⟨rfl, rfl⟩
  go_wp2_with fail
  refine (faultAt_any _ 2 0 0).mono ?_
  rintro e y1 ⟨rfl, rfl⟩
  go_wp2_with fail
  go_ret2
  exact ⟨rfl, Below.refl _ _⟩
theorem PS.start (V : World) (base : Nat) (cs : Array Value) (hcs : cs = (psC base 0 (.slice none 0 0) (.slice none 0 0) V.heap.size (.slice none 0 0)).toArray) : PS V ((V.alloc (.map #[] 0)).alloc (.cells cs 77)) (V.heap.size + 1) V.heap.size base 0 ⟨[], [], []⟩ [] (.slice none 0 0) (.slice none 0 0) (.slice none 0 0) := by
  subst hcs
  refine ⟨((Below.refl _ _).alloc (Nat.le_refl _) _).alloc (by simp) _, by omega, Nat.le_refl _, ?_, World.ownsRow_nil _ _ 22 1, World.ownsRow_nil _ _ 43 2, World.ownsRow_nil _ _ 111 1, map_on (MapIs.made V) (below_one _ _), rfl, (fun i h => by cases h), by simp, (fun d hd => by cases hd), Nat.zero_le _, (fun x hx => by cases hx)⟩
  have := Cel.new (V.alloc (.map #[] 0)) 77 (psC base 0 (.slice none 0 0) (.slice none 0 0) V.heap.size (.slice none 0 0))
  rw [alloc_size] at this
  exact this
set_option maxRecDepth 40000 in
set_option maxHeartbeats 4000000 in
theorem read_any6 (W : World) (hT : TM W) (m : Int) (hm : W.cell? ⟨7, 0, none⟩ = some (.int .i64 m)) (s : ByteArray) (hs : s.size ≤ 65536) (base : Nat) (hbase : base < 4294967296) :
    Calls Tryz.prog 23 #[.string s, .int .u32 (base : Int)] W fun x w' => PgPost W base (S.asm s.data.toList base) x w' := by
  have H37 := hid (lines_any W s m hs hm)
  obtain ⟨L, hL⟩ : ∃ L, T.lines s.data.toList = L := ⟨_, rfl⟩
  have hLs := lines_sum s.data.toList
  rw [hL, size_list] at hLs
  obtain ⟨r, hr⟩ : ∃ r, S.asm s.data.toList base = r := ⟨_, rfl⟩
  have HR : Hid (r = match S.lines ⟨[], [], []⟩ 0 L with | .inl f => .inl f | .inr st => (match S.fin base st.labs st.ws st.lat with | .inl f => .inl f | .inr ws => .inr (ws, st.labs))) := hid (by
    rw [← hr, ← hL]
    unfold S.asm S.read
    rw [if_neg (by rw [size_list]; omega)]
    cases S.lines ⟨[], [], []⟩ 0 (T.lines s.data.toList) with
    | inl f => rfl
    | inr st =>
      simp only
      cases S.fin base st.labs st.ws st.lat <;> rfl)
  rw [hr]
  have HT : Hid (TM W) := hT
  unfold LiPost at H37
  rw [hL] at H37
  clear hr hT hm hL
  obtain ⟨n, hn⟩ : ∃ n, L.length = n := ⟨_, rfl⟩
  have HN : Hid (L.length = n) := hn
  rw [hn] at H37
  have n1 : (n : Int) ≤ 65537 := by omega
  have HSM : Hid (sumL L ≤ 65536) := hid (by omega)
  clear hn hLs
  go_enter Tryz.func23, Tryz.ntmps23
  go_wp2_with fail
  refine H37.out.mono ?_
  rintro e V ⟨gl, cl, rfl, hst, hbV⟩
  have HST : Hid (StrsAt V (some ⟨gl, 0, none⟩) L ∧ Below W.heap.size W V) := hid ⟨hst, hbV⟩
  clear hst hbV H37
  have hmk : Sem.run Tryz.prog (Instr.makeMap 74 none) V = .ok (.map (some V.heap.size)) (V.alloc (.map #[] 0)) := by
    rfl
  go_wp2_with fail
  have HPX := hid (PS.start V base #[Value.int IntKind.u32 ↑base, Value.int IntKind.i64 0, Value.slice none 0 0, Value.slice none 0 0, Value.map (some V.heap.size), Value.slice none 0 0] rfl)
  generalize (V.alloc (Obj.map #[] 0)).alloc (Obj.cells #[Value.int IntKind.u32 ↑base, Value.int IntKind.i64 0, Value.slice none 0 0, Value.slice none 0 0, Value.map (some V.heap.size), Value.slice none 0 0] 77) = X at *
  obtain ⟨g, hg⟩ : ∃ g, V.heap.size + 1 = g := ⟨_, rfl⟩
  rw [hg] at HPX ⊢
  obtain ⟨gm, hgm⟩ : ∃ gm, V.heap.size = gm := ⟨_, rfl⟩
  have HPX : Hid (PS V X g gm base 0 ⟨[], [], []⟩ [] (.slice none 0 0) (.slice none 0 0) (.slice none 0 0)) := hid (by rw [← hgm]; exact HPX.out)
  rw [hgm]
  clear hmk hg hgm
  have HTV : Hid (TM V) := hid (HT.out.on HST.out.2)
  go_loopw [30] (fun v wr => ∃ (q : Nat) (ln : Nat) (st : S.St) (fs : List Fc) (vw vl vf : Value), q ≤ n ∧ v = .int .i64 q ∧ Hid (PS V wr g gm base ln st fs vw vl vf ∧ S.lines ⟨[], [], []⟩ 0 L = S.lines st q (L.drop q) ∧ st.labs.length + sumL (L.drop q) ≤ 65536 ∧ st.lat.length ≤ 3 * q ∧ ∀ t ∈ st.lat, S.Lok st.ws.length t)) (fun v _ => n - (intOf v).toNat)
  case atStart => exact ⟨0, 0, _, _, _, _, _, Nat.zero_le _, rfl, hid ⟨HPX.out, rfl, by show 0 + sumL L ≤ 65536; have := HSM.out; omega, Nat.zero_le _, (fun t ht => by cases ht)⟩⟩
  case round =>
    clear HPX
    obtain ⟨q, ln, st, fs, vw, vl, vf, hq, rfl, HQ⟩ := hrel
    by_cases hlt : q < n
    · have c1 : (q : Int) < (n : Int) := by omega
      have hqL : q < L.length := by rw [HN.out]; exact hlt
      have hdr : L.drop q = L[q] :: L.drop (q + 1) := List.drop_eq_getElem_cons hqL
      have hcl : wr.cell? ⟨gl, q, none⟩ = some (.string ⟨L[q].toArray⟩) := by
        rcases HST.out.1 with h0 | ⟨b, o, e, hb, hc⟩
        · rw [h0] at hqL; simp at hqL
        · injection e with e
          injection e with e1 e2
          subst e1 e2
          have := hc q hqL
          rw [Nat.zero_add] at this
          rw [HQ.out.1.below.cell (p := ⟨gl, q, none⟩) hb]
          exact this
      have hg1 : wr.cell? ⟨g, 1, none⟩ = some (.int .i64 (ln : Int)) := HQ.out.1.cel.cell 1
      have hg2 : wr.frozen? ⟨g, 1, none⟩ = false := HQ.out.1.cel.free 1
      have hsm := HQ.out.2.2.1
      rw [hdr] at hsm
      rw [sumL_cons] at hsm
      have HLC := hid (S.lines_cons st q L[q] (L.drop (q + 1)))
      rw [← hdr, ← HQ.out.2.1] at HLC
      have HP1 : Hid (PS V (wr.setCell ⟨g, 1, none⟩ (.int .i64 ((q : Int) + 1))) g gm base (q + 1) st fs vw vl vf) := hid (HQ.out.1.setLine (q + 1))
      have HLO := hid (fun (st' : S.St) (h : S.oneLine (q + 1) st (L[q]'hqL) = .inr st') => S.one_ok h (by omega) HQ.out.2.2.2.2)
      have hlat := HQ.out.2.2.2.1
      obtain ⟨lq, hlq⟩ : ∃ lq, L[q] = lq := ⟨_, rfl⟩
      rw [hlq] at hcl HLC HLO hsm
      clear HQ hdr hlq hqL
      go_wp2_with fail
      refine (layLine_any V _ HTV.out g gm base (q + 1) st fs vw vl vf HP1.out (by omega) lq (by omega) (by omega)).mono ?_
      intro e w' hpost
      cases hone : S.oneLine (q + 1) st lq with
      | inl f =>
        rw [hone] at hpost HLC
        obtain ⟨rfl, hb2⟩ := hpost
        have HR2 : Hid (r = .inl (f.1, q + 1, f.2)) := hid (by rw [HR.out, HLC.out])
        have HB2 : Hid (Below W.heap.size W w') := hid (HST.out.2.trans (hb2.mono HST.out.2.size))
        clear HR HLC hone HLO hb2
        simp only [bk]
        go_wp2_with fail
        go_ret2
        rw [HR2.out]
        exact ⟨rfl, HB2.out⟩
      | inr st' =>
        rw [hone] at hpost HLC
        have hok := HLO.out st' hone
        obtain ⟨rfl, fs', vw', vl', vf', hP'⟩ := hpost
        have HP' := hid hP'
        have HOK : Hid (S.lines ⟨[], [], []⟩ 0 L = S.lines st' (q + 1) (L.drop (q + 1)) ∧ st'.labs.length + sumL (L.drop (q + 1)) ≤ 65536 ∧ st'.lat.length ≤ 3 * (q + 1) ∧ ∀ t ∈ st'.lat, S.Lok st'.ws.length t) := hid ⟨HLC.out, by omega, by omega, hok.1⟩
        clear HLC hone HLO hP' hok
        go_wp2_with fail
        go_roundw
        case measure => simp [intOf] <;> omega
        case rel => exact ⟨q + 1, q + 1, st', fs', vw', vl', vf', by omega, by go_num, hid ⟨HP'.out, HOK.out⟩⟩
    · have hqe : q = n := by omega
      subst hqe
      have hdn : L.drop q = [] := List.drop_of_length_le (by rw [HN.out]; exact Nat.le_refl _)
      have HR2 : Hid (r = match S.fin base st.labs st.ws st.lat with | .inl f => .inl f | .inr ws => .inr (ws, st.labs)) := hid (by rw [HR.out, HQ.out.2.1, hdn]; rfl)
      have HPF := hid HQ.out.1.fin
      obtain ⟨af, cf, rfl⟩ := own_form HQ.out.1.lt
      have g5 : wr.cell? ⟨g, 5, none⟩ = some (.slice af st.lat.length cf) := HQ.out.1.cel.cell 5
      have hlat := HQ.out.2.2.2.1
      have HLK := hid HQ.out.2.2.2.2
      clear HQ HR hdn
      obtain ⟨ws, labs, lat⟩ := st
      simp only at hlat HLK HR2 HPF g5
      obtain ⟨k, hk⟩ : ∃ k, lat.length = k := ⟨_, rfl⟩
      have HK : Hid (lat.length = k) := hk
      have k1 : (k : Int) ≤ 196611 := by omega
      rw [hk] at g5
      clear hlat hk
      go_wp2_with fail
      have HLF : Hid (∀ f, S.fin base labs ws lat = f → r = match f with | .inl f => .inl f | .inr ws => .inr (ws, labs)) := hid (fun f hf => by rw [HR2.out, hf])
      clear HR2 g5
      go_loopw [52] (fun v w2 => ∃ (j : Nat) (wj : List Nat), j ≤ k ∧ v = .int .i64 j ∧ Hid (PF V w2 g gm base ln wj labs lat fs j vw vl (.slice af k cf) ∧ S.fin base labs ws lat = S.fin base labs wj (lat.drop j) ∧ wj.length = ws.length)) (fun v _ => k - (intOf v).toNat)
      case atStart => exact ⟨0, ws, Nat.zero_le _, rfl, hid ⟨by rw [← HK.out]; exact HPF.out, rfl, rfl⟩⟩
      case round =>
        clear HPF
        obtain ⟨j, wj, hj, rfl, HJ⟩ := hrel
        by_cases hlt : j < k
        · have c1 : (j : Int) < (k : Int) := by omega
          have hjl : j < lat.length := by rw [HK.out]; exact hlt
          have hjf : j < fs.length := by rw [HJ.out.1.len]; exact hjl
          obtain ⟨gF, rfl⟩ : ∃ gF, af = some ⟨gF, 0, none⟩ := by
            rcases HJ.out.1.lt.2 with ⟨_, h0⟩ | ⟨g', cap, cur, h1, _⟩
            · omega
            · injection h1 with h1
              exact ⟨g', h1⟩
          obtain ⟨d, hd⟩ : ∃ d, fs[j] = d := ⟨_, rfl⟩
          have hcd : wr.cell? ⟨gF, j, none⟩ = some (.func (.func 123) #[] #[.pointer (some ⟨d.g7, 0, none⟩), .pointer (some ⟨d.g8, 0, none⟩), .pointer (some ⟨d.g5, 0, none⟩), .pointer (some ⟨d.g11, 0, none⟩), .pointer (some ⟨d.g6, 0, none⟩), .pointer (some ⟨d.g9, 0, none⟩)]) := by
            have := HJ.out.1.lt.cells (g := gF) rfl j (fcV d) (by rw [List.getElem?_map, List.getElem?_eq_getElem hjf, hd]; rfl)
            rw [Addr.add_mid, Nat.zero_add] at this
            exact this
          have HCL := hid (closure_any V wr HTV.out g gm base ln j hbase wj labs lat fs vw vl (.slice (some ⟨gF, 0, none⟩) k cf) HJ.out.1 hjl hjf (by rw [HJ.out.2.2]; exact HLK.out _ (List.getElem_mem _)) d hd)
          have HFC : Hid (S.fin base labs ws lat = match S.fin1 base labs wj lat[j] with | .inl f => .inl f | .inr ws' => S.fin base labs ws' (lat.drop (j + 1))) := hid (by rw [HJ.out.2.1, List.drop_eq_getElem_cons hjl, S.fin_cons]; cases S.fin1 base labs wj lat[j] <;> rfl)
          have HLN : Hid (∀ w', S.fin1 base labs wj lat[j] = .inr w' → w'.length = wj.length) := hid (fun w' hw => S.fin1_len hw (Nat.le_of_lt (by rw [HJ.out.2.2]; exact (HLK.out _ (List.getElem_mem hjl)).place)))
          have hwl := HJ.out.2.2
          generalize S.fin1 base labs wj lat[j] = z at *
          clear HJ hd hjl hjf
          go_wp2_with fail
          refine HCL.out.mono ?_
          intro e w' hpost
          clear HCL
          cases z with
          | inl f =>
            obtain ⟨rfl, hb2⟩ := hpost
            have HR3 : Hid (r = .inl f) := hid (HLF.out _ HFC.out)
            have HB2 : Hid (Below W.heap.size W w') := hid (HST.out.2.trans (hb2.mono HST.out.2.size))
            clear HFC HLN HLF hb2
            simp only [bk]
            go_wp2_with fail
            go_ret2
            rw [HR3.out]
            exact ⟨rfl, HB2.out⟩
          | inr w3 =>
            obtain ⟨rfl, hP3⟩ := hpost
            have HP3 : Hid (PF V w' g gm base ln w3 labs lat fs (j + 1) vw vl (.slice (some ⟨gF, 0, none⟩) k cf) ∧ S.fin base labs ws lat = S.fin base labs w3 (lat.drop (j + 1)) ∧ w3.length = ws.length) := hid ⟨hP3, HFC.out, by rw [HLN.out w3 rfl]; exact hwl⟩
            clear HFC HLN hP3
            go_wp2_with fail
            go_roundw
            case measure => simp [intOf] <;> omega
            case rel => exact ⟨j + 1, w3, by omega, by go_num, HP3⟩
        · have hje : j = k := by omega
          subst hje
          have hdn : lat.drop j = [] := List.drop_of_length_le (by rw [HK.out]; exact Nat.le_refl _)
          have HR3 : Hid (r = .inr (wj, labs)) := hid (HLF.out (.inr wj) (by rw [HJ.out.2.1, hdn]; rfl))
          clear hdn HLF
          go_wp2_with fail
          go_ret2
          rw [HR3.out]
          exact ⟨V, g, gm, ln, lat, fs, j, vw, vl, _, rfl, HST.out.2, HJ.out.1⟩
end Go.Proofs.YtncnogndopgknaaGreatDoor
namespace Go.Proofs.YtncnogndopgknaaGreatDoor
open Go.RowKit Go.Extern.Stop Go.Stop Go.Extern
/-- The package-level variable of errors that says what an error is. -/
def ErrT (w : World) : Prop := w.cell? ⟨2, 0, none⟩ = some (.iface 200 (.agg #[.pointer (some ⟨13, 70, none⟩)]))
theorem ErrT.on {w w' : World} (h : ErrT w) (hb : Below w.heap.size w w') : ErrT w' := by
  unfold ErrT at h ⊢
  have hlt : 2 < w.heap.size := by
    rcases Nat.lt_or_ge 2 w.heap.size with h0 | h0
    · exact h0
    · simp [World.cell?, Array.getElem?_eq_none h0] at h
  rw [hb.cell (p := ⟨2, 0, none⟩) hlt]
  exact h
set_option maxRecDepth 40000 in
set_option maxHeartbeats 4000000 in
theorem as_hit (e l c : Int) (g : Nat) (cs : List Value) (h3 : cs.length = 3) (w : World) (hg0 : ErrT w) (ht0 : Cel w g 113 cs) :
    Calls Tryz.prog 40 #[bk e l c, .iface 115 (.pointer (some ⟨g, 0, none⟩))] w fun ev w' => ev = .returned (.bool true) ∧ w' = ((((w.alloc (.cells #[.pointer (some ⟨g, 0, none⟩)] 115)).alloc (.cells #[.pointer (some ⟨13, 115, none⟩), .pointer (some ⟨w.heap.size, 0, none⟩), .int .u64 150] 160)).alloc (.cells #[.pointer (some ⟨13, 115, none⟩), .pointer (some ⟨w.heap.size, 0, none⟩), .int .u64 150] 160)).alloc (.cells #[.int .i64 e, .int .i64 l, .int .i64 c] 113)).setRow g [.int .i64 e, .int .i64 l, .int .i64 c].toArray := by
  have h64 := @run_callFunc_extern Tryz.prog 64 _ (fun args => ReflectliteValue.unpack (args.getD 0 (.tuple #[]))) Tryz.func64 (by kernel_rfl) (by kernel_rfl) (by kernel_rfl) (by kernel_rfl)
  have h65 := @run_callFunc_extern Tryz.prog 65 _ (ReflectliteValue.methodAny (ReflectliteValue.valueError "reflectlite.Value.Type" 0) (fun t _ _ _ => ReflectliteType.toType t)) Tryz.func65 (by kernel_rfl) (by kernel_rfl) (by kernel_rfl) (by kernel_rfl)
  have h66 := @run_callFunc_extern Tryz.prog 66 _ (ReflectliteValue.method (ReflectliteValue.valueError "reflectlite.Value.IsNil" 0) ReflectliteValue.isNil) Tryz.func66 (by kernel_rfl) (by kernel_rfl) (by kernel_rfl) (by kernel_rfl)
  have h188 := @run_callFunc_extern Tryz.prog 188 _ (ReflectliteType.abiMethod fun t => do pure (.int .u8 (← Rtype.kind t))) Tryz.func188 (by kernel_rfl) (by kernel_rfl) (by kernel_rfl) (by kernel_rfl)
  have h199 := @run_callFunc_extern Tryz.prog 199 _ (ReflectliteType.method ReflectliteType.elem) Tryz.func199 (by kernel_rfl) (by kernel_rfl) (by kernel_rfl) (by kernel_rfl)
  have h200 := @run_callFunc_extern Tryz.prog 200 _ (ReflectliteType.relation "Implements" ReflectliteType.implements_) Tryz.func200 (by kernel_rfl) (by kernel_rfl) (by kernel_rfl) (by kernel_rfl)
  have h93 := @run_callFunc_extern Tryz.prog 93 _ ReflectliteType.typeOf Tryz.func93 (by kernel_rfl) (by kernel_rfl) (by kernel_rfl) (by kernel_rfl)
  have h197 := @run_callFunc_extern Tryz.prog 197 _ (ReflectliteType.relation "AssignableTo" ReflectliteType.assignableTo) Tryz.func197 (by kernel_rfl) (by kernel_rfl) (by kernel_rfl) (by kernel_rfl)
  have h94 := @run_callFunc_extern Tryz.prog 94 _ (ReflectliteValue.method (ReflectliteValue.valueError "reflectlite.Value.Elem" 0) ReflectliteValue.elem) Tryz.func94 (by kernel_rfl) (by kernel_rfl) (by kernel_rfl) (by kernel_rfl)
  have h95 := @run_callFunc_extern Tryz.prog 95 _ ReflectliteValue.set Tryz.func95 (by kernel_rfl) (by kernel_rfl) (by kernel_rfl) (by kernel_rfl)
  have tO := Tryz.typeOf113
  have mA := Tryz.methodAssignableTo
  have a25 := Tryz.assignable113
  have v25 := Tryz.valueOf113
  have f6 := Tryz.valueOf115
  have f7 := Tryz.type115
  have mK := Tryz.methodKind
  have mE := Tryz.methodElem
  have mI := Tryz.methodImplements
  have k27 := Tryz.kind115
  have k25 := Tryz.kind113
  have e27 := Tryz.elem115
  have i25 := Tryz.implements113
  have n8 := Tryz.isNil115 ⟨w.heap.size, 0, none⟩ ⟨g, 0, none⟩ ((w.alloc (.cells #[.pointer (some ⟨g, 0, none⟩)] 115)).alloc (.cells #[.pointer (some ⟨13, 115, none⟩), .pointer (some ⟨w.heap.size, 0, none⟩), .int .u64 150] 160)) (by simp)
  have hg2 : ((w.alloc (.cells #[.pointer (some ⟨g, 0, none⟩)] 115)).alloc (.cells #[.pointer (some ⟨13, 115, none⟩), .pointer (some ⟨w.heap.size, 0, none⟩), .int .u64 150] 160)).cell? ⟨2, 0, none⟩ = some (.iface 200 (.agg #[.pointer (some ⟨13, 70, none⟩)])) := (hg0.on (below_one _ _)).on (below_one _ _)
  have el := Tryz.elemV115 ⟨w.heap.size, 0, none⟩ ⟨g, 0, none⟩ (((w.alloc (.cells #[.pointer (some ⟨g, 0, none⟩)] 115)).alloc (.cells #[.pointer (some ⟨13, 115, none⟩), .pointer (some ⟨w.heap.size, 0, none⟩), .int .u64 150] 160)).alloc (.cells #[.pointer (some ⟨13, 115, none⟩), .pointer (some ⟨w.heap.size, 0, none⟩), .int .u64 150] 160)) (by rw [World.cell?_alloc_lt _ _ ⟨w.heap.size, 0, none⟩ (by simp; omega)]; simp)
  have hcg := ((((ht0.on (below_one _ (Obj.cells #[.pointer (some ⟨g, 0, none⟩)] 115))).on (below_one _ (Obj.cells #[.pointer (some ⟨13, 115, none⟩), .pointer (some ⟨w.heap.size, 0, none⟩), .int .u64 150] 160))).on (below_one _ (Obj.cells #[.pointer (some ⟨13, 115, none⟩), .pointer (some ⟨w.heap.size, 0, none⟩), .int .u64 150] 160))).on (below_one _ (Obj.cells #[.int .i64 e, .int .i64 l, .int .i64 c] 113)))
  have hcb := Cel.new (((w.alloc (.cells #[.pointer (some ⟨g, 0, none⟩)] 115)).alloc (.cells #[.pointer (some ⟨13, 115, none⟩), .pointer (some ⟨w.heap.size, 0, none⟩), .int .u64 150] 160)).alloc (.cells #[.pointer (some ⟨13, 115, none⟩), .pointer (some ⟨w.heap.size, 0, none⟩), .int .u64 150] 160)) 113 [.int .i64 e, .int .i64 l, .int .i64 c]
  rw [alloc_size, alloc_size, alloc_size] at hcb
  have st := Tryz.set113 g (w.heap.size + 1 + 1 + 1) cs [.int .i64 e, .int .i64 l, .int .i64 c] _ hcb hcg rfl h3 rfl
  clear hcg hcb
  simp only [bk]
  go_enter Tryz.func40, Tryz.ntmps40
  go_wp2
  refine wp_loop_rounds 1 ?_
  rw [rounds_succ]
  go_wp2
  go_ret
  exact ⟨rfl, rfl⟩
end Go.Proofs.YtncnogndopgknaaGreatDoor
namespace Go.Proofs.YtncnogndopgknaaGreatDoor
open Go.RowKit
theorem sizeFault : (Tryz.prog.info? 27).map (·.size) = some 3 := by kernel_rfl
theorem below_setRow6 {B g : Nat} {w0 w : World} (hb : Below B w0 w) (hBg : B ≤ g) (cs : Array Value) : Below B w0 (w.setRow g cs) :=
  hb.trans ⟨rfl, rfl, rfl, by simp [World.setRow], fun k hk => setRow_other w g k cs (by omega)⟩
theorem as_hit2 (e l c : Int) (g : Nat) (cs : List Value) (h3 : cs.length = 3) (w : World) (hg0 : ErrT w) (ht0 : Cel w g 113 cs) :
    Calls Tryz.prog 40 #[bk e l c, .iface 115 (.pointer (some ⟨g, 0, none⟩))] w fun ev w' => ev = .returned (.bool true) ∧ Cel w' g 113 [.int .i64 e, .int .i64 l, .int .i64 c] ∧ (∀ t, t ≠ 113 → KT t w w') ∧ Below g w w' := by
  refine (as_hit e l c g cs h3 w hg0 ht0).mono ?_
  rintro x w' ⟨rfl, rfl⟩
  have hlt := ht0.lt
  have hcg := ((((ht0.on (below_one _ (Obj.cells #[.pointer (some ⟨g, 0, none⟩)] 115))).on (below_one _ (Obj.cells #[.pointer (some ⟨13, 115, none⟩), .pointer (some ⟨w.heap.size, 0, none⟩), .int .u64 150] 160))).on (below_one _ (Obj.cells #[.pointer (some ⟨13, 115, none⟩), .pointer (some ⟨w.heap.size, 0, none⟩), .int .u64 150] 160))).on (below_one _ (Obj.cells #[.int .i64 e, .int .i64 l, .int .i64 c] 113)))
  have hb4 : Below w.heap.size w ((((w.alloc (.cells #[.pointer (some ⟨g, 0, none⟩)] 115)).alloc (.cells #[.pointer (some ⟨13, 115, none⟩), .pointer (some ⟨w.heap.size, 0, none⟩), .int .u64 150] 160)).alloc (.cells #[.pointer (some ⟨13, 115, none⟩), .pointer (some ⟨w.heap.size, 0, none⟩), .int .u64 150] 160)).alloc (.cells #[.int .i64 e, .int .i64 l, .int .i64 c] 113)) := below_on (below_on (below_on (below_one _ _) (below_one _ _)) (below_one _ _)) (below_one _ _)
  generalize (((w.alloc (.cells #[.pointer (some ⟨g, 0, none⟩)] 115)).alloc (.cells #[.pointer (some ⟨13, 115, none⟩), .pointer (some ⟨w.heap.size, 0, none⟩), .int .u64 150] 160)).alloc (.cells #[.pointer (some ⟨13, 115, none⟩), .pointer (some ⟨w.heap.size, 0, none⟩), .int .u64 150] 160)).alloc (.cells #[.int .i64 e, .int .i64 l, .int .i64 c] 113) = W4 at *
  exact ⟨rfl, hcg.set _, fun t ht => KT.trans (.of_below hb4) (KT.setRow hcg ht _), below_setRow6 (hb4.mono (Nat.le_of_lt hlt)) (Nat.le_refl _) _⟩
set_option maxRecDepth 40000 in
set_option maxHeartbeats 4000000 in
theorem faultIn_any (w : World) (hE : ErrT w) (e l c : Int) : Calls Tryz.prog 24 #[bk e l c] w fun x w' => x = .returned (.agg #[.int .i64 e, .int .i64 l, .int .i64 c]) ∧ Below w.heap.size w w' := by
  have hc113 : Cel ((w.alloc (.cells #[.int .i64 0, .int .i64 0, .int .i64 0] 27)).alloc (.cells #[.int .i64 0, .int .i64 0, .int .i64 0] 113)) (w.heap.size + 1) 113 [.int .i64 0, .int .i64 0, .int .i64 0] := by
    have := Cel.new (w.alloc (.cells #[.int .i64 0, .int .i64 0, .int .i64 0] 27)) 113 [.int .i64 0, .int .i64 0, .int .i64 0]
    rw [alloc_size] at this
    exact this
  have H40 := hid (as_hit2 e l c (w.heap.size + 1) [.int .i64 0, .int .i64 0, .int .i64 0] rfl ((w.alloc (.cells #[.int .i64 0, .int .i64 0, .int .i64 0] 27)).alloc (.cells #[.int .i64 0, .int .i64 0, .int .i64 0] 113)) ((hE.on (below_one _ _)).on (below_one _ _)) hc113)
  have HC0 : Hid (Cel ((w.alloc (.cells #[.int .i64 0, .int .i64 0, .int .i64 0] 27)).alloc (.cells #[.int .i64 0, .int .i64 0, .int .i64 0] 113)) w.heap.size 27 [.int .i64 0, .int .i64 0, .int .i64 0]) := hid ((Cel.new w 27 [.int .i64 0, .int .i64 0, .int .i64 0]).on (below_one _ _))
  have HB0 : Hid (Below w.heap.size w ((w.alloc (.cells #[.int .i64 0, .int .i64 0, .int .i64 0] 27)).alloc (.cells #[.int .i64 0, .int .i64 0, .int .i64 0] 113))) := hid (below_two _ _ _)
  clear hc113
  simp only [bk] at H40 ⊢
  go_enter Tryz.func24, Tryz.ntmps24
  go_wp2_with fail
  refine H40.out.mono ?_
  rintro x w1 ⟨rfl, hc1, hk1, hb1⟩
  have HC1 : Hid (Cel w1 w.heap.size 27 [.int .i64 0, .int .i64 0, .int .i64 0]) := hid (HC0.out.kt (hk1 27 (by decide)))
  have HB1 : Hid (Below w.heap.size w w1) := hid (HB0.out.trans (hb1.mono (by omega)))
  generalize w.heap.size + 1 = gb at *
  have z0 : w1.cell? ⟨gb, 0, none⟩ = some (.int .i64 e) := hc1.cell 0
  have z1 : w1.cell? ⟨gb, 1, none⟩ = some (.int .i64 l) := hc1.cell 1
  have z2 : w1.cell? ⟨gb, 2, none⟩ = some (.int .i64 c) := hc1.cell 2
  have y0 : w1.cell? ⟨w.heap.size, 0, none⟩ = some (.int .i64 0) := HC1.out.cell 0
  have y1 : w1.cell? ⟨w.heap.size, 1, none⟩ = some (.int .i64 0) := HC1.out.cell 1
  have y2 : w1.cell? ⟨w.heap.size, 2, none⟩ = some (.int .i64 0) := HC1.out.cell 2
  have f0 := HC1.out.free 0
  have f1 := HC1.out.free 1
  have f2 := HC1.out.free 2
  clear hc1 hk1 hb1 H40 HB0 HC0
  go_wp2_with fail
  exact ret_st rfl rfl w.heap.size #[.int .i64 e, .int .i64 l, .int .i64 c] rfl (((HC1.out.setCell 0 (.int .i64 e)).setCell 1 (.int .i64 l)).setCell 2 (.int .i64 c)) Tryz.underlying27 rfl sizeFault ⟨rfl, ((HB1.out.setCell (p := ⟨w.heap.size, 0, none⟩) (Nat.le_refl _) _).setCell (p := ⟨w.heap.size, 1, none⟩) (Nat.le_refl _) _).setCell (p := ⟨w.heap.size, 2, none⟩) (Nat.le_refl _) _⟩
end Go.Proofs.YtncnogndopgknaaGreatDoor
namespace Go.Proofs.YtncnogndopgknaaGreatDoor
open Go.RowKit
theorem ret_ts {P : Program} {fn : Func} {p q : Tmp} {ty e : TypeId} {d : TypeDesc} {a : Act} {w : World} {post : Ending → World → Prop} (hr : fn.results = #[.tmp q, .cell p ty]) (hd : a.defers = []) (g : Nat) (cs : List Value)
    (hp : a.tmps.getD p undef = .pointer (some ⟨g, 0, none⟩)) (hb : Cel w g e cs) (hu : P.underlying ty = some d) (hdd : (match d with | .struct _ | .array _ _ => true | _ => false) = true) (hi : (P.info? ty).map (·.size) = some cs.length) (h : post (.returned (.tuple #[a.tmps.getD q undef, .agg cs.toArray])) w) :
    bodyPost P fn post .ret a w := by
  refine bodyPost_ret (v := .tuple #[a.tmps.getD q undef, .agg cs.toArray]) ?_ hd h
  have hp' : a.tmps[p]?.getD undef = .pointer (some ⟨g, 0, none⟩) := by simpa using hp
  have := run_loadVar_row (P := P) w g e ty _ (0, 0) _ hb hu hdd (by rw [hi]; simp)
  simp [results, hr, hp', asAddr, this]
theorem read_all (W : World) (hT : TM W) (m : Int) (hm : W.cell? ⟨7, 0, none⟩ = some (.int .i64 m)) (s : ByteArray) (base : Nat) (hbase : base < 4294967296) :
    Calls Tryz.prog 23 #[.string s, .int .u32 (base : Int)] W fun x w' => PgPost W base (S.asm s.data.toList base) x w' := by
  by_cases hs : s.size ≤ 65536
  · exact read_any6 W hT m hm s hs base hbase
  · have e : S.asm s.data.toList base = .inl (2, 0, 0) := by
      unfold S.asm S.read
      rw [if_pos (by rw [size_list]; omega)]
    rw [e]
    exact read_long W s (by omega) base
def AmPost (W : World) (r : (Int × Nat × Nat) ⊕ (List Nat × List (List UInt8 × Nat))) (x : Ending) (w' : World) : Prop :=
  match r with
  | .inl f => x = .returned (.tuple #[.slice none 0 0, .agg #[.int .i64 f.1, .int .i64 (f.2.1 : Int), .int .i64 (f.2.2 : Int)]]) ∧ Below W.heap.size W w'
  | .inr y => ∃ v, x = .returned (.tuple #[v, .agg #[.int .i64 0, .int .i64 0, .int .i64 0]]) ∧ w'.ownsRow W.heap.size 22 1 v y.1.length (u32s y.1) ∧ Below W.heap.size W w'
theorem own_less {w : World} {B B' n z : Nat} {e : TypeId} {v : Value} {xs : List Value} (h : w.ownsRow B e z v n xs) (hB : B' ≤ B) : w.ownsRow B' e z v n xs :=
  ⟨h.1, h.2.imp id fun ⟨g, cap, cur, a, b, c⟩ => ⟨g, cap, cur, a, Nat.le_trans hB b, c⟩⟩
set_option maxRecDepth 40000 in
set_option maxHeartbeats 4000000 in
theorem assemble_any (W : World) (hT : TM W) (hE : ErrT W) (m : Int) (h7 : 7 < W.heap.size) (hm : W.cell? ⟨7, 0, none⟩ = some (.int .i64 m)) (s : ByteArray) (base : Nat) (hbase : base < 4294967296) :
    Calls Tryz.prog 9 #[.string s, .int .u32 (base : Int)] W fun x w' => AmPost W (S.asm s.data.toList base) x w' := by
  have HX : Hid (Below W.heap.size W (W.alloc (.cells #[.int .i64 0, .int .i64 0, .int .i64 0] 27)) ∧ Cel (W.alloc (.cells #[.int .i64 0, .int .i64 0, .int .i64 0] 27)) W.heap.size 27 [.int .i64 0, .int .i64 0, .int .i64 0]) := hid ⟨below_one _ _, Cel.new _ _ _⟩
  have H23 := hid (read_all (W.alloc (.cells #[.int .i64 0, .int .i64 0, .int .i64 0] 27)) (hT.on HX.out.1) m (by rw [HX.out.1.cell (p := ⟨7, 0, none⟩) h7]; exact hm) s base hbase)
  have HE : Hid (ErrT (W.alloc (.cells #[.int .i64 0, .int .i64 0, .int .i64 0] 27))) := hid (hE.on HX.out.1)
  generalize S.asm s.data.toList base = r at *
  clear hT hE hm hbase
  go_enter Tryz.func9, Tryz.ntmps9
  go_wp2_with fail
  generalize W.alloc (.cells #[.int .i64 0, .int .i64 0, .int .i64 0] 27) = X at *
  refine H23.out.mono ?_
  intro e w1 hpost
  cases r with
  | inl f =>
    obtain ⟨rfl, hb1⟩ := hpost
    have H24 := hid (faultIn_any w1 (HE.out.on hb1) f.1 (f.2.1 : Int) (f.2.2 : Int))
    simp only [bk] at H24 ⊢
    have HC1 : Hid (Cel w1 W.heap.size 27 [.int .i64 0, .int .i64 0, .int .i64 0] ∧ Below W.heap.size W w1) := hid ⟨HX.out.2.on hb1, HX.out.1.trans (hb1.mono HX.out.1.size)⟩
    clear hb1 H23 HE HX
    go_wp2_with (go_at_call 24; refine H24.out.mono ?_; rintro e w2 ⟨rfl, hb2⟩; have HC2 : Hid (Cel w2 W.heap.size 27 [.int .i64 0, .int .i64 0, .int .i64 0] ∧ Below W.heap.size W w2) := hid ⟨HC1.out.1.on hb2, below_on HC1.out.2 hb2⟩; have y0 : w2.cell? ⟨W.heap.size, 0, none⟩ = some (.int .i64 0) := HC2.out.1.cell 0; have y1 : w2.cell? ⟨W.heap.size, 1, none⟩ = some (.int .i64 0) := HC2.out.1.cell 1; have y2 : w2.cell? ⟨W.heap.size, 2, none⟩ = some (.int .i64 0) := HC2.out.1.cell 2; have f0 := HC2.out.1.free 0; have f1 := HC2.out.1.free 1; have f2 := HC2.out.1.free 2)
    exact ret_ts rfl rfl W.heap.size [.int .i64 f.1, .int .i64 (f.2.1 : Int), .int .i64 (f.2.2 : Int)] rfl (((HC2.out.1.setCell 0 (.int .i64 f.1)).setCell 1 (.int .i64 (f.2.1 : Int))).setCell 2 (.int .i64 (f.2.2 : Int))) Tryz.underlying27 rfl sizeFault ⟨rfl, ((HC2.out.2.setCell (p := ⟨W.heap.size, 0, none⟩) (Nat.le_refl _) _).setCell (p := ⟨W.heap.size, 1, none⟩) (Nat.le_refl _) _).setCell (p := ⟨W.heap.size, 2, none⟩) (Nat.le_refl _) _⟩
  | inr y =>
    obtain ⟨V, g, gm, line, lat, fs, i, vw, vl, vf, rfl, hbV, hPF⟩ := hpost
    have HPF := hid hPF
    have HXV : Hid (Below X.heap.size X V) := hbV
    have HB1 : Hid (Below X.heap.size X w1) := hid (hbV.trans (hPF.below.mono hbV.size))
    have HC1 : Hid (Cel w1 W.heap.size 27 [.int .i64 0, .int .i64 0, .int .i64 0] ∧ Below W.heap.size W w1) := hid ⟨HX.out.2.on HB1.out, HX.out.1.trans (HB1.out.mono HX.out.1.size)⟩
    have g2 : w1.cell? ⟨g, 2, none⟩ = some vw := hPF.cel.cell 2
    have y0 : w1.cell? ⟨W.heap.size, 0, none⟩ = some (.int .i64 0) := HC1.out.1.cell 0
    have y1 : w1.cell? ⟨W.heap.size, 1, none⟩ = some (.int .i64 0) := HC1.out.1.cell 1
    have y2 : w1.cell? ⟨W.heap.size, 2, none⟩ = some (.int .i64 0) := HC1.out.1.cell 2
    have f0 := HC1.out.1.free 0
    have f1 := HC1.out.1.free 1
    have f2 := HC1.out.1.free 2
    clear hPF hbV H23 HE
    go_wp2_with fail
    have c0 := HC1.out.1.setCell 0 (.int .i64 0)
    have c1 := c0.setCell 1 (.int .i64 0)
    have hk : KT 22 w1 (((w1.setCell ⟨W.heap.size, 0, none⟩ (.int .i64 0)).setCell ⟨W.heap.size, 1, none⟩ (.int .i64 0)).setCell ⟨W.heap.size, 2, none⟩ (.int .i64 0)) := KT.trans (KT.trans (KT.setCell HC1.out.1 (by decide) 0 _) (KT.setCell c0 (by decide) 1 _)) (KT.setCell c1 (by decide) 2 _)
    exact ret_ts rfl rfl W.heap.size [.int .i64 0, .int .i64 0, .int .i64 0] rfl (c1.setCell 2 (.int .i64 0)) Tryz.underlying27 rfl sizeFault ⟨_, rfl, own_less (own_kt HPF.out.wr hk) (Nat.le_trans HX.out.1.size HXV.out.size), ((HC1.out.2.setCell (p := ⟨W.heap.size, 0, none⟩) (Nat.le_refl _) _).setCell (p := ⟨W.heap.size, 1, none⟩) (Nat.le_refl _) _).setCell (p := ⟨W.heap.size, 2, none⟩) (Nat.le_refl _) _⟩
end Go.Proofs.YtncnogndopgknaaGreatDoor
namespace Go.Proofs.YtncnogndopgknaaGreatDoor
open Go.RowKit
namespace S
def okS : (Int × Nat) ⊕ St → Prop
  | .inl f => f.1 ≠ 0
  | .inr st' => st'.ws.length ≤ 2048
def okT : (Int × Nat × Nat) ⊕ St → Prop
  | .inl f => f.1 ≠ 0
  | .inr st' => st'.ws.length ≤ 2048 ∧ ∀ t ∈ st'.lat, Lok st'.ws.length t
theorem ne60 : (60 : Int) ≠ 0 := by decide
theorem ne61 : (61 : Int) ≠ 0 := by decide
theorem ne62 : (62 : Int) ≠ 0 := by decide
theorem ne63 : (63 : Int) ≠ 0 := by decide
theorem ne64 : (64 : Int) ≠ 0 := by decide
theorem ne65 : (65 : Int) ≠ 0 := by decide
theorem ne66 : (66 : Int) ≠ 0 := by decide
theorem ne40 : (40 : Int) ≠ 0 := by decide
theorem ne2 : (2 : Int) ≠ 0 := by decide
/-- No fault and no length hangs on the base. -/
theorem fin_base (b1 b2 : Nat) (labs : List (List UInt8 × Nat)) : ∀ (ts : List Lt) (w1 w2 : List Nat), w1.length = w2.length → (∀ t ∈ ts, t.place ≤ w1.length) →
    (match fin b1 labs w1 ts, fin b2 labs w2 ts with | .inl f, .inl g => f = g ∧ f.1 ≠ 0 | .inr a, .inr c => a.length = c.length ∧ a.length = w1.length | _, _ => False)
  | [], w1, w2, h, _ => ⟨h, rfl⟩
  | t :: ts, w1, w2, h, hp => by
    unfold fin
    cases look labs (t.ops.getD t.at' ⟨0, [], 0⟩).lab with
    | none => exact ⟨rfl, ne64⟩
    | some g =>
      simp only
      unfold meaning
      have hpt := hp t (by simp)
      by_cases hl : (t.k.shape.map (·.toNat)).getD t.at' 0 = 111
      · simp only [if_pos hl]
        by_cases hd : (g : Int) - t.place - 1 < -32768 ∨ 32767 < (g : Int) - t.place - 1
        · simp only [if_pos hd]; exact ⟨trivial, ne65⟩
        · simp only [if_neg hd]
          have := fin_base b1 b2 labs ts (over w1 t.place (words t.k (t.ops.set t.at' { t.ops.getD t.at' ⟨0, [], 0⟩ with val := u32 ((g : Int) - t.place - 1) }))) (over w2 t.place (words t.k (t.ops.set t.at' { t.ops.getD t.at' ⟨0, [], 0⟩ with val := u32 ((g : Int) - t.place - 1) }))) (by rw [over_len hpt, over_len (by omega), h]) (fun t' ht' => by rw [over_len hpt]; exact hp t' (by simp [ht']))
          rw [over_len hpt] at this
          exact this
      · simp only [if_neg hl]
        have := fin_base b1 b2 labs ts (over w1 t.place (words t.k (t.ops.set t.at' { t.ops.getD t.at' ⟨0, [], 0⟩ with val := (b1 + 4 * g) % 4294967296 }))) (over w2 t.place (words t.k (t.ops.set t.at' { t.ops.getD t.at' ⟨0, [], 0⟩ with val := (b2 + 4 * g) % 4294967296 }))) (by rw [over_len hpt, over_len (by omega), h]) (fun t' ht' => by rw [over_len hpt]; exact hp t' (by simp [ht']))
        rw [over_len hpt] at this
        exact this
theorem stmt_sound {line : Nat} {st : St} {name : T.Wd} {rest : List T.Wd} : okS (stmt line st name rest) := by
  unfold stmt
  cases kindOf name.text with
  | none => exact ne60
  | some k =>
    simp only
    split
    · exact ne60
    · split
      · exact ne66
      · have : ∀ (nc : Nat) (L : List Nat) (rs : List T.Wd) f, rdOps nc L rs = .inl f → f.1 ≠ 0 := by
          intro nc L
          induction L with
          | nil => intro rs f h; cases rs with | nil => cases h | cons _ _ => cases h; exact ne62
          | cons l L ih =>
            intro rs f h
            cases rs with
            | nil => cases h; exact ne62
            | cons w ws =>
              unfold rdOps at h
              cases hr : readOperand l w with
              | none => rw [hr] at h; cases h; exact ne61
              | some o =>
                rw [hr] at h
                cases hq : rdOps nc L ws with
                | inl f' => rw [hq] at h; cases h; exact ih ws _ hq
                | inr os => rw [hq] at h; cases h
        cases hr : rdOps name.col (k.shape.map (·.toNat)) rest with
        | inl f => exact this _ _ _ _ hr
        | inr os =>
          simp only
          split
          · exact ne66
          · show (st.ws ++ words k os).length ≤ 2048
            rw [List.length_append]; omega
theorem lay_sound {line : Nat} : ∀ {ws : List T.Wd} {st : St}, st.ws.length ≤ 2048 → okS (lay line st ws)
  | [], st, h => h
  | w :: ws, st, h => by
    unfold lay
    split
    · split
      · split
        · exact ne63
        · exact lay_sound (st := { st with labs := st.labs ++ [(Lib.trimSuffix w.text [58], st.ws.length)] }) h
      · exact ne60
    · exact stmt_sound
theorem lines_sound : ∀ (L : List (List UInt8)) (st : St) (n : Nat), st.ws.length ≤ 2048 → (∀ l ∈ L, l.length ≤ 65536) → (∀ t ∈ st.lat, Lok st.ws.length t) → okT (lines st n L)
  | [], st, n, h, _, hk => ⟨h, hk⟩
  | l :: ls, st, n, h, hl, hk => by
    rw [lines_cons]
    cases ho : oneLine (n + 1) st l with
    | inl f =>
      simp only
      unfold oneLine at ho
      cases hr : T.rd l 0 with
      | inl x => rw [hr] at ho; cases ho; exact ne40
      | inr ws =>
        rw [hr] at ho
        have := lay_sound (line := n + 1) (ws := ws) h
        simp only at ho
        rw [ho] at this
        exact this
    | inr st' =>
      simp only
      refine lines_sound ls st' (n + 1) ?_ (fun x hx => hl x (by simp [hx])) (one_ok ho (hl l (by simp)) hk).1
      unfold oneLine at ho
      cases hr : T.rd l 0 with
      | inl x => rw [hr] at ho; cases ho
      | inr ws =>
        rw [hr] at ho
        have := lay_sound (line := n + 1) (ws := ws) h
        simp only at ho
        rw [ho] at this
        exact this
theorem mem_sum : ∀ {L : List (List UInt8)} {l : List UInt8}, l ∈ L → l.length ≤ sumL L
  | a :: L, l, h => by
    rw [sumL_cons]
    rcases List.mem_cons.1 h with rfl | h
    · omega
    · have := mem_sum h; omega
/-- One text at two bases. -/
theorem asm_two (s : List UInt8) (b1 b2 : Nat) : (match asm s b1, asm s b2 with | .inl f, .inl g => f = g ∧ f.1 ≠ 0 | .inr a, .inr c => a.1.length = c.1.length ∧ a.1.length ≤ 2048 | _, _ => False) := by
  unfold asm
  have hrd : okT (read s) := by
    unfold read
    by_cases hbig : 65536 < s.length
    · rw [if_pos hbig]; exact ne2
    · rw [if_neg hbig]
      have hs := lines_sum s
      exact lines_sound (T.lines s) ⟨[], [], []⟩ 0 (Nat.zero_le _) (fun l hl => by have := mem_sum hl; omega) (fun t ht => by cases ht)
  cases hr : read s with
  | inl f => rw [hr] at hrd; exact ⟨rfl, hrd⟩
  | inr st =>
    rw [hr] at hrd
    simp only
    have := fin_base b1 b2 st.labs st.lat st.ws st.ws rfl (fun t ht => Nat.le_of_lt (hrd.2 t ht).place)
    cases h1 : fin b1 st.labs st.ws st.lat with
    | inl f =>
      rw [h1] at this
      cases h2 : fin b2 st.labs st.ws st.lat with
      | inl g => rw [h2] at this; exact this
      | inr c => rw [h2] at this; exact this.elim
    | inr a =>
      rw [h1] at this
      cases h2 : fin b2 st.labs st.ws st.lat with
      | inl g => rw [h2] at this; exact this.elim
      | inr c => rw [h2] at this; exact ⟨this.1, by rw [this.2]; exact hrd.1⟩
end S
end Go.Proofs.YtncnogndopgknaaGreatDoor
namespace Go.Proofs.YtncnogndopgknaaGreatDoor
open Go.RowKit
namespace S
def shL (k : Nat) (t : Lt) : Lt := { t with line := t.line + k }
def sh (k : Nat) (st : St) : St := { st with lat := st.lat.map (shL k) }
def shS (k : Nat) : (Int × Nat) ⊕ St → (Int × Nat) ⊕ St
  | .inl f => .inl f
  | .inr st => .inr (sh k st)
def shT (k : Nat) : (Int × Nat × Nat) ⊕ St → (Int × Nat × Nat) ⊕ St
  | .inl f => .inl (f.1, f.2.1 + k, f.2.2)
  | .inr st => .inr (sh k st)
theorem lats_sh (k : Kd) (os : List Opn) (p line j : Nat) : lats k os p (line + j) = (lats k os p line).map (shL j) := by
  unfold lats
  rw [List.map_map]
  rfl
theorem stmt_sh (j line : Nat) (st : St) (name : T.Wd) (rest : List T.Wd) : stmt (line + j) (sh j st) name rest = shS j (stmt line st name rest) := by
  unfold stmt
  cases kindOf name.text with
  | none => rfl
  | some k =>
    simp only
    by_cases h1 : name.quoted = true
    · rw [if_pos h1, if_pos h1]; rfl
    · rw [if_neg h1, if_neg h1]
      by_cases h2 : 2048 < st.ws.length + k.least
      · have h2' : 2048 < (sh j st).ws.length + k.least := h2
        rw [if_pos h2, if_pos h2']; rfl
      · have h2' : ¬ 2048 < (sh j st).ws.length + k.least := h2
        rw [if_neg h2, if_neg h2']
        cases rdOps name.col (k.shape.map (·.toNat)) rest with
        | inl f => rfl
        | inr os =>
          simp only
          by_cases h3 : 2048 < st.ws.length + (words k os).length
          · have h3' : 2048 < (sh j st).ws.length + (words k os).length := h3
            rw [if_pos h3, if_pos h3']; rfl
          · have h3' : ¬ 2048 < (sh j st).ws.length + (words k os).length := h3
            rw [if_neg h3, if_neg h3']
            show (Sum.inr ⟨st.ws ++ words k os, st.labs, st.lat.map (shL j) ++ lats k os st.ws.length (line + j)⟩ : (Int × Nat) ⊕ St) = Sum.inr ⟨st.ws ++ words k os, st.labs, (st.lat ++ lats k os st.ws.length line).map (shL j)⟩
            rw [List.map_append, lats_sh]
theorem lay_sh (j line : Nat) : ∀ (ws : List T.Wd) (st : St), lay (line + j) (sh j st) ws = shS j (lay line st ws)
  | [], st => rfl
  | w :: ws, st => by
    unfold lay
    by_cases h1 : isDef w = true
    · simp only [if_pos h1]
      by_cases h2 : T.name (Lib.trimSuffix w.text [58]) = true
      · simp only [if_pos h2]
        by_cases h3 : has st.labs (Lib.trimSuffix w.text [58]) = true
        · have h3' : has (sh j st).labs (Lib.trimSuffix w.text [58]) = true := h3
          simp only [if_pos h3, if_pos h3']; rfl
        · have h3' : ¬ has (sh j st).labs (Lib.trimSuffix w.text [58]) = true := h3
          simp only [if_neg h3, if_neg h3']
          exact lay_sh j line ws { st with labs := st.labs ++ [(Lib.trimSuffix w.text [58], st.ws.length)] }
      · simp only [if_neg h2]; rfl
    · simp only [if_neg h1]
      exact stmt_sh j line st w ws
theorem lines_sh (j : Nat) : ∀ (L : List (List UInt8)) (st : St) (n : Nat), lines (sh j st) (n + j) L = shT j (lines st n L)
  | [], st, n => rfl
  | l :: ls, st, n => by
    unfold lines
    cases T.rd l 0 with
    | inl x => simp only [shT]; rw [Nat.add_right_comm]
    | inr ws =>
      simp only
      rw [show n + j + 1 = n + 1 + j from by omega, lay_sh]
      cases lay (n + 1) st ws with
      | inl f => rfl
      | inr st' => exact lines_sh j ls st' (n + 1)
theorem fin_sh (j base : Nat) (labs : List (List UInt8 × Nat)) : ∀ (ts : List Lt) (ws : List Nat), fin base labs ws (ts.map (shL j)) = match fin base labs ws ts with | .inl f => .inl (f.1, f.2.1 + j, f.2.2) | .inr ws => .inr ws
  | [], ws => rfl
  | t :: ts, ws => by
    rw [List.map_cons]
    unfold fin
    simp only [shL]
    cases look labs (t.ops.getD t.at' ⟨0, [], 0⟩).lab with
    | none => rfl
    | some g =>
      simp only
      cases meaning base ((t.k.shape.map (·.toNat)).getD t.at' 0) g t.place with
      | none => rfl
      | some v => exact fin_sh j base labs ts _
def pre2 : List UInt8 := [35, 32, 120, 58, 32, 121, 10, 32, 9, 10]
theorem cut_pre (s : List UInt8) : T.cutL (pre2 ++ s) = [35, 32, 120, 58, 32, 121] :: [32, 9] :: T.cutL s := by
  have h1 := T.cutL_append [35, 32, 120, 58, 32, 121] (10 :: ([32, 9] ++ 10 :: s)) (by decide)
  have h2 := T.cutL_append [32, 9] (10 :: s) (by decide)
  have e : ∀ x, T.cutL (10 :: x) = [] :: T.cutL x := fun x => by rw [T.cutL]; simp
  rw [e] at h1 h2
  simp only [List.append_nil] at h1 h2
  rw [h2] at h1
  exact h1
theorem lines_pre (s : List UInt8) : T.lines (pre2 ++ s) = [35, 32, 120, 58, 32, 121] :: [32, 9] :: T.lines s := by
  unfold T.lines
  have hne := T.cutL_ne s
  have hl : (T.cutL (pre2 ++ s)).getLast (T.cutL_ne _) = (T.cutL s).getLast hne := by
    have : ∀ (l : List (List UInt8)) (h : l ≠ []) (e : l = [35, 32, 120, 58, 32, 121] :: [32, 9] :: T.cutL s), l.getLast h = (T.cutL s).getLast hne := by
      intro l h e
      subst e
      rw [List.getLast_cons (by simp), List.getLast_cons hne]
    exact this _ _ (cut_pre s)
  rw [hl, cut_pre]
  by_cases h : (T.cutL s).getLast hne = []
  · rw [if_pos h, if_pos h, List.dropLast_cons_of_ne_nil (by simp), List.dropLast_cons_of_ne_nil hne]
  · rw [if_neg h, if_neg h]
theorem rd1 : T.rd [35, 32, 120, 58, 32, 121] 0 = .inr [] := T.rd_hash _ _ (by decide) (by decide)
theorem rd2 : T.rd [32, 9] 0 = .inr [] := by rw [T.rd_gap _ _ (by decide), T.rd_gap _ _ (by decide), T.rd_nil]
/-- Two lines of remarks ahead move the fault's line alone. -/
theorem asm_pre (s : List UInt8) (base : Nat) (hs : s.length ≤ 65000) : asm (pre2 ++ s) base = match asm s base with | .inl f => .inl (f.1, f.2.1 + 2, f.2.2) | .inr y => .inr y := by
  unfold asm read
  rw [if_neg (by rw [List.length_append]; have : pre2.length = 10 := rfl; omega), if_neg (by omega), lines_pre, lines_cons]
  have h1 : oneLine (0 + 1) ⟨[], [], []⟩ [35, 32, 120, 58, 32, 121] = .inr ⟨[], [], []⟩ := by unfold oneLine; rw [rd1]; rfl
  have h2 : oneLine (0 + 1 + 1) ⟨[], [], []⟩ [32, 9] = .inr ⟨[], [], []⟩ := by unfold oneLine; rw [rd2]; rfl
  rw [h1]
  simp only
  rw [lines_cons, h2]
  simp only
  have h3 := lines_sh 2 (T.lines s) ⟨[], [], []⟩ 0
  have h4 : sh 2 ⟨[], [], []⟩ = (⟨[], [], []⟩ : St) := rfl
  rw [h4] at h3
  rw [show 0 + 1 + 1 = 0 + 2 from rfl, h3]
  cases lines ⟨[], [], []⟩ 0 (T.lines s) with
  | inl f => rfl
  | inr st =>
    simp only [shT, sh]
    rw [fin_sh]
    cases fin base st.labs st.ws st.lat <;> rfl
/-- The chapter's example. -/
def exT : List UInt8 := [108, 105, 32, 114, 50, 32, 101, 110, 100, 10, 120, 58, 32, 98, 32, 97, 108, 32, 120, 10, 119, 111, 114, 100, 32, 101, 110, 100, 10, 101, 110, 100, 58]
theorem ex_asm : asm exT 4096 = .inr ([75501584, 142606336, 1409351679, 4112], [([120], 2), ([101, 110, 100], 4)]) := by decide +kernel
end S
end Go.Proofs.YtncnogndopgknaaGreatDoor
namespace Go.Proofs.YtncnogndopgknaaGreatDoor
open Go.RowKit
def UAt (w : World) (ao : Option Addr) (xs : List Nat) : Prop := xs = [] ∨ ∃ b o, ao = some ⟨b, o, none⟩ ∧ b < w.heap.size ∧ ∀ i (h : i < xs.length), w.cell? ⟨b, o + i, none⟩ = some (.int .u32 (xs[i] : Int))
theorem UAt.on {W w : World} {ao : Option Addr} {l : List Nat} (h : UAt W ao l) (hb : Below W.heap.size W w) : UAt w ao l := by
  rcases h with h0 | ⟨b, o, e, hlt, hc⟩
  · exact .inl h0
  · exact .inr ⟨b, o, e, Nat.lt_of_lt_of_le hlt hb.size, fun i hi => by rw [hb.cell (p := ⟨b, o + i, none⟩) hlt]; exact hc i hi⟩
theorem own_at {w : World} {B : Nat} {ao : Option Addr} {c : Nat} {xs : List Nat} (h : w.ownsRow B 22 1 (.slice ao xs.length c) xs.length (u32s xs)) : UAt w ao xs := by
  rcases h.2 with ⟨_, h0⟩ | ⟨g, cap, cur, h1, h2, h3, _⟩
  · exact .inl (List.eq_nil_of_length_eq_zero h0)
  · injection h1 with h1
    refine .inr ⟨g, 0, h1, (Array.getElem?_eq_some_iff.1 h3).1, fun i hi => ?_⟩
    have := h.cells (g := g) (by rw [h1]; rfl) i (.int .u32 (xs[i] : Int)) (by simp [u32s, hi])
    rw [Addr.add_mid] at this
    exact this
set_option maxRecDepth 40000 in
set_option maxHeartbeats 2000000 in
theorem same_any (w : World) (xs : List Nat) (hx : xs.length ≤ 2048) (ao bo : Option Addr) (c d : Nat) (ha : UAt w ao xs) (hb : UAt w bo xs) :
    Calls Tryz.prog 10 #[.slice ao xs.length c, .slice bo xs.length d] w fun x w' => x = .returned (.bool true) ∧ Below w.heap.size w w' := by
  obtain ⟨n, hn⟩ : ∃ n, xs.length = n := ⟨_, rfl⟩
  have HN : Hid (xs.length = n) := hn
  have n1 : (n : Int) ≤ 2048 := by omega
  have HA : Hid (UAt w ao xs) := ha
  have HB : Hid (UAt w bo xs) := hb
  rw [hn]
  clear hn hx ha hb
  go_enter Tryz.func10, Tryz.ntmps10
  go_wp2_with fail
  go_loopw [5] (fun v wr => ∃ (q : Nat), q ≤ n ∧ v = .int .i64 q ∧ Hid (Below w.heap.size w wr)) (fun v _ => n - (intOf v).toNat)
  case atStart => exact ⟨0, Nat.zero_le _, rfl, hid (Below.refl _ _)⟩
  case round =>
    obtain ⟨q, hq, rfl, HQ⟩ := hrel
    by_cases hlt : q < n
    · have c1 : (q : Int) < (n : Int) := by omega
      have hqx : q < xs.length := by rw [HN.out]; exact hlt
      rcases HA.out.on HQ.out with h0 | ⟨b1, o1, rfl, hb1, hc1⟩
      · rw [h0] at hqx; simp at hqx
      rcases HB.out.on HQ.out with h0 | ⟨b2, o2, rfl, hb2, hc2⟩
      · rw [h0] at hqx; simp at hqx
      have k1 := hc1 q hqx
      have k2 := hc2 q hqx
      generalize xs[q] = u at *
      have HK : Hid (∀ x, Below wr.heap.size wr x → x.cell? ⟨b1, o1 + q, none⟩ = some (.int .u32 (u : Int)) ∧ x.cell? ⟨b2, o2 + q, none⟩ = some (.int .u32 (u : Int))) := hid (fun x hx => ⟨by rw [hx.cell (p := ⟨b1, o1 + q, none⟩) hb1]; exact k1, by rw [hx.cell (p := ⟨b2, o2 + q, none⟩) hb2]; exact k2⟩)
      clear hc1 hc2 hqx
      go_wp2_with fail
      refine wp_region_held_drew (S := fun x => Below wr.heap.size wr x) (by kernel_rfl) ((Below.refl _ _).drew) (fun hHeld => ?_)
      refine wpAnyH_take (i := 0) (oi := { dst := some 17, op := Op.move (Operand.tmp 0), type := 24, pos := "law.go:23", after := #[], guard := none }) (v := .slice (some ⟨b1, o1, none⟩) n c) rfl (by kernel_rfl) (by kernel_rfl) (by kernel_rfl) (fun _ _ _ h => h) (Or.inl ⟨by rfl, by intro w hSw; go_simp⟩) (by assumption) ?_
      simp only [Act.put, List.setIfInBounds_toArray, List.set_cons_zero, List.set_cons_succ]
      refine wpAnyH_take (i := 1) (oi := { dst := some 18, op := Op.move (Operand.tmp 5), type := 3, pos := "law.go:23", after := #[], guard := none }) (v := .int .i64 (q : Int)) rfl (by kernel_rfl) (by kernel_rfl) (by kernel_rfl) (fun _ _ _ h => h) (Or.inl ⟨by rfl, by intro w hSw; go_simp⟩) (by assumption) ?_
      simp only [Act.put, List.setIfInBounds_toArray, List.set_cons_zero, List.set_cons_succ]
      refine wpAnyH_take (i := 2) (oi := { dst := some 19, op := Op.indexAddr 24 (Operand.tmp 17) (Operand.tmp 18), type := 0, pos := "law.go:23", after := #[{ on := 0, ground := Ground.data }, { on := 1, ground := Ground.data }], guard := none }) (v := .pointer (some ⟨b1, o1 + q, none⟩)) rfl (by kernel_rfl) (by kernel_rfl) (by kernel_rfl) (fun _ _ _ h => h) (Or.inl ⟨by rfl, by intro w hSw; go_simp⟩) (by assumption) ?_
      simp only [Act.put, List.setIfInBounds_toArray, List.set_cons_zero, List.set_cons_succ]
      refine wpAnyH_take (i := 3) (oi := { dst := some 20, op := Op.load 22 (Operand.tmp 19), type := 22, pos := "law.go:23", after := #[{ on := 2, ground := Ground.data }], guard := none }) (v := .int .u32 (u : Int)) rfl (by kernel_rfl) (by kernel_rfl) (by kernel_rfl) (fun _ _ _ h => h) (Or.inl ⟨by rfl, by intro w hSw; have hcc := (HK.out w hSw).1; go_simp⟩) (by assumption) ?_
      simp only [Act.put, List.setIfInBounds_toArray, List.set_cons_zero, List.set_cons_succ]
      refine wpAnyH_take (i := 4) (oi := { dst := some 21, op := Op.move (Operand.tmp 1), type := 24, pos := "law.go:23", after := #[], guard := none }) (v := .slice (some ⟨b2, o2, none⟩) n d) rfl (by kernel_rfl) (by kernel_rfl) (by kernel_rfl) (fun _ _ _ h => h) (Or.inl ⟨by rfl, by intro w hSw; go_simp⟩) (by assumption) ?_
      simp only [Act.put, List.setIfInBounds_toArray, List.set_cons_zero, List.set_cons_succ]
      refine wpAnyH_take (i := 5) (oi := { dst := some 22, op := Op.move (Operand.tmp 5), type := 3, pos := "law.go:23", after := #[], guard := none }) (v := .int .i64 (q : Int)) rfl (by kernel_rfl) (by kernel_rfl) (by kernel_rfl) (fun _ _ _ h => h) (Or.inl ⟨by rfl, by intro w hSw; go_simp⟩) (by assumption) ?_
      simp only [Act.put, List.setIfInBounds_toArray, List.set_cons_zero, List.set_cons_succ]
      refine wpAnyH_take (i := 6) (oi := { dst := some 23, op := Op.indexAddr 24 (Operand.tmp 21) (Operand.tmp 22), type := 0, pos := "law.go:23", after := #[{ on := 4, ground := Ground.data }, { on := 5, ground := Ground.data }], guard := none }) (v := .pointer (some ⟨b2, o2 + q, none⟩)) rfl (by kernel_rfl) (by kernel_rfl) (by kernel_rfl) (fun _ _ _ h => h) (Or.inl ⟨by rfl, by intro w hSw; go_simp⟩) (by assumption) ?_
      simp only [Act.put, List.setIfInBounds_toArray, List.set_cons_zero, List.set_cons_succ]
      refine wpAnyH_take (i := 7) (oi := { dst := some 24, op := Op.load 22 (Operand.tmp 23), type := 22, pos := "law.go:23", after := #[{ on := 6, ground := Ground.data }], guard := none }) (v := .int .u32 (u : Int)) rfl (by kernel_rfl) (by kernel_rfl) (by kernel_rfl) (fun _ _ _ h => h) (Or.inl ⟨by rfl, by intro w hSw; have hcc := (HK.out w hSw).2; go_simp⟩) (by assumption) ?_
      simp only [Act.put, List.setIfInBounds_toArray, List.set_cons_zero, List.set_cons_succ]
      refine wpAnyH_take (i := 8) (oi := { dst := some 25, op := Op.binOp BinOp.neq 22 (Operand.tmp 20) (Operand.tmp 24) 22, type := 4, pos := "law.go:23", after := #[{ on := 3, ground := Ground.data }, { on := 7, ground := Ground.data }], guard := none }) (v := .bool false) rfl (by kernel_rfl) (by kernel_rfl) (by kernel_rfl) (fun _ _ _ h => h) (Or.inl ⟨by rfl, by intro w hSw; go_simp⟩) (by assumption) ?_
      simp only [Act.put, List.setIfInBounds_toArray, List.set_cons_zero, List.set_cons_succ]
      refine wpAnyH_done (by kernel_rfl) ?_ _
      clear hHeld
      have HQ2 : Hid (Below w.heap.size w wr.drew) := hid (below_on HQ.out (Below.refl _ _).drew)
      generalize wr.drew = w3 at *
      go_wp2_with fail
      go_roundw
      case measure => simp [intOf] <;> omega
      case rel => exact ⟨q + 1, by omega, by go_num, HQ2⟩
    · have hqe : q = n := by omega
      subst hqe
      go_wp2_with fail
      go_ret
      exact ⟨rfl, HQ.out⟩
end Go.Proofs.YtncnogndopgknaaGreatDoor
namespace Go.Proofs.YtncnogndopgknaaGreatDoor
open Go.RowKit
/-- The package-level variables that asm reads. -/
structure AW (W : World) : Prop where
  t : TM W
  e : ErrT W
  z : 7 < W.heap.size
  m : ∃ m : Int, W.cell? ⟨7, 0, none⟩ = some (.int .i64 m)
theorem AW.on {W w : World} (h : AW W) (hb : Below W.heap.size W w) : AW w :=
  ⟨h.t.on hb, h.e.on hb, Nat.lt_of_lt_of_le h.z hb.size, let ⟨m, hm⟩ := h.m; ⟨m, by rw [hb.cell (p := ⟨7, 0, none⟩) h.z]; exact hm⟩⟩
theorem asm_call (W : World) (h : AW W) (s : ByteArray) (base : Nat) (hbase : base < 4294967296) : Calls Tryz.prog 9 #[.string s, .int .u32 (base : Int)] W fun x w' => AmPost W (S.asm s.data.toList base) x w' := by
  obtain ⟨m, hm⟩ := h.m
  exact assemble_any W h.t h.e m h.z hm s base hbase
theorem cel_at {w : World} {g : Nat} {xs : List Nat} (h : Cel w g 22 (u32s xs)) : UAt w (some ⟨g, 0, none⟩) xs :=
  .inr ⟨g, 0, rfl, h.lt, fun i hi => by rw [h.cell, Nat.zero_add]; simp [u32s, hi]⟩
namespace S
theorem stmt_line {line : Nat} {st st' : St} {name : T.Wd} {rest : List T.Wd} (h : stmt line st name rest = .inr st') : ∀ t ∈ st'.lat, t ∈ st.lat ∨ t.line = line := by
  unfold stmt at h
  cases hk : kindOf name.text with
  | none => rw [hk] at h; cases h
  | some k =>
    rw [hk] at h
    simp only at h
    split at h
    · cases h
    · split at h
      · cases h
      · cases hr : rdOps name.col (k.shape.map (·.toNat)) rest with
        | inl f => rw [hr] at h; cases h
        | inr os =>
          rw [hr] at h
          simp only at h
          split at h
          · cases h
          · cases h
            intro t ht
            rcases List.mem_append.1 ht with ht | ht
            · exact .inl ht
            · unfold lats at ht
              obtain ⟨i, _, rfl⟩ := List.mem_map.1 ht
              exact .inr rfl
theorem lay_line {line : Nat} : ∀ {ws : List T.Wd} {st st' : St}, lay line st ws = .inr st' → ∀ t ∈ st'.lat, t ∈ st.lat ∨ t.line = line
  | [], st, st', h => by cases h; exact fun t ht => .inl ht
  | w :: ws, st, st', h => by
    unfold lay at h
    split at h
    · split at h
      · split at h
        · cases h
        · exact lay_line (st := { st with labs := st.labs ++ [(Lib.trimSuffix w.text [58], st.ws.length)] }) h
      · cases h
    · exact stmt_line h
def okB (b : Nat) : (Int × Nat × Nat) ⊕ St → Prop
  | .inl f => f.2.1 ≤ b
  | .inr st => ∀ t ∈ st.lat, t.line ≤ b
theorem lines_line : ∀ (L : List (List UInt8)) (st : St) (n b : Nat), n + L.length ≤ b → (∀ t ∈ st.lat, t.line ≤ n) → okB b (lines st n L)
  | [], st, n, b, hb, h => fun t ht => Nat.le_trans (h t ht) (by simpa using hb)
  | l :: ls, st, n, b, hb, h => by
    simp only [List.length_cons] at hb
    unfold lines
    cases T.rd l 0 with
    | inl x => show n + 1 ≤ b; omega
    | inr ws =>
      simp only
      cases hl : lay (n + 1) st ws with
      | inl f => show n + 1 ≤ b; omega
      | inr st' => exact lines_line ls st' (n + 1) b (by omega) (fun t ht => (lay_line hl t ht).elim (fun h1 => Nat.le_trans (h t h1) (by omega)) (fun h1 => by omega))
theorem fin_line (base b : Nat) (labs : List (List UInt8 × Nat)) : ∀ (ts : List Lt) (ws : List Nat), (∀ t ∈ ts, t.line ≤ b) → ∀ f, fin base labs ws ts = .inl f → f.2.1 ≤ b
  | [], _, _, _, h => by cases h
  | t :: ts, ws, hb, f, h => by
    unfold fin at h
    split at h
    · cases h; exact hb t (by simp)
    · split at h
      · cases h; exact hb t (by simp)
      · exact fin_line base b labs ts _ (fun t' ht => hb t' (by simp [ht])) f h
theorem asm_line {s : List UInt8} {base : Nat} {f : Int × Nat × Nat} (h : asm s base = .inl f) : f.2.1 ≤ 65537 := by
  unfold asm read at h
  by_cases hs : 65536 < s.length
  · rw [if_pos hs] at h
    cases h
    exact Nat.zero_le _
  · rw [if_neg hs] at h
    have hl := lines_line (T.lines s) ⟨[], [], []⟩ 0 65537 (by have := (lines_sum s).2; omega) (fun t ht => by cases ht)
    cases hr : lines ⟨[], [], []⟩ 0 (T.lines s) with
    | inl g => rw [hr] at h hl; cases h; exact hl
    | inr st =>
      rw [hr] at h hl
      simp only at h
      cases hf : fin base st.labs st.ws st.lat with
      | inl g => rw [hf] at h; cases h; exact fin_line base 65537 st.labs st.lat st.ws hl _ hf
      | inr ws => rw [hf] at h; cases h
end S
set_option maxRecDepth 40000 in
set_option maxHeartbeats 2000000 in
theorem first_any (W : World) (h : AW W) : Calls Tryz.prog 8 #[] W fun x w' => x = .returned (.bool true) ∧ Below W.heap.size W w' := by
  have H9 := hid (asm_call W h ⟨#[108, 105, 32, 114, 50, 32, 101, 110, 100, 10, 120, 58, 32, 98, 32, 97, 108, 32, 120, 10, 119, 111, 114, 100, 32, 101, 110, 100, 10, 101, 110, 100, 58]⟩ 4096 (by decide))
  have e0 : S.asm (⟨#[108, 105, 32, 114, 50, 32, 101, 110, 100, 10, 120, 58, 32, 98, 32, 97, 108, 32, 120, 10, 119, 111, 114, 100, 32, 101, 110, 100, 10, 101, 110, 100, 58]⟩ : ByteArray).data.toList 4096 = .inr ([75501584, 142606336, 1409351679, 4112], [([120], 2), ([101, 110, 100], 4)]) := S.ex_asm
  rw [e0] at H9
  clear h e0
  go_enter Tryz.func8, Tryz.ntmps8
  go_wp2_with fail
  refine H9.out.mono ?_
  rintro e w1 ⟨v, rfl, hown, hb1⟩
  obtain ⟨av, cv, rfl⟩ := own_form hown
  have HU : Hid (UAt w1 av [75501584, 142606336, 1409351679, 4112] ∧ Below W.heap.size W w1) := hid ⟨own_at hown, hb1⟩
  clear hown hb1 H9
  simp only [List.length_cons, List.length_nil, Nat.zero_add, Nat.reduceAdd]
  go_wp2_with fail
  have HB2 : Hid (Below w1.heap.size w1 ((w1.alloc (Obj.cells #[Value.int .i64 0, Value.int .i64 0, Value.int .i64 0] 27)).alloc (Obj.cells #[Value.int .u32 75501584, Value.int .u32 142606336, Value.int .u32 1409351679, Value.int .u32 4112] 22))) := hid (below_two _ _ _)
  have HC2 : Hid (Cel ((w1.alloc (Obj.cells #[Value.int .i64 0, Value.int .i64 0, Value.int .i64 0] 27)).alloc (Obj.cells #[Value.int .u32 75501584, Value.int .u32 142606336, Value.int .u32 1409351679, Value.int .u32 4112] 22)) (w1.heap.size + 1) 22 (u32s [75501584, 142606336, 1409351679, 4112])) := hid (new_at2 _ _ _)
  refine (same_any _ [75501584, 142606336, 1409351679, 4112] (by decide) av (some ⟨w1.heap.size + 1, 0, none⟩) cv 4 (HU.out.1.on HB2.out) (cel_at HC2.out)).mono ?_
  rintro e w2 ⟨rfl, hb2⟩
  have HB3 : Hid (Below W.heap.size W w2) := hid (below_on (HU.out.2.trans (HB2.out.mono HU.out.2.size)) hb2)
  clear HB2 HC2 hb2
  go_wp2_with fail
  go_ret
  exact ⟨rfl, HB3.out⟩
end Go.Proofs.YtncnogndopgknaaGreatDoor
namespace Go.Proofs.YtncnogndopgknaaGreatDoor
open Go.RowKit
theorem pre_data (s : ByteArray) : ((⟨#[35, 32, 120, 58, 32, 121, 10, 32, 9, 10]⟩ : ByteArray) ++ s).data.toList = S.pre2 ++ s.data.toList := by
  rw [ByteArray.data_append]
  simp [S.pre2]
set_option maxRecDepth 40000 in
set_option maxHeartbeats 4000000 in
theorem moves_any (W : World) (h : AW W) (s : ByteArray) (b o : Nat) (hb : b < 4294967296) (ho : o < 4294967296) :
    Calls Tryz.prog 3 #[.string s, .int .u32 (b : Int), .int .u32 (o : Int)] W fun x w' => x = .returned (.bool true) ∧ Below W.heap.size W w' := by
  have H8 := hid (first_any W h)
  have HA : Hid (∀ x, Below W.heap.size W x → ∀ (t : ByteArray) (c : Nat), c < 4294967296 → Calls Tryz.prog 9 #[.string t, .int .u32 (c : Int)] x fun y w' => AmPost x (S.asm t.data.toList c) y w') := hid (fun x hx t c hc => asm_call x (h.on hx) t c hc)
  have HB : Hid (b < 4294967296 ∧ o < 4294967296) := hid ⟨hb, ho⟩
  have hsn : 0 ≤ (s.size : Int) := by omega
  have H2 := S.asm_two s.data.toList b o
  clear h hb ho
  cases h1 : S.asm s.data.toList b with
  | inl f =>
    rw [h1] at H2
    cases h2 : S.asm s.data.toList o with
    | inr y => rw [h2] at H2; exact H2.elim
    | inl f' =>
      rw [h2] at H2
      obtain ⟨rfl, hf0⟩ := H2
      have hfl := S.asm_line h1
      have HP := hid (S.asm_pre s.data.toList b)
      rw [h1] at HP
      obtain ⟨fe, fl, fc⟩ := f
      simp only at hf0 hfl HP
      have hf1 : (fe == 0) = false := by simpa using hf0
      have l1 : (fl : Int) ≤ 65537 := by omega
      have l0 : 0 ≤ (fl : Int) := by omega
      have H9a : Hid (∀ x, Below W.heap.size W x → Calls Tryz.prog 9 #[.string s, .int .u32 (b : Int)] x fun y w' => AmPost x (.inl (fe, fl, fc)) y w') := hid (fun x hx => by rw [← h1]; exact HA.out x hx s b HB.out.1)
      have H9b : Hid (∀ x, Below W.heap.size W x → Calls Tryz.prog 9 #[.string s, .int .u32 (o : Int)] x fun y w' => AmPost x (.inl (fe, fl, fc)) y w') := hid (fun x hx => by rw [← h2]; exact HA.out x hx s o HB.out.2)
      clear h1 h2
      go_enter Tryz.func3, Tryz.ntmps3
      go_wp2_with fail
      refine H8.out.mono ?_
      rintro e w0 ⟨rfl, hb0⟩
      go_wp2_with fail
      refine (H9a.out w0 hb0).mono ?_
      rintro e w1 ⟨rfl, hb1⟩
      have HB1 : Hid (Below W.heap.size W w1) := hid (below_on hb0 hb1)
      clear hb0 hb1 H8
      go_wp2_with fail
      have HX1 : Hid (Below w1.heap.size w1 (w1.alloc (Obj.cells #[.int .i64 fe, .int .i64 (fl : Int), .int .i64 (fc : Int)] 27)) ∧ Cel (w1.alloc (Obj.cells #[.int .i64 fe, .int .i64 (fl : Int), .int .i64 (fc : Int)] 27)) w1.heap.size 27 [.int .i64 fe, .int .i64 (fl : Int), .int .i64 (fc : Int)]) := hid ⟨below_one _ _, Cel.new _ _ _⟩
      generalize w1.alloc (Obj.cells #[.int .i64 fe, .int .i64 (fl : Int), .int .i64 (fc : Int)] 27) = X1 at *
      have HB2 : Hid (Below W.heap.size W X1) := hid (below_on HB1.out HX1.out.1)
      have HC1 := hid HX1.out.2
      clear HX1
      generalize w1.heap.size = g1 at *
      refine (H9b.out X1 HB2.out).mono ?_
      rintro e w2 ⟨rfl, hb2⟩
      have HB3 : Hid (Below W.heap.size W (w2.alloc (Obj.cells #[.int .i64 fe, .int .i64 (fl : Int), .int .i64 (fc : Int)] 27)) ∧ Cel (w2.alloc (Obj.cells #[.int .i64 fe, .int .i64 (fl : Int), .int .i64 (fc : Int)] 27)) g1 27 [.int .i64 fe, .int .i64 (fl : Int), .int .i64 (fc : Int)] ∧ Cel (w2.alloc (Obj.cells #[.int .i64 fe, .int .i64 (fl : Int), .int .i64 (fc : Int)] 27)) w2.heap.size 27 [.int .i64 fe, .int .i64 (fl : Int), .int .i64 (fc : Int)]) := hid ⟨below_on (below_on HB2.out hb2) (below_one _ _), (HC1.out.on hb2).on (below_one _ _), Cel.new _ _ _⟩
      have z0 : (w2.alloc (Obj.cells #[.int .i64 fe, .int .i64 (fl : Int), .int .i64 (fc : Int)] 27)).cell? ⟨g1, 0, none⟩ = some (.int .i64 fe) := HB3.out.2.1.cell 0
      have z1 : (w2.alloc (Obj.cells #[.int .i64 fe, .int .i64 (fl : Int), .int .i64 (fc : Int)] 27)).cell? ⟨g1, 1, none⟩ = some (.int .i64 (fl : Int)) := HB3.out.2.1.cell 1
      have z2 : (w2.alloc (Obj.cells #[.int .i64 fe, .int .i64 (fl : Int), .int .i64 (fc : Int)] 27)).cell? ⟨g1, 2, none⟩ = some (.int .i64 (fc : Int)) := HB3.out.2.1.cell 2
      clear hb2
      by_cases hs : 65000 < s.size
      · have hs1 : (65000 : Int) < (s.size : Int) := by omega
        go_wp2_with fail
        go_ret
        exact ⟨rfl, HB3.out.1⟩
      · have hs1 : ¬ ((65000 : Int) < (s.size : Int)) := by omega
        have H9c : Hid (∀ x, Below W.heap.size W x → Calls Tryz.prog 9 #[.string (⟨#[35, 32, 120, 58, 32, 121, 10, 32, 9, 10]⟩ ++ s), .int .u32 (b : Int)] x fun y w' => AmPost x (.inl (fe, fl + 2, fc)) y w') := hid (fun x hx => by
          have h0 := HA.out x hx (⟨#[35, 32, 120, 58, 32, 121, 10, 32, 9, 10]⟩ ++ s) b HB.out.1
          rw [pre_data, HP.out (by rw [size_list]; omega)] at h0
          exact h0)
        go_wp2_with fail
        generalize w2.alloc (Obj.cells #[.int .i64 fe, .int .i64 (fl : Int), .int .i64 (fc : Int)] 27) = X2 at *
        refine (H9c.out X2 HB3.out.1).mono ?_
        rintro e w3 ⟨rfl, hb3⟩
        have cst : ((fl + 2 : Nat) : Int) = (fl : Int) + 2 := by omega
        simp only [cst]
        have HB4 : Hid (Below W.heap.size W (w3.alloc (Obj.cells #[.int .i64 fe, .int .i64 ((fl : Int) + 2), .int .i64 (fc : Int)] 27)) ∧ Cel (w3.alloc (Obj.cells #[.int .i64 fe, .int .i64 ((fl : Int) + 2), .int .i64 (fc : Int)] 27)) g1 27 [.int .i64 fe, .int .i64 (fl : Int), .int .i64 (fc : Int)]) := hid ⟨below_on (below_on HB3.out.1 hb3) (below_one _ _), (HB3.out.2.1.on hb3).on (below_one _ _)⟩
        have z0 : (w3.alloc (Obj.cells #[.int .i64 fe, .int .i64 ((fl : Int) + 2), .int .i64 (fc : Int)] 27)).cell? ⟨g1, 0, none⟩ = some (.int .i64 fe) := HB4.out.2.cell 0
        have z1 : (w3.alloc (Obj.cells #[.int .i64 fe, .int .i64 ((fl : Int) + 2), .int .i64 (fc : Int)] 27)).cell? ⟨g1, 1, none⟩ = some (.int .i64 (fl : Int)) := HB4.out.2.cell 1
        have z2 : (w3.alloc (Obj.cells #[.int .i64 fe, .int .i64 ((fl : Int) + 2), .int .i64 (fc : Int)] 27)).cell? ⟨g1, 2, none⟩ = some (.int .i64 (fc : Int)) := HB4.out.2.cell 2
        clear hb3 HB3
        go_wp2_with fail
        go_ret
        exact ⟨rfl, HB4.out.1⟩
  | inr y =>
    rw [h1] at H2
    cases h2 : S.asm s.data.toList o with
    | inl f => rw [h2] at H2; exact H2.elim
    | inr y2 =>
      rw [h2] at H2
      obtain ⟨hln, h48⟩ := H2
      have HP := hid (S.asm_pre s.data.toList b)
      rw [h1] at HP
      obtain ⟨ws, labs⟩ := y
      obtain ⟨ws2, labs2⟩ := y2
      simp only at hln h48 HP
      obtain ⟨n, hn⟩ : ∃ n, ws.length = n := ⟨_, rfl⟩
      have HN : Hid (ws.length = n ∧ ws2.length = n) := hid ⟨hn, by omega⟩
      have n1 : (n : Int) ≤ 2048 := by omega
      have H9a : Hid (∀ x, Below W.heap.size W x → Calls Tryz.prog 9 #[.string s, .int .u32 (b : Int)] x fun y w' => ∃ ao c, y = .returned (.tuple #[.slice ao n c, .agg #[.int .i64 0, .int .i64 0, .int .i64 0]]) ∧ UAt w' ao ws ∧ Below x.heap.size x w') := hid (fun x hx => by
        have h0 := HA.out x hx s b HB.out.1
        rw [h1] at h0
        refine h0.mono ?_
        rintro e w' ⟨v, rfl, hown, hb'⟩
        obtain ⟨ao, c, rfl⟩ := own_form hown
        exact ⟨ao, c, by rw [← hn], own_at hown, hb'⟩)
      have H9b : Hid (∀ x, Below W.heap.size W x → Calls Tryz.prog 9 #[.string s, .int .u32 (o : Int)] x fun y w' => ∃ ao c, y = .returned (.tuple #[.slice ao n c, .agg #[.int .i64 0, .int .i64 0, .int .i64 0]]) ∧ Below x.heap.size x w') := hid (fun x hx => by
        have h0 := HA.out x hx s o HB.out.2
        rw [h2] at h0
        refine h0.mono ?_
        rintro e w' ⟨v, rfl, hown, hb'⟩
        obtain ⟨ao, c, rfl⟩ := own_form hown
        exact ⟨ao, c, by show _ = Ending.returned (.tuple #[.slice ao n c, _]); rw [← HN.out.2], hb'⟩)
      clear h1 h2 hln h48 hn
      go_enter Tryz.func3, Tryz.ntmps3
      go_wp2_with fail
      refine H8.out.mono ?_
      rintro e w0 ⟨rfl, hb0⟩
      go_wp2_with fail
      refine (H9a.out w0 hb0).mono ?_
      rintro e w1 ⟨a1, c1, rfl, hu1, hb1⟩
      have HB1 : Hid (Below W.heap.size W w1 ∧ UAt w1 a1 ws) := hid ⟨below_on hb0 hb1, hu1⟩
      clear hb0 hb1 H8 hu1
      go_wp2_with fail
      have HX1 : Hid (Below w1.heap.size w1 (w1.alloc (Obj.cells #[.int .i64 0, .int .i64 0, .int .i64 0] 27)) ∧ Cel (w1.alloc (Obj.cells #[.int .i64 0, .int .i64 0, .int .i64 0] 27)) w1.heap.size 27 [.int .i64 0, .int .i64 0, .int .i64 0]) := hid ⟨below_one _ _, Cel.new _ _ _⟩
      generalize w1.alloc (Obj.cells #[.int .i64 0, .int .i64 0, .int .i64 0] 27) = X1 at *
      have HB2 : Hid (Below W.heap.size W X1 ∧ UAt X1 a1 ws) := hid ⟨below_on HB1.out.1 HX1.out.1, HB1.out.2.on HX1.out.1⟩
      have HC1 := hid HX1.out.2
      clear HX1
      generalize w1.heap.size = g1 at *
      refine (H9b.out X1 HB2.out.1).mono ?_
      rintro e w2 ⟨a2, c2, rfl, hb2⟩
      have HB3 : Hid (Below W.heap.size W (w2.alloc (Obj.cells #[.int .i64 0, .int .i64 0, .int .i64 0] 27)) ∧ Cel (w2.alloc (Obj.cells #[.int .i64 0, .int .i64 0, .int .i64 0] 27)) g1 27 [.int .i64 0, .int .i64 0, .int .i64 0] ∧ UAt (w2.alloc (Obj.cells #[.int .i64 0, .int .i64 0, .int .i64 0] 27)) a1 ws) := hid ⟨below_on (below_on HB2.out.1 hb2) (below_one _ _), (HC1.out.on hb2).on (below_one _ _), (HB2.out.2.on hb2).on (below_one _ _)⟩
      have z0 : (w2.alloc (Obj.cells #[.int .i64 0, .int .i64 0, .int .i64 0] 27)).cell? ⟨g1, 0, none⟩ = some (.int .i64 0) := HB3.out.2.1.cell 0
      have z1 : (w2.alloc (Obj.cells #[.int .i64 0, .int .i64 0, .int .i64 0] 27)).cell? ⟨g1, 1, none⟩ = some (.int .i64 0) := HB3.out.2.1.cell 1
      have z2 : (w2.alloc (Obj.cells #[.int .i64 0, .int .i64 0, .int .i64 0] 27)).cell? ⟨g1, 2, none⟩ = some (.int .i64 0) := HB3.out.2.1.cell 2
      clear hb2
      by_cases hs : 65000 < s.size
      · have hs1 : (65000 : Int) < (s.size : Int) := by omega
        go_wp2_with fail
        go_ret
        exact ⟨rfl, HB3.out.1⟩
      · have hs1 : ¬ ((65000 : Int) < (s.size : Int)) := by omega
        have H9c : Hid (∀ x, Below W.heap.size W x → Calls Tryz.prog 9 #[.string (⟨#[35, 32, 120, 58, 32, 121, 10, 32, 9, 10]⟩ ++ s), .int .u32 (b : Int)] x fun y w' => ∃ ao c, y = .returned (.tuple #[.slice ao n c, .agg #[.int .i64 0, .int .i64 0, .int .i64 0]]) ∧ UAt w' ao ws ∧ Below x.heap.size x w') := hid (fun x hx => by
          have h0 := HA.out x hx (⟨#[35, 32, 120, 58, 32, 121, 10, 32, 9, 10]⟩ ++ s) b HB.out.1
          rw [pre_data, HP.out (by rw [size_list]; omega)] at h0
          refine h0.mono ?_
          rintro e w' ⟨v, rfl, hown, hb'⟩
          obtain ⟨ao, c, rfl⟩ := own_form hown
          exact ⟨ao, c, by show _ = Ending.returned (.tuple #[.slice ao n c, _]); rw [← HN.out.1], own_at hown, hb'⟩)
        go_wp2_with fail
        generalize w2.alloc (Obj.cells #[.int .i64 0, .int .i64 0, .int .i64 0] 27) = X2 at *
        refine (H9c.out X2 HB3.out.1).mono ?_
        rintro e w3 ⟨a3, c3, rfl, hu3, hb3⟩
        have HB4 : Hid (Below W.heap.size W (w3.alloc (Obj.cells #[.int .i64 0, .int .i64 0, .int .i64 0] 27)) ∧ Cel (w3.alloc (Obj.cells #[.int .i64 0, .int .i64 0, .int .i64 0] 27)) g1 27 [.int .i64 0, .int .i64 0, .int .i64 0] ∧ UAt (w3.alloc (Obj.cells #[.int .i64 0, .int .i64 0, .int .i64 0] 27)) a1 ws ∧ UAt (w3.alloc (Obj.cells #[.int .i64 0, .int .i64 0, .int .i64 0] 27)) a3 ws ∧ Cel (w3.alloc (Obj.cells #[.int .i64 0, .int .i64 0, .int .i64 0] 27)) w3.heap.size 27 [.int .i64 0, .int .i64 0, .int .i64 0]) := hid ⟨below_on (below_on HB3.out.1 hb3) (below_one _ _), (HB3.out.2.1.on hb3).on (below_one _ _), (HB3.out.2.2.on hb3).on (below_one _ _), hu3.on (below_one _ _), Cel.new _ _ _⟩
        have z0 : (w3.alloc (Obj.cells #[.int .i64 0, .int .i64 0, .int .i64 0] 27)).cell? ⟨g1, 0, none⟩ = some (.int .i64 0) := HB4.out.2.1.cell 0
        clear hb3 HB3 hu3
        have H10 : Hid (Calls Tryz.prog 10 #[.slice a1 n c1, .slice a3 n c3] (w3.alloc (Obj.cells #[.int .i64 0, .int .i64 0, .int .i64 0] 27)) fun x w' => x = .returned (.bool true) ∧ Below (w3.alloc (Obj.cells #[.int .i64 0, .int .i64 0, .int .i64 0] 27)).heap.size (w3.alloc (Obj.cells #[.int .i64 0, .int .i64 0, .int .i64 0] 27)) w') := hid (by
          have h0 := same_any (w3.alloc (Obj.cells #[.int .i64 0, .int .i64 0, .int .i64 0] 27)) ws (by rw [HN.out.1]; omega) a1 a3 c1 c3 HB4.out.2.2.1 HB4.out.2.2.2.1
          rw [HN.out.1] at h0
          exact h0)
        go_wp2_with (go_at_call 10; refine H10.out.mono ?_; rintro e w4 ⟨rfl, hb4⟩; have HC4 : Hid (Cel w4 w3.heap.size 27 [.int .i64 0, .int .i64 0, .int .i64 0] ∧ Below W.heap.size W w4) := hid ⟨HB4.out.2.2.2.2.on hb4, below_on HB4.out.1 hb4⟩; have v0 : w4.cell? ⟨w3.heap.size, 0, none⟩ = some (.int .i64 0) := HC4.out.1.cell 0; have v1 : w4.cell? ⟨w3.heap.size, 1, none⟩ = some (.int .i64 0) := HC4.out.1.cell 1; have v2 : w4.cell? ⟨w3.heap.size, 2, none⟩ = some (.int .i64 0) := HC4.out.1.cell 2)
        go_ret
        exact ⟨rfl, HC4.out.2⟩
end Go.Proofs.YtncnogndopgknaaGreatDoor
