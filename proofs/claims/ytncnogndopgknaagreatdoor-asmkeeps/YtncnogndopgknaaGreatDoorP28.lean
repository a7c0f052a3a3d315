import Derived.Test.YtncnogndopgknaaGreatDoorP26
import Derived.Test.YtncnogndopgknaaGreatDoorP27
namespace Go.Proofs.YtncnogndopgknaaGreatDoor
open Go.RowKit
def sumL (L : List (List UInt8)) : Nat := (L.map List.length).sum
theorem cut_sum (l : List UInt8) : sumL (T.cutL l) + (T.cutL l).length = l.length + 1 := by
  induction l with
  | nil => rfl
  | cons c t ih =>
    unfold T.cutL
    split
    · show (0 + sumL (T.cutL t)) + ((T.cutL t).length + 1) = t.length + 1 + 1
      omega
    · cases hc : T.cutL t with
      | nil => exact absurd hc (T.cutL_ne t)
      | cons h r =>
        rw [hc] at ih
        simp only [sumL, List.map_cons, List.sum_cons, List.length_cons] at ih ⊢
        omega
theorem sumL_cons (a : List UInt8) (b : List (List UInt8)) : sumL (a :: b) = a.length + sumL b := by simp [sumL]
theorem sumL_append (a b : List (List UInt8)) : sumL (a ++ b) = sumL a + sumL b := by simp [sumL]
theorem lines_sum (l : List UInt8) : sumL (T.lines l) ≤ l.length ∧ (T.lines l).length ≤ l.length + 1 := by
  have h := cut_sum l
  unfold T.lines
  split
  · have e := List.dropLast_concat_getLast (T.cutL_ne l)
    have e2 := congrArg sumL e
    have e3 := congrArg List.length e
    rw [sumL_append] at e2
    rw [List.length_append] at e3
    simp only [List.length_cons, List.length_nil] at e3
    omega
  · have := List.length_pos_iff.2 (T.cutL_ne l)
    omega
namespace S
theorem lines_cons (st : St) (n : Nat) (l : List UInt8) (ls : List (List UInt8)) : lines st n (l :: ls) = match oneLine (n + 1) st l with | .inl f => .inl (f.1, n + 1, f.2) | .inr st' => lines st' (n + 1) ls := by
  conv => lhs; unfold lines
  unfold oneLine
  cases T.rd l 0 with
  | inl x => rfl
  | inr ws =>
    simp only
    cases lay (n + 1) st ws <;> rfl
theorem one_ok {line : Nat} {st st' : St} {l : List UInt8} (h : oneLine line st l = .inr st') (hl : l.length ≤ 65536) (hk : ∀ t ∈ st.lat, Lok st.ws.length t) : (∀ t ∈ st'.lat, Lok st'.ws.length t) ∧ st'.lat.length ≤ st.lat.length + 3 ∧ st'.labs.length ≤ st.labs.length + l.length := by
  unfold oneLine at h
  have hw := rdw_ok l 0
  cases hr : T.rd l 0 with
  | inl x => rw [hr] at h; cases h
  | inr ws =>
    rw [hr] at h hw
    have h0 := lay_lok h (fun w hwm => Nat.le_trans (hw.2 w hwm) (by omega)) hk
    exact ⟨h0.1, h0.2.1, Nat.le_trans h0.2.2 (by have := hw.1; omega)⟩
theorem fin1_len {base : Nat} {labs : List (List UInt8 × Nat)} {ws ws' : List Nat} {t : Lt} (h : fin1 base labs ws t = .inr ws') (hp : t.place ≤ ws.length) : ws'.length = ws.length := by
  unfold fin1 at h
  split at h
  · cases h
  · split at h
    · cases h
    · cases h; exact over_len hp
end S
def PgPost (W : World) (base : Nat) (r : (Int × Nat × Nat) ⊕ (List Nat × List (List UInt8 × Nat))) (x : Ending) (w' : World) : Prop :=
  match r with
  | .inl f => x = .returned (.tuple #[.pointer none, bk f.1 f.2.1 f.2.2]) ∧ Below W.heap.size W w'
  | .inr y => ∃ V g gm line lat fs i vw vl vf, x = .returned (.tuple #[.pointer (some ⟨g, 0, none⟩), .nilIface]) ∧ Below W.heap.size W V ∧ PF V w' g gm base line y.1 y.2 lat fs i vw vl vf
set_option maxRecDepth 20000 in
theorem lines_long2 (W : World) (s : ByteArray) (hb : 65536 < s.size) : Calls Tryz.prog 37 #[.string s] W fun e W' => e = .returned (.tuple #[.slice none 0 0, .int .i64 2]) ∧ W' = W := by
  have c1 : (65536 : Int) < (s.size : Int) := by omega
  clear hb
  go_enter Tryz.func37, Tryz.ntmps37
  go_wp2_with fail
  go_ret2
  exact ⟨rfl, rfl⟩
set_option maxRecDepth 40000 in
theorem read_long (W : World) (s : ByteArray) (hb : 65536 < s.size) (base : Nat) : Calls Tryz.prog 23 #[.string s, .int .u32 (base : Int)] W fun x w' => PgPost W base (.inl (2, 0, 0)) x w' := by
  have H37 := hid (lines_long2 W s hb)
  clear hb
  go_enter Tryz.func23, Tryz.ntmps23
  go_wp2_with fail
  refine H37.out.mono ?_
  rintro e w1 ⟨rfl, rfl⟩
  go_wp2_with fail
  refine (faultAt_any _ 2 0 0).mono ?_
  rintro e y1 ⟨rfl, rfl⟩
  go_wp2_with fail
  go_ret2
  exact ⟨rfl, Below.refl _ _⟩
theorem PS.start (V : World) (base : Nat) (cs : Array Value) (hcs : cs = (psC base 0 (.slice none 0 0) (.slice none 0 0) V.heap.size (.slice none 0 0)).toArray) : PS V ((V.alloc (.map #[] 0)).alloc (.cells cs 77)) (V.heap.size + 1) V.heap.size base 0 ⟨[], [], []⟩ [] (.slice none 0 0) (.slice none 0 0) (.slice none 0 0) := by
  subst hcs
  refine ⟨((Below.refl _ _).alloc (Nat.le_refl _) _).alloc (by simp) _, by omega, Nat.le_refl _, ?_, World.ownsRow_nil _ _ 22 1, World.ownsRow_nil _ _ 43 2, World.ownsRow_nil _ _ 111 1, map_on (MapIs.made V) (below_one _ _), rfl, (fun i h => by cases h), by simp, (fun d hd => by cases hd), Nat.zero_le _, (fun x hx => by cases hx)⟩
  have := Cel.new (V.alloc (.map #[] 0)) 77 (psC base 0 (.slice none 0 0) (.slice none 0 0) V.heap.size (.slice none 0 0))
  rw [alloc_size] at this
  exact this
set_option maxRecDepth 40000 in
set_option maxHeartbeats 4000000 in
theorem read_any6 (W : World) (hT : TM W) (m : Int) (hm : W.cell? ⟨7, 0, none⟩ = some (.int .i64 m)) (s : ByteArray) (hs : s.size ≤ 65536) (base : Nat) (hbase : base < 4294967296) :
    Calls Tryz.prog 23 #[.string s, .int .u32 (base : Int)] W fun x w' => PgPost W base (S.asm s.data.toList base) x w' := by
  have H37 := hid (lines_any W s m hs hm)
  obtain ⟨L, hL⟩ : ∃ L, T.lines s.data.toList = L := ⟨_, rfl⟩
  have hLs := lines_sum s.data.toList
  rw [hL, size_list] at hLs
  obtain ⟨r, hr⟩ : ∃ r, S.asm s.data.toList base = r := ⟨_, rfl⟩
  have HR : Hid (r = match S.lines ⟨[], [], []⟩ 0 L with | .inl f => .inl f | .inr st => (match S.fin base st.labs st.ws st.lat with | .inl f => .inl f | .inr ws => .inr (ws, st.labs))) := hid (by
    rw [← hr, ← hL]
    unfold S.asm S.read
    rw [if_neg (by rw [size_list]; omega)]
    cases S.lines ⟨[], [], []⟩ 0 (T.lines s.data.toList) with
    | inl f => rfl
    | inr st =>
      simp only
      cases S.fin base st.labs st.ws st.lat <;> rfl)
  rw [hr]
  have HT : Hid (TM W) := hT
  unfold LiPost at H37
  rw [hL] at H37
  clear hr hT hm hL
  obtain ⟨n, hn⟩ : ∃ n, L.length = n := ⟨_, rfl⟩
  have HN : Hid (L.length = n) := hn
  rw [hn] at H37
  have n1 : (n : Int) ≤ 65537 := by omega
  have HSM : Hid (sumL L ≤ 65536) := hid (by omega)
  clear hn hLs
  go_enter Tryz.func23, Tryz.ntmps23
  go_wp2_with fail
  refine H37.out.mono ?_
  rintro e V ⟨gl, cl, rfl, hst, hbV⟩
  have HST : Hid (StrsAt V (some ⟨gl, 0, none⟩) L ∧ Below W.heap.size W V) := hid ⟨hst, hbV⟩
  clear hst hbV H37
  have hmk : Sem.run Tryz.prog (Instr.makeMap 74 none) V = .ok (.map (some V.heap.size)) (V.alloc (.map #[] 0)) := by
    rfl
  go_wp2_with fail
  have HPX := hid (PS.start V base #[Value.int IntKind.u32 ↑base, Value.int IntKind.i64 0, Value.slice none 0 0, Value.slice none 0 0, Value.map (some V.heap.size), Value.slice none 0 0] rfl)
  generalize (V.alloc (Obj.map #[] 0)).alloc (Obj.cells #[Value.int IntKind.u32 ↑base, Value.int IntKind.i64 0, Value.slice none 0 0, Value.slice none 0 0, Value.map (some V.heap.size), Value.slice none 0 0] 77) = X at *
  obtain ⟨g, hg⟩ : ∃ g, V.heap.size + 1 = g := ⟨_, rfl⟩
  rw [hg] at HPX ⊢
  obtain ⟨gm, hgm⟩ : ∃ gm, V.heap.size = gm := ⟨_, rfl⟩
  have HPX : Hid (PS V X g gm base 0 ⟨[], [], []⟩ [] (.slice none 0 0) (.slice none 0 0) (.slice none 0 0)) := hid (by rw [← hgm]; exact HPX.out)
  rw [hgm]
  clear hmk hg hgm
  have HTV : Hid (TM V) := hid (HT.out.on HST.out.2)
  go_loopw [30] (fun v wr => ∃ (q : Nat) (ln : Nat) (st : S.St) (fs : List Fc) (vw vl vf : Value), q ≤ n ∧ v = .int .i64 q ∧ Hid (PS V wr g gm base ln st fs vw vl vf ∧ S.lines ⟨[], [], []⟩ 0 L = S.lines st q (L.drop q) ∧ st.labs.length + sumL (L.drop q) ≤ 65536 ∧ st.lat.length ≤ 3 * q ∧ ∀ t ∈ st.lat, S.Lok st.ws.length t)) (fun v _ => n - (intOf v).toNat)
  case atStart => exact ⟨0, 0, _, _, _, _, _, Nat.zero_le _, rfl, hid ⟨HPX.out, rfl, by show 0 + sumL L ≤ 65536; have := HSM.out; omega, Nat.zero_le _, (fun t ht => by cases ht)⟩⟩
  case round =>
    clear HPX
    obtain ⟨q, ln, st, fs, vw, vl, vf, hq, rfl, HQ⟩ := hrel
    by_cases hlt : q < n
    · have c1 : (q : Int) < (n : Int) := by omega
      have hqL : q < L.length := by rw [HN.out]; exact hlt
      have hdr : L.drop q = L[q] :: L.drop (q + 1) := List.drop_eq_getElem_cons hqL
      have hcl : wr.cell? ⟨gl, q, none⟩ = some (.string ⟨L[q].toArray⟩) := by
        rcases HST.out.1 with h0 | ⟨b, o, e, hb, hc⟩
        · rw [h0] at hqL; simp at hqL
        · injection e with e
          injection e with e1 e2
          subst e1 e2
          have := hc q hqL
          rw [Nat.zero_add] at this
          rw [HQ.out.1.below.cell (p := ⟨gl, q, none⟩) hb]
          exact this
      have hg1 : wr.cell? ⟨g, 1, none⟩ = some (.int .i64 (ln : Int)) := HQ.out.1.cel.cell 1
      have hg2 : wr.frozen? ⟨g, 1, none⟩ = false := HQ.out.1.cel.free 1
      have hsm := HQ.out.2.2.1
      rw [hdr] at hsm
      rw [sumL_cons] at hsm
      have HLC := hid (S.lines_cons st q L[q] (L.drop (q + 1)))
      rw [← hdr, ← HQ.out.2.1] at HLC
      have HP1 : Hid (PS V (wr.setCell ⟨g, 1, none⟩ (.int .i64 ((q : Int) + 1))) g gm base (q + 1) st fs vw vl vf) := hid (HQ.out.1.setLine (q + 1))
      have HLO := hid (fun (st' : S.St) (h : S.oneLine (q + 1) st (L[q]'hqL) = .inr st') => S.one_ok h (by omega) HQ.out.2.2.2.2)
      have hlat := HQ.out.2.2.2.1
      obtain ⟨lq, hlq⟩ : ∃ lq, L[q] = lq := ⟨_, rfl⟩
      rw [hlq] at hcl HLC HLO hsm
      clear HQ hdr hlq hqL
      go_wp2_with fail
      refine (layLine_any V _ HTV.out g gm base (q + 1) st fs vw vl vf HP1.out (by omega) lq (by omega) (by omega)).mono ?_
      intro e w' hpost
      cases hone : S.oneLine (q + 1) st lq with
      | inl f =>
        rw [hone] at hpost HLC
        obtain ⟨rfl, hb2⟩ := hpost
        have HR2 : Hid (r = .inl (f.1, q + 1, f.2)) := hid (by rw [HR.out, HLC.out])
        have HB2 : Hid (Below W.heap.size W w') := hid (HST.out.2.trans (hb2.mono HST.out.2.size))
        clear HR HLC hone HLO hb2
        simp only [bk]
        go_wp2_with fail
        go_ret2
        rw [HR2.out]
        exact ⟨rfl, HB2.out⟩
      | inr st' =>
        rw [hone] at hpost HLC
        have hok := HLO.out st' hone
        obtain ⟨rfl, fs', vw', vl', vf', hP'⟩ := hpost
        have HP' := hid hP'
        have HOK : Hid (S.lines ⟨[], [], []⟩ 0 L = S.lines st' (q + 1) (L.drop (q + 1)) ∧ st'.labs.length + sumL (L.drop (q + 1)) ≤ 65536 ∧ st'.lat.length ≤ 3 * (q + 1) ∧ ∀ t ∈ st'.lat, S.Lok st'.ws.length t) := hid ⟨HLC.out, by omega, by omega, hok.1⟩
        clear HLC hone HLO hP' hok
        go_wp2_with fail
        go_roundw
        case measure => simp [intOf] <;> omega
        case rel => exact ⟨q + 1, q + 1, st', fs', vw', vl', vf', by omega, by go_num, hid ⟨HP'.out, HOK.out⟩⟩
    · have hqe : q = n := by omega
      subst hqe
      have hdn : L.drop q = [] := List.drop_of_length_le (by rw [HN.out]; exact Nat.le_refl _)
      have HR2 : Hid (r = match S.fin base st.labs st.ws st.lat with | .inl f => .inl f | .inr ws => .inr (ws, st.labs)) := hid (by rw [HR.out, HQ.out.2.1, hdn]; rfl)
      have HPF := hid HQ.out.1.fin
      obtain ⟨af, cf, rfl⟩ := own_form HQ.out.1.lt
      have g5 : wr.cell? ⟨g, 5, none⟩ = some (.slice af st.lat.length cf) := HQ.out.1.cel.cell 5
      have hlat := HQ.out.2.2.2.1
      have HLK := hid HQ.out.2.2.2.2
      clear HQ HR hdn
      obtain ⟨ws, labs, lat⟩ := st
      simp only at hlat HLK HR2 HPF g5
      obtain ⟨k, hk⟩ : ∃ k, lat.length = k := ⟨_, rfl⟩
      have HK : Hid (lat.length = k) := hk
      have k1 : (k : Int) ≤ 196611 := by omega
      rw [hk] at g5
      clear hlat hk
      go_wp2_with fail
      have HLF : Hid (∀ f, S.fin base labs ws lat = f → r = match f with | .inl f => .inl f | .inr ws => .inr (ws, labs)) := hid (fun f hf => by rw [HR2.out, hf])
      clear HR2 g5
      go_loopw [52] (fun v w2 => ∃ (j : Nat) (wj : List Nat), j ≤ k ∧ v = .int .i64 j ∧ Hid (PF V w2 g gm base ln wj labs lat fs j vw vl (.slice af k cf) ∧ S.fin base labs ws lat = S.fin base labs wj (lat.drop j) ∧ wj.length = ws.length)) (fun v _ => k - (intOf v).toNat)
      case atStart => exact ⟨0, ws, Nat.zero_le _, rfl, hid ⟨by rw [← HK.out]; exact HPF.out, rfl, rfl⟩⟩
      case round =>
        clear HPF
        obtain ⟨j, wj, hj, rfl, HJ⟩ := hrel
        by_cases hlt : j < k
        · have c1 : (j : Int) < (k : Int) := by omega
          have hjl : j < lat.length := by rw [HK.out]; exact hlt
          have hjf : j < fs.length := by rw [HJ.out.1.len]; exact hjl
          obtain ⟨gF, rfl⟩ : ∃ gF, af = some ⟨gF, 0, none⟩ := by
            rcases HJ.out.1.lt.2 with ⟨_, h0⟩ | ⟨g', cap, cur, h1, _⟩
            · omega
            · injection h1 with h1
              exact ⟨g', h1⟩
          obtain ⟨d, hd⟩ : ∃ d, fs[j] = d := ⟨_, rfl⟩
          have hcd : wr.cell? ⟨gF, j, none⟩ = some (.func (.func 123) #[] #[.pointer (some ⟨d.g7, 0, none⟩), .pointer (some ⟨d.g8, 0, none⟩), .pointer (some ⟨d.g5, 0, none⟩), .pointer (some ⟨d.g11, 0, none⟩), .pointer (some ⟨d.g6, 0, none⟩), .pointer (some ⟨d.g9, 0, none⟩)]) := by
            have := HJ.out.1.lt.cells (g := gF) rfl j (fcV d) (by rw [List.getElem?_map, List.getElem?_eq_getElem hjf, hd]; rfl)
            rw [Addr.add_mid, Nat.zero_add] at this
            exact this
          have HCL := hid (closure_any V wr HTV.out g gm base ln j hbase wj labs lat fs vw vl (.slice (some ⟨gF, 0, none⟩) k cf) HJ.out.1 hjl hjf (by rw [HJ.out.2.2]; exact HLK.out _ (List.getElem_mem _)) d hd)
          have HFC : Hid (S.fin base labs ws lat = match S.fin1 base labs wj lat[j] with | .inl f => .inl f | .inr ws' => S.fin base labs ws' (lat.drop (j + 1))) := hid (by rw [HJ.out.2.1, List.drop_eq_getElem_cons hjl, S.fin_cons]; cases S.fin1 base labs wj lat[j] <;> rfl)
          have HLN : Hid (∀ w', S.fin1 base labs wj lat[j] = .inr w' → w'.length = wj.length) := hid (fun w' hw => S.fin1_len hw (Nat.le_of_lt (by rw [HJ.out.2.2]; exact (HLK.out _ (List.getElem_mem hjl)).place)))
          have hwl := HJ.out.2.2
          generalize S.fin1 base labs wj lat[j] = z at *
          clear HJ hd hjl hjf
          go_wp2_with fail
          refine HCL.out.mono ?_
          intro e w' hpost
          clear HCL
          cases z with
          | inl f =>
            obtain ⟨rfl, hb2⟩ := hpost
            have HR3 : Hid (r = .inl f) := hid (HLF.out _ HFC.out)
            have HB2 : Hid (Below W.heap.size W w') := hid (HST.out.2.trans (hb2.mono HST.out.2.size))
            clear HFC HLN HLF hb2
            simp only [bk]
            go_wp2_with fail
            go_ret2
            rw [HR3.out]
            exact ⟨rfl, HB2.out⟩
          | inr w3 =>
            obtain ⟨rfl, hP3⟩ := hpost
            have HP3 : Hid (PF V w' g gm base ln w3 labs lat fs (j + 1) vw vl (.slice (some ⟨gF, 0, none⟩) k cf) ∧ S.fin base labs ws lat = S.fin base labs w3 (lat.drop (j + 1)) ∧ w3.length = ws.length) := hid ⟨hP3, HFC.out, by rw [HLN.out w3 rfl]; exact hwl⟩
            clear HFC HLN hP3
            go_wp2_with fail
            go_roundw
            case measure => simp [intOf] <;> omega
            case rel => exact ⟨j + 1, w3, by omega, by go_num, HP3⟩
        · have hje : j = k := by omega
          subst hje
          have hdn : lat.drop j = [] := List.drop_of_length_le (by rw [HK.out]; exact Nat.le_refl _)
          have HR3 : Hid (r = .inr (wj, labs)) := hid (HLF.out (.inr wj) (by rw [HJ.out.2.1, hdn]; rfl))
          clear hdn HLF
          go_wp2_with fail
          go_ret2
          rw [HR3.out]
          exact ⟨V, g, gm, ln, lat, fs, j, vw, vl, _, rfl, HST.out.2, HJ.out.1⟩
end Go.Proofs.YtncnogndopgknaaGreatDoor
