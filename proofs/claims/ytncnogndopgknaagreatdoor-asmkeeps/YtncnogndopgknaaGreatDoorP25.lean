import Derived.Test.YtncnogndopgknaaGreatDoorP24
import Derived.Test.YtncnogndopgknaaGreatDoorP01
import Derived.Laws.CopyRow
namespace Go.Proofs.YtncnogndopgknaaGreatDoor
open Go.RowKit
namespace S
def oneLine (line : Nat) (st : St) (s : List UInt8) : (Int × Nat) ⊕ St :=
  match T.rd s 0 with
  | .inl x => .inl (40, x + 1)
  | .inr ws => lay line st ws
end S
def LayPost (W : World) (g gm base line : Nat) (r : (Int × Nat) ⊕ S.St) (x : Ending) (w' : World) : Prop :=
  match r with
  | .inl f => x = .returned (bk f.1 line f.2) ∧ Below W.heap.size W w'
  | .inr st' => x = .returned .nilIface ∧ ∃ fs vw vl vf, PS W w' g gm base line st' fs vw vl vf
def wdsOk (m : Nat) : Nat ⊕ List T.Wd → Prop
  | .inl _ => True
  | .inr ws => ws.length ≤ m ∧ ∀ w ∈ ws, w.text.length ≤ m
theorem wds_cons {m k : Nat} {w : T.Wd} {r : Nat ⊕ List T.Wd} (h : wdsOk k r) (hw : w.text.length ≤ m) (hk : k + 1 ≤ m) : wdsOk m (T.cons w r) := by
  cases r with
  | inl x => exact trivial
  | inr ws =>
    refine ⟨by have := h.1; show ws.length + 1 ≤ m; omega, fun v hv => ?_⟩
    rcases List.mem_cons.1 hv with rfl | hv
    · exact hw
    · exact Nat.le_trans (h.2 v hv) (by omega)
theorem wds_mono {m k : Nat} {r : Nat ⊕ List T.Wd} (h : wdsOk k r) (hk : k ≤ m) : wdsOk m r := by
  cases r with
  | inl x => exact trivial
  | inr ws => exact ⟨Nat.le_trans h.1 hk, fun v hv => Nat.le_trans (h.2 v hv) hk⟩
theorem rdw_ok (l : List UInt8) (p : Nat) : wdsOk l.length (T.rd l p) := by
  induction h : l.length using Nat.strongRecOn generalizing l p with
  | _ n ih =>
    subst h
    cases l with
    | nil => rw [T.rd_nil]; exact ⟨Nat.le_refl _, fun _ h => by cases h⟩
    | cons c t =>
      cases hg : T.isGap c with
      | true =>
        rw [T.rd_gap t p hg]
        exact wds_mono (ih t.length (by simp) t (p + 1) rfl) (by simp)
      | false =>
        by_cases h35 : c.toNat = 35
        · rw [T.rd_hash t p hg h35]; exact ⟨Nat.zero_le _, fun _ h => by cases h⟩
        · by_cases h34 : c.toNat = 34
          · have hu := T.unq_le t
            cases hq : T.unq t with
            | inl x => rw [T.rd_bad t p x hg h34 hq]; trivial
            | inr y =>
              obtain ⟨b, m⟩ := y
              rw [hq] at hu
              have hu1 : m ≤ t.length := hu.1
              cases hp : T.parted (t.drop m) with
              | false => rw [T.rd_joined t b p m hg h34 hq hp]; trivial
              | true =>
                rw [T.rd_quoted t b p m hg h34 hq hp]
                refine wds_cons (ih (t.drop m).length (by simp; omega) (t.drop m) (p + 1 + m) rfl) ?_ (by simp)
                show b.length ≤ (c :: t).length
                have hu2 : b.length < m := hu.2
                simp only [List.length_cons]; omega
          · rw [T.rd_plain t p hg h35 h34]
            have h1 := T.plainN_pos t hg
            have h2 := T.plainN_le (c :: t)
            refine wds_cons (ih ((c :: t).drop (T.plainN (c :: t))).length (by simp; omega) ((c :: t).drop (T.plainN (c :: t))) (p + T.plainN (c :: t)) rfl) ?_ (by simp; omega)
            show ((c :: t).take (T.plainN (c :: t))).length ≤ _
            rw [List.length_take]; omega
theorem wdsC_get : ∀ (os : List T.Wd) (q r : Nat) (h : q < os.length), r < 3 → (wdsC os)[q * 3 + r]? = (wdC os[q])[r]?
  | o :: os, 0, r, _, hr => by
    show (wdC o ++ wdsC os)[0 * 3 + r]? = _
    rw [Nat.zero_mul, Nat.zero_add, List.getElem?_append_left (by simp [wdC]; omega)]
    rfl
  | o :: os, q + 1, r, h, hr => by
    show (wdC o ++ wdsC os)[(q + 1) * 3 + r]? = _
    rw [List.getElem?_append_right (by simp [wdC]; omega)]
    have e : (q + 1) * 3 + r - (wdC o).length = q * 3 + r := by simp [wdC]; omega
    rw [e, wdsC_get os q r (by simpa using h) hr]
    rfl
set_option maxRecDepth 40000 in
set_option maxHeartbeats 4000000 in
theorem layLine_any (W V : World) (hT : TM W) (g gm base line : Nat) (st : S.St) (fs : List Fc) (vw vl vf : Value) (h : PS W V g gm base line st fs vw vl vf) (hlat : st.lat.length ≤ 900000) (s : List UInt8) (hs : s.length ≤ 65536) (hlab : st.labs.length + s.length ≤ 1000000) :
    Calls Tryz.prog 39 #[.pointer (some ⟨g, 0, none⟩), .string ⟨s.toArray⟩] V fun x w' => LayPost W g gm base line (S.oneLine line st s) x w' := by
  have H60 := hid (fun x => words_any x ⟨s.toArray⟩ (by simp [ByteArray.size]; omega))
  have HOK := hid (rdw_ok s 0)
  have hrle := rd_le s 0
  have e0 : (⟨s.toArray⟩ : ByteArray).data.toList = s := rfl
  rw [e0] at H60
  have HP : Hid (PS W V g gm base line st fs vw vl vf) := h
  have HT : Hid (TM W) := hT
  clear h hT e0
  unfold S.oneLine
  cases hr : T.rd s 0 with
  | inl x =>
    rw [hr] at H60 hrle
    have hx : x ≤ 65536 := Nat.le_trans hrle (by omega)
    have hx1 : (x : Int) ≤ 65536 := by omega
    clear hr HOK hrle
    go_enter Tryz.func39, Tryz.ntmps39
    go_wp2_with fail
    refine (H60.out V).mono ?_
    rintro e w1 ⟨rfl, hb⟩
    have hgl : w1.cell? ⟨g, 1, none⟩ = some (.int .i64 (line : Int)) := (HP.out.cel.on hb).cell 1
    go_wp2_with fail
    refine (faultAt_any _ 40 (line : Int) ((x : Int) + 1)).mono ?_
    rintro e y1 ⟨rfl, rfl⟩
    go_wp2_with fail
    go_ret
    exact ⟨rfl, HP.out.below.trans (hb.mono HP.out.below.size)⟩
  | inr ws =>
    rw [hr] at H60 HOK
    clear hr hrle
    obtain ⟨r, hr⟩ : ∃ r, S.lay line st ws = r := ⟨_, rfl⟩
    have HR : Hid (S.lay line st ws = r) := hr
    simp only [hr]
    clear hr
    go_enter Tryz.func39, Tryz.ntmps39
    go_wp2_with fail
    refine (H60.out V).mono ?_
    rintro e w1 ⟨v, rfl, hW⟩
    obtain ⟨av, cv, rfl⟩ := own_form hW.own
    have HP1 : Hid (PS W w1 g gm base line st fs vw vl vf) := hid (HP.out.on hW.below)
    obtain ⟨n, hn⟩ : ∃ n, ws.length = n := ⟨_, rfl⟩
    have HN : Hid (ws.length = n) := hn
    rw [hn] at hW ⊢
    have HW1 : Hid (w1.ownsRow V.heap.size 154 3 (.slice av n cv) n (wdsC ws)) := hid (by have := hW.own; rw [hn] at this; exact this)
    have hnl : n ≤ s.length := by rw [← hn]; exact HOK.out.1
    have n1 : (n : Int) ≤ 65536 := by omega
    clear hW H60 hn HP
    go_wp2_with fail
    go_loopw [5] (fun v wr => ∃ (q : Nat) (aq : Option Addr) (L : List (List UInt8 × Nat)) (vw' vl' vf' : Value), q ≤ n ∧ v = .slice aq (n - q) (cv - q) ∧ Hid ((q < n → ∃ b, aq = some ⟨b, q * 3, none⟩ ∧ av = some ⟨b, 0, none⟩) ∧ PS W wr g gm base line { ws := st.ws, labs := L, lat := st.lat } fs vw' vl' vf' ∧ L.length ≤ st.labs.length + q ∧ wr.ownsRow V.heap.size 154 3 (.slice av n cv) n (wdsC ws) ∧ S.lay line { ws := st.ws, labs := L, lat := st.lat } (ws.drop q) = r)) (fun v _ => match v with | .slice _ k _ => k | _ => 0)
    case atStart =>
      refine ⟨0, av, st.labs, vw, vl, vf, Nat.zero_le _, rfl, hid ⟨fun h0 => ?_, HP1.out, Nat.le_refl _, HW1.out, HR.out⟩⟩
      rcases HW1.out.2 with ⟨_, h1⟩ | ⟨g', cap, cur, h1, _⟩
      · omega
      · injection h1 with h1
        exact ⟨g', by rw [Nat.zero_mul]; exact h1, h1⟩
    case round =>
      obtain ⟨q, aq, L, vw', vl', vf', hq, rfl, HQ⟩ := hrel
      by_cases hlt : q < n
      · obtain ⟨b, rfl, hav⟩ := HQ.out.1 hlt
        have hqw : q < ws.length := by rw [HN.out]; exact hlt
        have hdr : ws.drop q = ws[q] :: ws.drop (q + 1) := List.drop_eq_getElem_cons hqw
        have hcn : n ≤ cv := by
          rcases HQ.out.2.2.2.1.2 with ⟨h1, _⟩ | ⟨g', cap, cur, h1, h2, h3, h4, h5, h6, h7⟩
          · rw [hav] at h1; cases h1
          · injection h1 with _ _ h1; omega
        have HRow : Hid (∀ x, KT 154 wr x → ∀ j u, (wdC ws[q])[j]? = some u → x.cell? ⟨b, q * 3 + j, none⟩ = some u) := hid (fun x hx j u hu => by
          have hj : j < 3 := by
            rcases Nat.lt_or_ge j 3 with h | h
            · exact h
            · rw [List.getElem?_eq_none (by simp [wdC]; omega)] at hu; cases hu
          have := (own_kt HQ.out.2.2.2.1 hx).cells (g := b) (by rw [hav]; rfl) (q * 3 + j) u (by rw [wdsC_get ws q j hqw hj]; exact hu)
          rw [Addr.add_mid, Nat.zero_add] at this
          exact this)
        have HWA : Hid (∀ x, KT 154 wr x → b < x.heap.size → WdAt x (some ⟨b, q * 3 + 3, none⟩) (ws.drop (q + 1))) := hid (fun x hx hbx => .inr ⟨b, q * 3 + 3, rfl, hbx, fun i hi j u hu => by
          have hiw : q + 1 + i < ws.length := by rw [List.length_drop] at hi; omega
          have hj : j < 3 := by
            rcases Nat.lt_or_ge j 3 with h | h
            · exact h
            · rw [List.getElem?_eq_none (by simp [wdC]; omega)] at hu; cases hu
          rw [List.getElem_drop] at hu
          have := (own_kt HQ.out.2.2.2.1 hx).cells (g := b) (by rw [hav]; rfl) ((q + 1 + i) * 3 + j) u (by rw [wdsC_get ws (q + 1 + i) j hiw hj]; exact hu)
          rw [Addr.add_mid, Nat.zero_add, show (q + 1 + i) * 3 + j = q * 3 + 3 + i * 3 + j from by omega] at this
          exact this⟩)
        have HSP : Hid (S.lay line { ws := st.ws, labs := L, lat := st.lat } (ws[q] :: ws.drop (q + 1)) = r) := hid (by rw [← hdr]; exact HQ.out.2.2.2.2)
        have HTX : Hid (ws[q].text.length ≤ 1000000000) := hid (by have := HOK.out.2 _ (List.getElem_mem hqw); omega)
        have HBL : Hid (b < wr.heap.size) := hid (HQ.out.2.2.2.1.lt b (by rw [hav]; rfl)).2
        obtain ⟨m, hm⟩ : ∃ m, n - q = m + 1 := ⟨n - q - 1, by omega⟩
        obtain ⟨cq, hcq⟩ : ∃ cq, cv - q = cq + 1 := ⟨cv - q - 1, by omega⟩
        have hmc : m ≤ cq := by omega
        have m1 : (m : Int) ≤ 65536 := by omega
        have m2 : (m : Int) ≤ (cq : Int) := by omega
        rw [hm, hcq]
        obtain ⟨wq, hwq⟩ : ∃ wq, ws[q] = wq := ⟨_, rfl⟩
        rw [hwq] at HRow HSP HTX
        have H61 := hid (fun x => isDef_any x wq HTX.out)
        have HPQ := hid HQ.out.2.1
        have HOQ := hid HQ.out.2.2.2.1
        have hll := HQ.out.2.2.1
        have HSQ : Hid (∃ b', some (⟨b, q * 3, none⟩ : Addr) = some ⟨b', q * 3, none⟩ ∧ av = some ⟨b', 0, none⟩) := hid ⟨b, rfl, hav⟩
        have k0 : wr.cell? ⟨b, q * 3, none⟩ = some (.string ⟨wq.text.toArray⟩) := HRow.out wr (fun _ _ _ h => h) 0 _ rfl
        have k1 : wr.cell? ⟨b, q * 3 + 1, none⟩ = some (.bool wq.quoted) := HRow.out wr (fun _ _ _ h => h) 1 _ rfl
        have k2 : wr.cell? ⟨b, q * 3 + 2, none⟩ = some (.int .i64 (wq.col : Int)) := HRow.out wr (fun _ _ _ h => h) 2 _ rfl
        clear HQ hav hdr hqw hwq hcn
        cases hd : S.isDef wq with
        | true =>
          rw [hd] at H61
          go_wp2_with (go_at_call 61; refine (H61.out _).mono ?_; rintro e y1 ⟨rfl, hb1⟩; have p0 : y1.cell? ⟨b, q * 3, none⟩ = some (.string ⟨wq.text.toArray⟩) := HRow.out y1 (.of_below hb1) 0 _ rfl; have p1 : y1.cell? ⟨b, q * 3 + 1, none⟩ = some (.bool wq.quoted) := HRow.out y1 (.of_below hb1) 1 _ rfl; have p2 : y1.cell? ⟨b, q * 3 + 2, none⟩ = some (.int .i64 (wq.col : Int)) := HRow.out y1 (.of_below hb1) 2 _ rfl)
          clear p0 p1 p2 k0 k1 k2 H61
          have HYP := hid (HPQ.out.on hb1)
          have HYK : Hid (KT 154 wr y1) := hid (.of_below hb1)
          clear hb1 HPQ
          refine (define_any W y1 g gm base line _ fs vw' vl' vf' HYP.out (by show L.length ≤ 1000000; omega) wq HTX.out).mono ?_
          intro e y2 hD
          unfold DefPost at hD
          have hS := HSP.out
          simp only [S.lay, hd, if_true] at hS
          clear HSP hd
          by_cases hn : T.name (Lib.trimSuffix wq.text [58]) = true
          · rw [if_pos hn] at hD hS
            cases hh : S.has L (Lib.trimSuffix wq.text [58]) with
            | true =>
              simp only [hh, if_true] at hD hS
              obtain ⟨rfl, hb2⟩ := hD
              have HS : Hid (_ = r) := hS
              clear hS
              simp only [bk]
              go_wp2_with fail
              go_ret
              rw [← HS.out]
              exact ⟨rfl, hb2⟩
            | false =>
              simp only [hh, Bool.false_eq_true, if_false] at hD hS
              obtain ⟨rfl, hk2, vw2, vl2, vf2, hP2⟩ := hD
              have HS : Hid (_ = r) := hS
              have HP2 := hid hP2
              have HK2 : Hid (KT 154 wr y2) := hid (KT.trans HYK.out hk2)
              clear hS hP2 hk2 HYP HYK
              go_wp2_with fail
              refine ⟨⟨q + 1, _, L ++ [(Lib.trimSuffix wq.text [58], st.ws.length)], vw2, vl2, vf2, by omega, by rw [show n - (q + 1) = m from by omega, show cv - (q + 1) = cq from by omega], hid ⟨fun h1 => ?_, HP2.out, by rw [List.length_append]; simp only [List.length_cons, List.length_nil]; omega, own_kt HOQ.out HK2.out, HS.out⟩⟩, by show m < m + 1; omega⟩
              obtain ⟨b', e1, e2⟩ := HSQ.out
              injection e1 with e1
              injection e1 with e1
              subst e1
              exact ⟨b, by rw [if_neg (by omega), show (q + 1) * 3 = q * 3 + 3 from by omega], e2⟩
          · rw [if_neg hn] at hD hS
            obtain ⟨rfl, hb2⟩ := hD
            have HS : Hid (_ = r) := hS
            clear hS
            simp only [bk]
            go_wp2_with fail
            go_ret
            rw [← HS.out]
            exact ⟨rfl, hb2⟩
        | false =>
          rw [hd] at H61
          go_wp2_with (go_at_call 61; refine (H61.out _).mono ?_; rintro e y1 ⟨rfl, hb1⟩; have p0 : y1.cell? ⟨b, q * 3, none⟩ = some (.string ⟨wq.text.toArray⟩) := HRow.out y1 (.of_below hb1) 0 _ rfl; have p1 : y1.cell? ⟨b, q * 3 + 1, none⟩ = some (.bool wq.quoted) := HRow.out y1 (.of_below hb1) 1 _ rfl; have p2 : y1.cell? ⟨b, q * 3 + 2, none⟩ = some (.int .i64 (wq.col : Int)) := HRow.out y1 (.of_below hb1) 2 _ rfl)
          clear p0 p1 p2 k0 k1 k2 H61
          have HYP := hid (HPQ.out.on hb1)
          have HYK : Hid (KT 154 wr y1) := hid (.of_below hb1)
          have HTY : Hid (TM y1) := hid (HT.out.on HYP.out.below)
          have hby : b < y1.heap.size := Nat.lt_of_lt_of_le HBL.out hb1.size
          have HRw : Hid (∀ x, KT 154 y1 x → x.rangeAt b (q * 3) (wdC wq)) := hid (fun x hx j u hu => HRow.out x (KT.trans HYK.out hx) j u hu)
          have hS := HSP.out
          simp only [S.lay, hd, Bool.false_eq_true, if_false] at hS
          have HLD : Hid ((ws.drop (q + 1)).length = m) := hid (by rw [List.length_drop, HN.out]; omega)
          have H63 : Hid (∀ x, Below y1.heap.size y1 x → Calls Tryz.prog 63 #[.pointer (some ⟨g, 0, none⟩), wdV wq, .slice (if cq = 0 then some ⟨b, q * 3, none⟩ else some ⟨b, q * 3 + 3, none⟩) m cq] x fun y w' => StPost W x g gm base line r y w') := hid (fun x hx => by
            rw [← hS]
            refine layStatement_any W x HT.out g gm base line _ fs vw' vl' vf' (HYP.out.on hx) hlat wq HTX.out _ m cq (ws.drop (q + 1)) HLD.out (by omega) (fun w hw => Nat.le_trans (HOK.out.2 w (List.mem_of_mem_drop hw)) (by omega)) ?_
            by_cases hm0 : m = 0
            · exact .inl (List.eq_nil_of_length_eq_zero (by rw [HLD.out]; exact hm0))
            · rw [if_neg (by omega)]
              exact HWA.out x (KT.trans HYK.out (.of_below hx)) (Nat.lt_of_lt_of_le hby hx.size))
          obtain ⟨ao2, hao2⟩ : ∃ ao2, (if cq = 0 then some (⟨b, q * 3, none⟩ : Addr) else some ⟨b, q * 3 + 3, none⟩) = ao2 := ⟨_, rfl⟩
          rw [hao2] at H63
          have HA2 : Hid ((if cq = 0 then some (⟨b, q * 3, none⟩ : Addr) else some ⟨b, q * 3 + 3, none⟩) = ao2) := hao2
          clear hS HSP hd hb1 HWA hao2
          cases r with
          | inl f =>
            obtain ⟨fe, fc⟩ := f
            refine wp_region_held_drew (S := fun x => KT 154 y1 x) (by kernel_rfl) (fun _ _ _ h => h) (fun hHeld => ?_)
            refine tk 0 ⟨some 46, .move (.tmp 0), 68, "program.go:57", #[], none⟩ (.pointer (some ⟨g, 0, none⟩)) ?_
            simp only [Act.put, List.setIfInBounds_toArray, List.set_cons_zero, List.set_cons_succ]
            refine tk 1 ⟨some 47, .move (.tmp 5), 149, "program.go:57", #[], none⟩ (.slice (some ⟨b, q * 3, none⟩) (m + 1) (cq + 1)) ?_
            simp only [Act.put, List.setIfInBounds_toArray, List.set_cons_zero, List.set_cons_succ]
            refine tk 2 ⟨some 48, .indexAddr 149 (.tmp 47) (.const (.int .i64 0)), 0, "program.go:57", #[⟨1, .data⟩], none⟩ (.pointer (some ⟨b, q * 3, none⟩)) ?_
            simp only [Act.put, List.setIfInBounds_toArray, List.set_cons_zero, List.set_cons_succ]
            refine tk 3 ⟨some 49, .load 154 (.tmp 48), 154, "program.go:57", #[⟨2, .data⟩], none⟩ (wdV wq) ?_ (hy := yieldsIf_load_mid (by rfl) _ _ rfl _ _ rfl _ _ (fun w hSw => HRw.out w hSw) Tryz.underlying154 rfl size154)
            simp only [Act.put, List.setIfInBounds_toArray, List.set_cons_zero, List.set_cons_succ]
            refine tk 4 ⟨some 50, .move (.tmp 5), 149, "program.go:57", #[], none⟩ (.slice (some ⟨b, q * 3, none⟩) (m + 1) (cq + 1)) ?_
            simp only [Act.put, List.setIfInBounds_toArray, List.set_cons_zero, List.set_cons_succ]
            refine tk 5 ⟨some 51, .slice 149 (.tmp 50) (some (.const (.int .i64 1))) none none, 149, "program.go:57", #[⟨4, .data⟩], none⟩ (.slice ao2 m cq) ?_ (hy := Or.inl ⟨by rfl, by intro w hSw; have hc : ¬ ((m : Int) + 1 < 1) := (by omega); go_simp; rw [HA2.out, if_pos (by omega)]⟩)
            simp only [Act.put, List.setIfInBounds_toArray, List.set_cons_zero, List.set_cons_succ]
            refine wpAnyH_ready (rs := [6]) (by kernel_rfl) (by simp) (AllReadyH.cons (o := ⟨some 52, .call { callee := .value (.func 63), args := #[.tmp 46, .tmp 49, .tmp 51], argTypes := #[68, 154, 149] }, 70, "program.go:57", #[⟨0, .data⟩, ⟨3, .data⟩, ⟨5, .data⟩], none⟩) rfl (fun KQ hK => ?_) AllReadyH.nil)
            go_simp
            refine (H63.out _ (Below.refl _ _).drew).mono ?_
            rintro e y2 ⟨⟨rfl, hb2⟩, hk2⟩
            go_wp2_with fail
            refine hK.out _ _ hk2 (fun hHeld => ?_)
            clear hK KQ
            try simp only [Act.put, List.setIfInBounds_toArray, List.set_cons_zero, List.set_cons_succ]
            refine wpAnyH_ready (rs := [7]) (by kernel_rfl) (by simp) (AllReadyH.cons (o := ⟨some 4, .assign (.tmp 52), 70, "program.go:57", #[⟨6, .data⟩, ⟨6, .chain⟩, ⟨0, .phase⟩, ⟨1, .phase⟩, ⟨2, .phase⟩, ⟨3, .phase⟩, ⟨4, .phase⟩, ⟨5, .phase⟩, ⟨6, .phase⟩], none⟩) rfl (fun KQ hK => ?_) AllReadyH.nil)
            go_simp
            refine hK.out _ _ hk2 (fun hHeld => ?_)
            clear hK KQ
            try simp only [Act.put, List.setIfInBounds_toArray, List.set_cons_zero, List.set_cons_succ]
            refine wpAnyH_done (by kernel_rfl) ?_ _
            clear hHeld
            go_wp2_with fail
            go_ret
            exact ⟨rfl, hb2⟩
          | inr st2 =>
            refine wp_region_held_drew (S := fun x => KT 154 y1 x) (by kernel_rfl) (fun _ _ _ h => h) (fun hHeld => ?_)
            refine tk 0 ⟨some 46, .move (.tmp 0), 68, "program.go:57", #[], none⟩ (.pointer (some ⟨g, 0, none⟩)) ?_
            simp only [Act.put, List.setIfInBounds_toArray, List.set_cons_zero, List.set_cons_succ]
            refine tk 1 ⟨some 47, .move (.tmp 5), 149, "program.go:57", #[], none⟩ (.slice (some ⟨b, q * 3, none⟩) (m + 1) (cq + 1)) ?_
            simp only [Act.put, List.setIfInBounds_toArray, List.set_cons_zero, List.set_cons_succ]
            refine tk 2 ⟨some 48, .indexAddr 149 (.tmp 47) (.const (.int .i64 0)), 0, "program.go:57", #[⟨1, .data⟩], none⟩ (.pointer (some ⟨b, q * 3, none⟩)) ?_
            simp only [Act.put, List.setIfInBounds_toArray, List.set_cons_zero, List.set_cons_succ]
            refine tk 3 ⟨some 49, .load 154 (.tmp 48), 154, "program.go:57", #[⟨2, .data⟩], none⟩ (wdV wq) ?_ (hy := yieldsIf_load_mid (by rfl) _ _ rfl _ _ rfl _ _ (fun w hSw => HRw.out w hSw) Tryz.underlying154 rfl size154)
            simp only [Act.put, List.setIfInBounds_toArray, List.set_cons_zero, List.set_cons_succ]
            refine tk 4 ⟨some 50, .move (.tmp 5), 149, "program.go:57", #[], none⟩ (.slice (some ⟨b, q * 3, none⟩) (m + 1) (cq + 1)) ?_
            simp only [Act.put, List.setIfInBounds_toArray, List.set_cons_zero, List.set_cons_succ]
            refine tk 5 ⟨some 51, .slice 149 (.tmp 50) (some (.const (.int .i64 1))) none none, 149, "program.go:57", #[⟨4, .data⟩], none⟩ (.slice ao2 m cq) ?_ (hy := Or.inl ⟨by rfl, by intro w hSw; have hc : ¬ ((m : Int) + 1 < 1) := (by omega); go_simp; rw [HA2.out, if_pos (by omega)]⟩)
            simp only [Act.put, List.setIfInBounds_toArray, List.set_cons_zero, List.set_cons_succ]
            refine wpAnyH_ready (rs := [6]) (by kernel_rfl) (by simp) (AllReadyH.cons (o := ⟨some 52, .call { callee := .value (.func 63), args := #[.tmp 46, .tmp 49, .tmp 51], argTypes := #[68, 154, 149] }, 70, "program.go:57", #[⟨0, .data⟩, ⟨3, .data⟩, ⟨5, .data⟩], none⟩) rfl (fun KQ hK => ?_) AllReadyH.nil)
            go_simp
            refine (H63.out _ (Below.refl _ _).drew).mono ?_
            rintro e y2 ⟨⟨rfl, hP2⟩, hk2⟩
            go_wp2_with fail
            refine hK.out _ _ hk2 (fun hHeld => ?_)
            clear hK KQ
            try simp only [Act.put, List.setIfInBounds_toArray, List.set_cons_zero, List.set_cons_succ]
            refine wpAnyH_ready (rs := [7]) (by kernel_rfl) (by simp) (AllReadyH.cons (o := ⟨some 4, .assign (.tmp 52), 70, "program.go:57", #[⟨6, .data⟩, ⟨6, .chain⟩, ⟨0, .phase⟩, ⟨1, .phase⟩, ⟨2, .phase⟩, ⟨3, .phase⟩, ⟨4, .phase⟩, ⟨5, .phase⟩, ⟨6, .phase⟩], none⟩) rfl (fun KQ hK => ?_) AllReadyH.nil)
            go_simp
            refine hK.out _ _ hk2 (fun hHeld => ?_)
            clear hK KQ
            try simp only [Act.put, List.setIfInBounds_toArray, List.set_cons_zero, List.set_cons_succ]
            refine wpAnyH_done (by kernel_rfl) ?_ _
            clear hHeld
            go_wp2_with fail
            go_ret
            exact ⟨rfl, hP2⟩
      · have hqe : q = n := by omega
        subst hqe
        have hdn : ws.drop q = [] := List.drop_of_length_le (by rw [HN.out]; exact Nat.le_refl _)
        simp only [Nat.sub_self]
        go_wp2_with fail
        go_ret
        have := HQ.out.2.2.2.2
        rw [hdn] at this
        rw [← this]
        exact ⟨rfl, fs, _, _, _, HQ.out.2.1⟩
end Go.Proofs.YtncnogndopgknaaGreatDoor
namespace Go.Proofs.YtncnogndopgknaaGreatDoor
open Go.RowKit
namespace S
structure Lok (n : Nat) (t : Lt) : Prop where
  place : t.place < n
  kind : t.k.name ≠ zeroN
  lab : (t.ops.getD t.at' ⟨0, [], 0⟩).lab.length ≤ 1000000000
theorem Lok.mono {n m : Nat} {t : Lt} (h : Lok n t) (hm : n ≤ m) : Lok m t := ⟨Nat.lt_of_lt_of_le h.place hm, h.kind, h.lab⟩
theorem readOperand_lab {l : Nat} {w : T.Wd} {o : Opn} (h : readOperand l w = some o) : o.lab = [] ∨ o.lab = w.text := by
  unfold readOperand at h
  split at h
  · cases h
  · split at h
    · cases h; exact .inr rfl
    · cases hr : readNumber l w.text with
      | none => rw [hr] at h; cases h
      | some v => rw [hr] at h; cases h; exact .inl rfl
theorem rdOps_lab {nc : Nat} : ∀ {L : List Nat} {rs : List T.Wd} {os : List Opn}, rdOps nc L rs = .inr os → ∀ o ∈ os, o.lab = [] ∨ ∃ w ∈ rs, o.lab = w.text
  | [], [], _, h, o, ho => by cases h; cases ho
  | [], _ :: _, _, h, _, _ => by cases h
  | _ :: _, [], _, h, _, _ => by cases h
  | l :: ls, w :: ws, os, h, o, ho => by
    unfold rdOps at h
    cases hr : readOperand l w with
    | none => rw [hr] at h; cases h
    | some x =>
      rw [hr] at h
      cases hq : rdOps nc ls ws with
      | inl f => rw [hq] at h; cases h
      | inr os' =>
        rw [hq] at h
        cases h
        rcases List.mem_cons.1 ho with rfl | ho
        · exact (readOperand_lab hr).imp id fun e => ⟨w, by simp, e⟩
        · exact (rdOps_lab hq o ho).imp id fun ⟨w', hw, e⟩ => ⟨w', by simp [hw], e⟩
theorem words_pos {k : Kd} {os : List Opn} (h : k.name ≠ zeroN) : 0 < (words k os).length := by
  unfold words
  split
  · exact Nat.zero_lt_succ _
  · split
    · exact Nat.zero_lt_succ _
    · exact Nat.zero_lt_succ _
theorem stmt_lok {line : Nat} {st st' : St} {name : T.Wd} {rest : List T.Wd} (h : stmt line st name rest = .inr st') (hw : ∀ w ∈ rest, w.text.length ≤ 1000000000) (hl : ∀ t ∈ st.lat, Lok st.ws.length t) : (∀ t ∈ st'.lat, Lok st'.ws.length t) ∧ st'.lat.length ≤ st.lat.length + 3 ∧ st'.labs = st.labs := by
  unfold stmt at h
  cases hk : kindOf name.text with
  | none => rw [hk] at h; cases h
  | some k =>
    rw [hk] at h
    simp only at h
    split at h
    · cases h
    · split at h
      · cases h
      · cases hr : rdOps name.col (k.shape.map (·.toNat)) rest with
        | inl f => rw [hr] at h; cases h
        | inr os =>
          rw [hr] at h
          simp only at h
          split at h
          · cases h
          · cases h
            have hko := kindOf_ok hk
            have hos := rdOps_ok hr
            have h3 := (shape6 hko).1
            refine ⟨fun t ht => ?_, ?_, rfl⟩
            · rcases List.mem_append.1 ht with ht | ht
              · exact (hl t ht).mono (by show st.ws.length ≤ (st.ws ++ words k os).length; simp)
              · unfold lats at ht
                obtain ⟨i, hi, rfl⟩ := List.mem_map.1 ht
                obtain ⟨hi1, hi2⟩ := List.mem_filter.1 hi
                have hio : i < os.length := List.mem_range.1 hi1
                have hi3 : (os.getD i ⟨0, [], 0⟩).lab ≠ [] := by simpa using hi2
                have hgd : os.getD i ⟨0, [], 0⟩ = os[i] := by rw [List.getD_eq_getElem?_getD, List.getElem?_eq_getElem hio, Option.getD_some]
                rw [hgd] at hi3
                have hnz : k.name ≠ zeroN := by
                  intro hz'
                  have hsh : k.shape = [110] := by
                    rcases hko.four with ⟨a, b⟩ | ⟨a, b⟩ | ⟨a, b⟩ | ⟨_, _, a, b⟩
                    · rw [a] at hz'; exact absurd hz' (by decide)
                    · rw [a] at hz'; exact absurd hz' (by decide)
                    · exact b
                    · exact absurd hz' a
                  have hLi : i < (k.shape.map (·.toNat)).length := by rw [← hos.1]; exact hio
                  have := (hos.2 i hio hLi).2.2 hi3
                  have h110 : (k.shape.map (·.toNat))[i] = 110 := by
                    have : ∀ x ∈ k.shape.map (·.toNat), x = 110 := by rw [hsh]; simp
                    exact this _ (List.getElem_mem _)
                  omega
                refine ⟨?_, hnz, ?_⟩
                · show st.ws.length < (st.ws ++ words k os).length
                  have := words_pos hnz (os := os)
                  rw [List.length_append]; omega
                · show (os.getD i ⟨0, [], 0⟩).lab.length ≤ _
                  rw [hgd]
                  rcases rdOps_lab hr os[i] (List.getElem_mem _) with e | ⟨w, hwm, e⟩
                  · rw [e]; simp
                  · rw [e]; exact hw w hwm
            · show (st.lat ++ lats k os st.ws.length line).length ≤ _
              rw [List.length_append]
              have : (lats k os st.ws.length line).length ≤ os.length := by
                unfold lats
                rw [List.length_map]
                exact Nat.le_trans (List.length_filter_le _ _) (by simp)
              have := hos.1
              simp only [List.length_map] at this
              omega
theorem lay_lok {line : Nat} : ∀ {ws : List T.Wd} {st st' : St}, lay line st ws = .inr st' → (∀ w ∈ ws, w.text.length ≤ 1000000000) → (∀ t ∈ st.lat, Lok st.ws.length t) → (∀ t ∈ st'.lat, Lok st'.ws.length t) ∧ st'.lat.length ≤ st.lat.length + 3 ∧ st'.labs.length ≤ st.labs.length + ws.length
  | [], st, st', h, _, hl => by cases h; exact ⟨hl, by omega, by simp⟩
  | w :: ws, st, st', h, hw, hl => by
    unfold lay at h
    split at h
    · split at h
      · split at h
        · cases h
        · have := lay_lok h (fun v hv => hw v (by simp [hv])) hl
          refine ⟨this.1, this.2.1, ?_⟩
          have h2 := this.2.2
          simp only [List.length_append, List.length_cons, List.length_nil] at h2 ⊢
          omega
      · cases h
    · have := stmt_lok h (fun v hv => hw v (by simp [hv])) hl
      exact ⟨this.1, this.2.1, by rw [this.2.2]; omega⟩
theorem over_len {ws xs : List Nat} {p : Nat} (h : p ≤ ws.length) : (over ws p xs).length = ws.length := by
  unfold over
  simp only [List.length_append, List.length_take, List.length_drop]
  omega
end S
end Go.Proofs.YtncnogndopgknaaGreatDoor
namespace Go.Proofs.YtncnogndopgknaaGreatDoor
open Go.RowKit
structure PF (W w : World) (g gm base line : Nat) (ws : List Nat) (labs : List (List UInt8 × Nat)) (lat : List S.Lt) (fs : List Fc) (i : Nat) (vw vl vf : Value) : Prop where
  below : Below W.heap.size W w
  hg : W.heap.size ≤ g
  hm : W.heap.size ≤ gm
  cel : Cel w g 77 (psC base line vw vl gm vf)
  wr : w.ownsRow W.heap.size 22 1 vw ws.length (u32s ws)
  lb : w.ownsRow W.heap.size 43 2 vl labs.length (labsC labs)
  lt : w.ownsRow W.heap.size 111 1 vf lat.length (fs.map fcV)
  map : MapIs w gm labs
  len : fs.length = lat.length
  clos : ∀ j, i ≤ j → ∀ (h : j < lat.length) (h' : j < fs.length), ClosAt w g fs[j] lat[j]
  nodup : (fs.map (·.gO)).Nodup
  rows : ∀ d ∈ fs, W.heap.size ≤ d.gO
  room : ws.length ≤ 2048
  places : ∀ x ∈ labs, x.2 ≤ 2048
theorem PS.fin {W w : World} {g gm base line : Nat} {st : S.St} {fs : List Fc} {vw vl vf : Value} (h : PS W w g gm base line st fs vw vl vf) : PF W w g gm base line st.ws st.labs st.lat fs 0 vw vl vf :=
  ⟨h.below, h.hg, h.hm, h.cel, h.ws, h.lb, h.lt, h.map, h.len, fun j _ a b => h.clos j a b, h.nodup, h.rows, h.room, h.places⟩
theorem PF.on {W w w' : World} {g gm base line i : Nat} {ws : List Nat} {labs : List (List UInt8 × Nat)} {lat : List S.Lt} {fs : List Fc} {vw vl vf : Value} (h : PF W w g gm base line ws labs lat fs i vw vl vf) (hb : Below w.heap.size w w') : PF W w' g gm base line ws labs lat fs i vw vl vf :=
  ⟨below_on h.below hb, h.hg, h.hm, h.cel.on hb, own_below h.wr hb, own_below h.lb hb, own_below h.lt hb, map_on h.map hb, h.len, fun j hj a b => (h.clos j hj a b).kt (.of_below hb) (.of_below hb) (.of_below hb) (.of_below hb) (.of_below hb), h.nodup, h.rows, h.room, h.places⟩
theorem opsC_set : ∀ (os : List S.Opn) (q : Nat) (h : q < os.length) (v : Nat), (opsC os).set (q * 3) (.int .u32 (v : Int)) = opsC (os.set q { os[q] with val := v })
  | o :: os, 0, _, v => by
    show (opC o ++ opsC os).set (0 * 3) _ = opC _ ++ opsC os
    rw [Nat.zero_mul]
    rfl
  | o :: os, q + 1, h, v => by
    show (opC o ++ opsC os).set ((q + 1) * 3) _ = opC o ++ opsC (os.set q _)
    rw [List.set_append_right _ _ (by simp [opC]; omega)]
    have e : (q + 1) * 3 - (opC o).length = q * 3 := by simp [opC]; omega
    rw [e, opsC_set os q (by simpa using h) v]
    rfl
def RowAt (w : World) (g : Nat) (os : List S.Opn) : Prop := ∃ cur, w.heap[g]? = some (.cells cur 197 (0, 0)) ∧ cur.toList.take (os.length * 3) = opsC os
theorem RowAt.cell {w : World} {g : Nat} {os : List S.Opn} (h : RowAt w g os) (q r : Nat) (hq : q < os.length) (hr : r < 3) : w.cell? ⟨g, q * 3 + r, none⟩ = (opC os[q])[r]? := by
  obtain ⟨cur, h1, h2⟩ := h
  have hc : Cel w g 197 cur.toList := by unfold Cel; rw [h1]
  rw [hc.cell, ← opsC_get os q r hq hr, ← h2, List.getElem?_take_of_lt (by omega)]
theorem RowAt.at {w : World} {g : Nat} {os : List S.Opn} (h : RowAt w g os) : OpsAt w (some ⟨g, 0, none⟩) os := by
  refine .inr ⟨g, 0, rfl, ?_, fun i hi j u hu => ?_⟩
  · obtain ⟨cur, h1, _⟩ := h
    exact (Array.getElem?_eq_some_iff.1 h1).1
  · have hj : j < 3 := by
      rcases Nat.lt_or_ge j 3 with h | h
      · exact h
      · rw [List.getElem?_eq_none (by simp [opC]; omega)] at hu; cases hu
    rw [Nat.zero_add, h.cell i j hi hj, hu]
theorem RowAt.free {w : World} {g : Nat} {os : List S.Opn} (h : RowAt w g os) (j : Nat) : w.frozen? ⟨g, j, none⟩ = false := by
  obtain ⟨cur, h1, _⟩ := h
  have hc : Cel w g 197 cur.toList := by unfold Cel; rw [h1]
  exact hc.free j
theorem RowAt.kt {w w' : World} {g : Nat} {os : List S.Opn} (h : RowAt w g os) (k : KT 197 w w') : RowAt w' g os := by
  obtain ⟨cur, h1, h2⟩ := h
  exact ⟨cur, k _ _ _ h1, h2⟩
theorem PF.val {W w : World} {g gm base line i : Nat} {ws : List Nat} {labs : List (List UInt8 × Nat)} {lat : List S.Lt} {fs : List Fc} {vw vl vf : Value} (h : PF W w g gm base line ws labs lat fs i vw vl vf) (hi : i < fs.length) (os : List S.Opn) (hr : RowAt w fs[i].gO os) (q : Nat) (hq : q < os.length) (v : Nat) :
    PF W (w.setCell ⟨fs[i].gO, q * 3, none⟩ (.int .u32 (v : Int))) g gm base line ws labs lat fs (i + 1) vw vl vf ∧ RowAt (w.setCell ⟨fs[i].gO, q * 3, none⟩ (.int .u32 (v : Int))) fs[i].gO (os.set q { os[q] with val := v }) ∧ (∀ e, e ≠ 197 → KT e w (w.setCell ⟨fs[i].gO, q * 3, none⟩ (.int .u32 (v : Int)))) := by
  obtain ⟨cur, h1, h2⟩ := hr
  have hc : Cel w fs[i].gO 197 cur.toList := by unfold Cel; rw [h1]
  have kt : ∀ e, e ≠ 197 → KT e w (w.setCell ⟨fs[i].gO, q * 3, none⟩ (.int .u32 (v : Int))) := fun e he => KT.setCell hc he _ _
  refine ⟨⟨h.below.setCell (p := ⟨fs[i].gO, q * 3, none⟩) (h.rows _ (List.getElem_mem _)) _, h.hg, h.hm, h.cel.kt (kt _ (by decide)), own_kt h.wr (kt _ (by decide)), own_kt h.lb (kt _ (by decide)), own_kt h.lt (kt _ (by decide)), map_setCell h.map hc _ _, h.len, fun j hj a b => ?_, h.nodup, h.rows, h.room, h.places⟩, ?_, kt⟩
  · have ho := h.clos j (by omega) a b
    refine ⟨ho.c7.kt (kt _ (by decide)), ho.c8.kt (kt _ (by decide)), ho.c5.kt (kt _ (by decide)), ho.c11.kt (kt _ (by decide)), ho.c6.kt (kt _ (by decide)), ho.c9.kt (kt _ (by decide)), ?_, ho.at', ho.k, ho.os, ho.place⟩
    obtain ⟨cur', k1, k2⟩ := ho.row
    refine ⟨cur', ?_, k2⟩
    rw [heap_setCell_other w ⟨fs[i].gO, q * 3, none⟩ fs[j].gO _ (fun hh => ?_)]
    · exact k1
    · have hh' : fs[j].gO = fs[i].gO := hh
      have := (List.nodup_iff_pairwise_ne.1 h.nodup)
      rw [List.pairwise_iff_getElem] at this
      have := this i j (by simpa using hi) (by simpa using b) (by omega)
      simp only [List.getElem_map] at this
      exact this hh'.symm
  · refine ⟨(cur.toList.set (q * 3) (.int .u32 (v : Int))).toArray, hc.setCell _ _, ?_⟩
    rw [List.length_set, List.toList_toArray, List.take_set, h2, opsC_set os q hq v]
theorem KT.setRow {e t : TypeId} {w : World} {g : Nat} {cur : Array Value} {fr : Nat × Nat} (h : w.heap[g]? = some (.cells cur t fr)) (hne : e ≠ t) (cs : Array Value) : KT e w (w.setRow g cs) := fun i ds fr' hi => by
  rw [setRow_other w g i cs (fun hh => by
    subst hh
    rw [h] at hi
    injection hi with hi
    injection hi with h1 h2 h3
    exact hne h2.symm)]
  exact hi
theorem map_setRow {w : World} {g gm : Nat} {t : TypeId} {cur : Array Value} {fr : Nat × Nat} {labs : List (List UInt8 × Nat)} (hm : MapIs w gm labs) (h : w.heap[g]? = some (.cells cur t fr)) (cs : Array Value) : MapIs (w.setRow g cs) gm labs :=
  hm.block (setRow_other w g gm cs (fun hh => by
    subst hh
    obtain ⟨es, clock, h1⟩ := hm.isMap
    rw [h] at h1
    cases h1))
theorem u32s_take (l : List Nat) (n : Nat) : u32s (l.take n) = (u32s l).take n := by simp [u32s, List.map_take]
theorem u32s_drop (l : List Nat) (n : Nat) : u32s (l.drop n) = (u32s l).drop n := by simp [u32s, List.map_drop]
theorem over_row (L : List Value) (ws xs : List Nat) (p : Nat) (hp : p ≤ ws.length) (hL : L.take ws.length = u32s ws) (cs : List Value) (hcs : cs = u32s (xs.take (ws.length - p))) : (L.take p ++ cs ++ L.drop (p + cs.length)).take ws.length = u32s (S.over ws p xs) := by
  subst hcs
  have hlen : (u32s (xs.take (ws.length - p))).length = min (ws.length - p) xs.length := by simp [u32s]
  have hLl : ws.length ≤ L.length := by
    have := congrArg List.length hL
    simp [u32s] at this
    omega
  unfold S.over
  have eA : u32s (ws.take p) = L.take p := by rw [u32s_take, ← hL, List.take_take]; congr 1; omega
  have eD : u32s (ws.drop (p + xs.length)) = (L.take ws.length).drop (p + xs.length) := by rw [u32s_drop, hL]
  rw [u32s_append, u32s_append, eA, eD]
  rw [List.take_append, List.take_of_length_le (by simp [u32s]; omega)]
  congr 1
  rw [List.length_append, hlen, List.length_take]
  have e2 : min p L.length = p := by omega
  rw [e2]
  by_cases hx : xs.length ≤ ws.length - p
  · have e3 : min (ws.length - p) xs.length = xs.length := by omega
    rw [e3, List.drop_take]
  · have e3 : min (ws.length - p) xs.length = ws.length - p := by omega
    rw [e3]
    rw [show ws.length - (p + (ws.length - p)) = 0 from by omega, List.take_zero, List.drop_take, show ws.length - (p + xs.length) = 0 from by omega, List.take_zero]
theorem PF.put {W w : World} {g gm base line i : Nat} {ws : List Nat} {labs : List (List UInt8 × Nat)} {lat : List S.Lt} {fs : List Fc} {vw vl vf : Value} (h : PF W w g gm base line ws labs lat fs i vw vl vf) (p : Nat) (hp : p < ws.length) (xs : List Nat) (cs : List Value) (hcs : cs = u32s (xs.take (ws.length - p))) :
    ∃ gW c cur, vw = .slice (some ⟨gW, 0, none⟩) ws.length c ∧ ws.length ≤ c ∧ w.heap[gW]? = some (.cells cur 22 (0, 0)) ∧ p + cs.length ≤ cur.size ∧ PF W (w.setRow gW (cur.toList.take p ++ cs ++ cur.toList.drop (p + cs.length)).toArray) g gm base line (S.over ws p xs) labs lat fs i vw vl vf := by
  rcases h.wr.2 with ⟨_, h0⟩ | ⟨gW, c, cur, hv, hB, hW, hnc, hcm, hsz, htk⟩
  · omega
  have hl : cs.length = min (ws.length - p) xs.length := by rw [hcs]; simp [u32s]
  have kt : ∀ e, e ≠ 22 → KT e w (w.setRow gW (cur.toList.take p ++ cs ++ cur.toList.drop (p + cs.length)).toArray) := fun e he => KT.setRow hW he _
  have hov := S.over_len (xs := xs) (Nat.le_of_lt hp)
  rw [Nat.mul_one] at hsz
  rw [Nat.mul_one] at htk
  refine ⟨gW, c, cur, hv, hnc, hW, by omega, ⟨?_, h.hg, h.hm, h.cel.kt (kt _ (by decide)), ?_, own_kt h.lb (kt _ (by decide)), own_kt h.lt (kt _ (by decide)), map_setRow h.map hW _, h.len, fun j hj a b => (h.clos j hj a b).kt (kt _ (by decide)) (kt _ (by decide)) (kt _ (by decide)) (kt _ (by decide)) (kt _ (by decide)), h.nodup, h.rows, by rw [hov]; exact h.room, h.places⟩⟩
  · exact h.below.trans ⟨rfl, rfl, rfl, by simp [World.setRow], fun k hk => setRow_other w gW k _ (by omega)⟩
  · rw [hov]
    refine ⟨by rw [Nat.mul_one]; simp [u32s, hov], .inr ⟨gW, c, _, hv, hB, setRow_heap w gW cur _ 22 _ hW, hnc, hcm, ?_, ?_⟩⟩
    · simp only [List.size_toArray, List.length_append, List.length_take, List.length_drop, Array.length_toList]
      omega
    · rw [Nat.mul_one, List.toList_toArray]
      exact over_row cur.toList ws xs p (Nat.le_of_lt hp) htk cs hcs
end Go.Proofs.YtncnogndopgknaaGreatDoor
