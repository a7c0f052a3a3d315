/- asm's layLine (39). -/
import Derived.Test.YtncnogndopgknaaGreatDoorAsD
namespace Go.Proofs.YtncnogndopgknaaGreatDoor
open Go.RowKit
namespace S
def oneLine (line : Nat) (st : St) (s : List UInt8) : (Int × Nat) ⊕ St :=
  match T.rd s 0 with
  | .inl x => .inl (40, x + 1)
  | .inr ws => lay line st ws
end S
def LayPost (W : World) (g gm base line : Nat) (r : (Int × Nat) ⊕ S.St) (x : Ending) (w' : World) : Prop :=
  match r with
  | .inl f => x = .returned (bk f.1 line f.2) ∧ Below W.heap.size W w'
  | .inr st' => x = .returned .nilIface ∧ ∃ fs vw vl vf, PS W w' g gm base line st' fs vw vl vf
/-- The words that a line has, and how long they are. -/
def wdsOk (m : Nat) : Nat ⊕ List T.Wd → Prop
  | .inl _ => True
  | .inr ws => ws.length ≤ m ∧ ∀ w ∈ ws, w.text.length ≤ m
theorem wds_cons {m k : Nat} {w : T.Wd} {r : Nat ⊕ List T.Wd} (h : wdsOk k r) (hw : w.text.length ≤ m) (hk : k + 1 ≤ m) : wdsOk m (T.cons w r) := by
  cases r with
  | inl x => exact trivial
  | inr ws =>
    refine ⟨by have := h.1; show ws.length + 1 ≤ m; omega, fun v hv => ?_⟩
    rcases List.mem_cons.1 hv with rfl | hv
    · exact hw
    · exact Nat.le_trans (h.2 v hv) (by omega)
theorem wds_mono {m k : Nat} {r : Nat ⊕ List T.Wd} (h : wdsOk k r) (hk : k ≤ m) : wdsOk m r := by
  cases r with
  | inl x => exact trivial
  | inr ws => exact ⟨Nat.le_trans h.1 hk, fun v hv => Nat.le_trans (h.2 v hv) hk⟩
theorem rdw_ok (l : List UInt8) (p : Nat) : wdsOk l.length (T.rd l p) := by
  induction h : l.length using Nat.strongRecOn generalizing l p with
  | _ n ih =>
    subst h
    cases l with
    | nil => rw [T.rd_nil]; exact ⟨Nat.le_refl _, fun _ h => by cases h⟩
    | cons c t =>
      cases hg : T.isGap c with
      | true =>
        rw [T.rd_gap t p hg]
        exact wds_mono (ih t.length (by simp) t (p + 1) rfl) (by simp)
      | false =>
        by_cases h35 : c.toNat = 35
        · rw [T.rd_hash t p hg h35]; exact ⟨Nat.zero_le _, fun _ h => by cases h⟩
        · by_cases h34 : c.toNat = 34
          · have hu := T.unq_le t
            cases hq : T.unq t with
            | inl x => rw [T.rd_bad t p x hg h34 hq]; trivial
            | inr y =>
              obtain ⟨b, m⟩ := y
              rw [hq] at hu
              have hu1 : m ≤ t.length := hu.1
              cases hp : T.parted (t.drop m) with
              | false => rw [T.rd_joined t b p m hg h34 hq hp]; trivial
              | true =>
                rw [T.rd_quoted t b p m hg h34 hq hp]
                refine wds_cons (ih (t.drop m).length (by simp; omega) (t.drop m) (p + 1 + m) rfl) ?_ (by simp)
                show b.length ≤ (c :: t).length
                have hu2 : b.length < m := hu.2
                simp only [List.length_cons]; omega
          · rw [T.rd_plain t p hg h35 h34]
            have h1 := T.plainN_pos t hg
            have h2 := T.plainN_le (c :: t)
            refine wds_cons (ih ((c :: t).drop (T.plainN (c :: t))).length (by simp; omega) ((c :: t).drop (T.plainN (c :: t))) (p + T.plainN (c :: t)) rfl) ?_ (by simp; omega)
            show ((c :: t).take (T.plainN (c :: t))).length ≤ _
            rw [List.length_take]; omega
theorem wdsC_get : ∀ (os : List T.Wd) (q r : Nat) (h : q < os.length), r < 3 → (wdsC os)[q * 3 + r]? = (wdC os[q])[r]?
  | o :: os, 0, r, _, hr => by
    show (wdC o ++ wdsC os)[0 * 3 + r]? = _
    rw [Nat.zero_mul, Nat.zero_add, List.getElem?_append_left (by simp [wdC]; omega)]
    rfl
  | o :: os, q + 1, r, h, hr => by
    show (wdC o ++ wdsC os)[(q + 1) * 3 + r]? = _
    rw [List.getElem?_append_right (by simp [wdC]; omega)]
    have e : (q + 1) * 3 + r - (wdC o).length = q * 3 + r := by simp [wdC]; omega
    rw [e, wdsC_get os q r (by simpa using h) hr]
    rfl
set_option maxRecDepth 40000 in
set_option maxHeartbeats 4000000 in
theorem layLine_any (W V : World) (hT : TM W) (g gm base line : Nat) (st : S.St) (fs : List Fc) (vw vl vf : Value) (h : PS W V g gm base line st fs vw vl vf) (hlat : st.lat.length ≤ 900000) (s : List UInt8) (hs : s.length ≤ 65536) (hlab : st.labs.length + s.length ≤ 1000000) :
    Calls Tryz.prog 39 #[.pointer (some ⟨g, 0, none⟩), .string ⟨s.toArray⟩] V fun x w' => LayPost W g gm base line (S.oneLine line st s) x w' := by
  have H60 := hid (fun x => words_any x ⟨s.toArray⟩ (by simp [ByteArray.size]; omega))
  have HOK := hid (rdw_ok s 0)
  have hrle := rd_le s 0
  have e0 : (⟨s.toArray⟩ : ByteArray).data.toList = s := rfl
  rw [e0] at H60
  have HP : Hid (PS W V g gm base line st fs vw vl vf) := h
  have HT : Hid (TM W) := hT
  clear h hT e0
  unfold S.oneLine
  cases hr : T.rd s 0 with
  | inl x =>
    rw [hr] at H60 hrle
    have hx : x ≤ 65536 := Nat.le_trans hrle (by omega)
    have hx1 : (x : Int) ≤ 65536 := by omega
    clear hr HOK hrle
    go_enter Tryz.func39, Tryz.ntmps39
    go_wp2_with fail
    refine (H60.out V).mono ?_
    rintro e w1 ⟨rfl, hb⟩
    have hgl : w1.cell? ⟨g, 1, none⟩ = some (.int .i64 (line : Int)) := (HP.out.cel.on hb).cell 1
    go_wp2_with fail
    refine (faultAt_any _ 40 (line : Int) ((x : Int) + 1)).mono ?_
    rintro e y1 ⟨rfl, rfl⟩
    go_wp2_with fail
    go_ret
    exact ⟨rfl, HP.out.below.trans (hb.mono HP.out.below.size)⟩
  | inr ws =>
    rw [hr] at H60 HOK
    clear hr hrle
    obtain ⟨r, hr⟩ : ∃ r, S.lay line st ws = r := ⟨_, rfl⟩
    have HR : Hid (S.lay line st ws = r) := hr
    simp only [hr]
    clear hr
    go_enter Tryz.func39, Tryz.ntmps39
    go_wp2_with fail
    refine (H60.out V).mono ?_
    rintro e w1 ⟨v, rfl, hW⟩
    obtain ⟨av, cv, rfl⟩ := own_form hW.own
    have HP1 : Hid (PS W w1 g gm base line st fs vw vl vf) := hid (HP.out.on hW.below)
    obtain ⟨n, hn⟩ : ∃ n, ws.length = n := ⟨_, rfl⟩
    have HN : Hid (ws.length = n) := hn
    rw [hn] at hW ⊢
    have HW1 : Hid (w1.ownsRow V.heap.size 154 3 (.slice av n cv) n (wdsC ws)) := hid (by have := hW.own; rw [hn] at this; exact this)
    have hnl : n ≤ s.length := by rw [← hn]; exact HOK.out.1
    have n1 : (n : Int) ≤ 65536 := by omega
    clear hW H60 hn HP
    go_wp2_with fail
    go_loopw [5] (fun v wr => ∃ (q : Nat) (aq : Option Addr) (L : List (List UInt8 × Nat)) (vw' vl' vf' : Value), q ≤ n ∧ v = .slice aq (n - q) (cv - q) ∧ Hid ((q < n → ∃ b, aq = some ⟨b, q * 3, none⟩ ∧ av = some ⟨b, 0, none⟩) ∧ PS W wr g gm base line { ws := st.ws, labs := L, lat := st.lat } fs vw' vl' vf' ∧ L.length ≤ st.labs.length + q ∧ wr.ownsRow V.heap.size 154 3 (.slice av n cv) n (wdsC ws) ∧ S.lay line { ws := st.ws, labs := L, lat := st.lat } (ws.drop q) = r)) (fun v _ => match v with | .slice _ k _ => k | _ => 0)
    case atStart =>
      refine ⟨0, av, st.labs, vw, vl, vf, Nat.zero_le _, rfl, hid ⟨fun h0 => ?_, HP1.out, Nat.le_refl _, HW1.out, HR.out⟩⟩
      rcases HW1.out.2 with ⟨_, h1⟩ | ⟨g', cap, cur, h1, _⟩
      · omega
      · injection h1 with h1
        exact ⟨g', by rw [Nat.zero_mul]; exact h1, h1⟩
    case round =>
      obtain ⟨q, aq, L, vw', vl', vf', hq, rfl, HQ⟩ := hrel
      by_cases hlt : q < n
      · obtain ⟨b, rfl, hav⟩ := HQ.out.1 hlt
        have hqw : q < ws.length := by rw [HN.out]; exact hlt
        have hdr : ws.drop q = ws[q] :: ws.drop (q + 1) := List.drop_eq_getElem_cons hqw
        have hcn : n ≤ cv := by
          rcases HQ.out.2.2.2.1.2 with ⟨h1, _⟩ | ⟨g', cap, cur, h1, h2, h3, h4, h5, h6, h7⟩
          · rw [hav] at h1; cases h1
          · injection h1 with _ _ h1; omega
        have HRow : Hid (∀ x, KT 154 wr x → ∀ j u, (wdC ws[q])[j]? = some u → x.cell? ⟨b, q * 3 + j, none⟩ = some u) := hid (fun x hx j u hu => by
          have hj : j < 3 := by
            rcases Nat.lt_or_ge j 3 with h | h
            · exact h
            · rw [List.getElem?_eq_none (by simp [wdC]; omega)] at hu; cases hu
          have := (own_kt HQ.out.2.2.2.1 hx).cells (g := b) (by rw [hav]; rfl) (q * 3 + j) u (by rw [wdsC_get ws q j hqw hj]; exact hu)
          rw [Addr.add_mid, Nat.zero_add] at this
          exact this)
        have HWA : Hid (∀ x, KT 154 wr x → b < x.heap.size → WdAt x (some ⟨b, q * 3 + 3, none⟩) (ws.drop (q + 1))) := hid (fun x hx hbx => .inr ⟨b, q * 3 + 3, rfl, hbx, fun i hi j u hu => by
          have hiw : q + 1 + i < ws.length := by rw [List.length_drop] at hi; omega
          have hj : j < 3 := by
            rcases Nat.lt_or_ge j 3 with h | h
            · exact h
            · rw [List.getElem?_eq_none (by simp [wdC]; omega)] at hu; cases hu
          rw [List.getElem_drop] at hu
          have := (own_kt HQ.out.2.2.2.1 hx).cells (g := b) (by rw [hav]; rfl) ((q + 1 + i) * 3 + j) u (by rw [wdsC_get ws (q + 1 + i) j hiw hj]; exact hu)
          rw [Addr.add_mid, Nat.zero_add, show (q + 1 + i) * 3 + j = q * 3 + 3 + i * 3 + j from by omega] at this
          exact this⟩)
        have HSP : Hid (S.lay line { ws := st.ws, labs := L, lat := st.lat } (ws[q] :: ws.drop (q + 1)) = r) := hid (by rw [← hdr]; exact HQ.out.2.2.2.2)
        have HTX : Hid (ws[q].text.length ≤ 1000000000) := hid (by have := HOK.out.2 _ (List.getElem_mem hqw); omega)
        have HBL : Hid (b < wr.heap.size) := hid (HQ.out.2.2.2.1.lt b (by rw [hav]; rfl)).2
        obtain ⟨m, hm⟩ : ∃ m, n - q = m + 1 := ⟨n - q - 1, by omega⟩
        obtain ⟨cq, hcq⟩ : ∃ cq, cv - q = cq + 1 := ⟨cv - q - 1, by omega⟩
        have hmc : m ≤ cq := by omega
        have m1 : (m : Int) ≤ 65536 := by omega
        have m2 : (m : Int) ≤ (cq : Int) := by omega
        rw [hm, hcq]
        obtain ⟨wq, hwq⟩ : ∃ wq, ws[q] = wq := ⟨_, rfl⟩
        rw [hwq] at HRow HSP HTX
        have H61 := hid (fun x => isDef_any x wq HTX.out)
        have HPQ := hid HQ.out.2.1
        have HOQ := hid HQ.out.2.2.2.1
        have hll := HQ.out.2.2.1
        have HSQ : Hid (∃ b', some (⟨b, q * 3, none⟩ : Addr) = some ⟨b', q * 3, none⟩ ∧ av = some ⟨b', 0, none⟩) := hid ⟨b, rfl, hav⟩
        have k0 : wr.cell? ⟨b, q * 3, none⟩ = some (.string ⟨wq.text.toArray⟩) := HRow.out wr (fun _ _ _ h => h) 0 _ rfl
        have k1 : wr.cell? ⟨b, q * 3 + 1, none⟩ = some (.bool wq.quoted) := HRow.out wr (fun _ _ _ h => h) 1 _ rfl
        have k2 : wr.cell? ⟨b, q * 3 + 2, none⟩ = some (.int .i64 (wq.col : Int)) := HRow.out wr (fun _ _ _ h => h) 2 _ rfl
        clear HQ hav hdr hqw hwq hcn
        cases hd : S.isDef wq with
        | true =>
          rw [hd] at H61
          go_wp2_with (go_at_call 61; refine (H61.out _).mono ?_; rintro e y1 ⟨rfl, hb1⟩; have p0 : y1.cell? ⟨b, q * 3, none⟩ = some (.string ⟨wq.text.toArray⟩) := HRow.out y1 (.of_below hb1) 0 _ rfl; have p1 : y1.cell? ⟨b, q * 3 + 1, none⟩ = some (.bool wq.quoted) := HRow.out y1 (.of_below hb1) 1 _ rfl; have p2 : y1.cell? ⟨b, q * 3 + 2, none⟩ = some (.int .i64 (wq.col : Int)) := HRow.out y1 (.of_below hb1) 2 _ rfl)
          clear p0 p1 p2 k0 k1 k2 H61
          have HYP := hid (HPQ.out.on hb1)
          have HYK : Hid (KT 154 wr y1) := hid (.of_below hb1)
          clear hb1 HPQ
          refine (define_any W y1 g gm base line _ fs vw' vl' vf' HYP.out (by show L.length ≤ 1000000; omega) wq HTX.out).mono ?_
          intro e y2 hD
          unfold DefPost at hD
          have hS := HSP.out
          simp only [S.lay, hd, if_true] at hS
          clear HSP hd
          by_cases hn : T.name (Lib.trimSuffix wq.text [58]) = true
          · rw [if_pos hn] at hD hS
            cases hh : S.has L (Lib.trimSuffix wq.text [58]) with
            | true =>
              simp only [hh, if_true] at hD hS
              obtain ⟨rfl, hb2⟩ := hD
              have HS : Hid (_ = r) := hS
              clear hS
              simp only [bk]
              go_wp2_with fail
              go_ret
              rw [← HS.out]
              exact ⟨rfl, hb2⟩
            | false =>
              simp only [hh, Bool.false_eq_true, if_false] at hD hS
              obtain ⟨rfl, hk2, vw2, vl2, vf2, hP2⟩ := hD
              have HS : Hid (_ = r) := hS
              have HP2 := hid hP2
              have HK2 : Hid (KT 154 wr y2) := hid (KT.trans HYK.out hk2)
              clear hS hP2 hk2 HYP HYK
              go_wp2_with fail
              refine ⟨⟨q + 1, _, L ++ [(Lib.trimSuffix wq.text [58], st.ws.length)], vw2, vl2, vf2, by omega, by rw [show n - (q + 1) = m from by omega, show cv - (q + 1) = cq from by omega], hid ⟨fun h1 => ?_, HP2.out, by rw [List.length_append]; simp only [List.length_cons, List.length_nil]; omega, own_kt HOQ.out HK2.out, HS.out⟩⟩, by show m < m + 1; omega⟩
              obtain ⟨b', e1, e2⟩ := HSQ.out
              injection e1 with e1
              injection e1 with e1
              subst e1
              exact ⟨b, by rw [if_neg (by omega), show (q + 1) * 3 = q * 3 + 3 from by omega], e2⟩
          · rw [if_neg hn] at hD hS
            obtain ⟨rfl, hb2⟩ := hD
            have HS : Hid (_ = r) := hS
            clear hS
            simp only [bk]
            go_wp2_with fail
            go_ret
            rw [← HS.out]
            exact ⟨rfl, hb2⟩
        | false =>
          rw [hd] at H61
          go_wp2_with (go_at_call 61; refine (H61.out _).mono ?_; rintro e y1 ⟨rfl, hb1⟩; have p0 : y1.cell? ⟨b, q * 3, none⟩ = some (.string ⟨wq.text.toArray⟩) := HRow.out y1 (.of_below hb1) 0 _ rfl; have p1 : y1.cell? ⟨b, q * 3 + 1, none⟩ = some (.bool wq.quoted) := HRow.out y1 (.of_below hb1) 1 _ rfl; have p2 : y1.cell? ⟨b, q * 3 + 2, none⟩ = some (.int .i64 (wq.col : Int)) := HRow.out y1 (.of_below hb1) 2 _ rfl)
          clear p0 p1 p2 k0 k1 k2 H61
          have HYP := hid (HPQ.out.on hb1)
          have HYK : Hid (KT 154 wr y1) := hid (.of_below hb1)
          have HTY : Hid (TM y1) := hid (HT.out.on HYP.out.below)
          have hby : b < y1.heap.size := Nat.lt_of_lt_of_le HBL.out hb1.size
          have HRw : Hid (∀ x, KT 154 y1 x → x.rangeAt b (q * 3) (wdC wq)) := hid (fun x hx j u hu => HRow.out x (KT.trans HYK.out hx) j u hu)
          have hS := HSP.out
          simp only [S.lay, hd, Bool.false_eq_true, if_false] at hS
          have HLD : Hid ((ws.drop (q + 1)).length = m) := hid (by rw [List.length_drop, HN.out]; omega)
          have H63 : Hid (∀ x, Below y1.heap.size y1 x → Calls Tryz.prog 63 #[.pointer (some ⟨g, 0, none⟩), wdV wq, .slice (if cq = 0 then some ⟨b, q * 3, none⟩ else some ⟨b, q * 3 + 3, none⟩) m cq] x fun y w' => StPost W x g gm base line r y w') := hid (fun x hx => by
            rw [← hS]
            refine layStatement_any W x HT.out g gm base line _ fs vw' vl' vf' (HYP.out.on hx) hlat wq HTX.out _ m cq (ws.drop (q + 1)) HLD.out (by omega) (fun w hw => Nat.le_trans (HOK.out.2 w (List.mem_of_mem_drop hw)) (by omega)) ?_
            by_cases hm0 : m = 0
            · exact .inl (List.eq_nil_of_length_eq_zero (by rw [HLD.out]; exact hm0))
            · rw [if_neg (by omega)]
              exact HWA.out x (KT.trans HYK.out (.of_below hx)) (Nat.lt_of_lt_of_le hby hx.size))
          obtain ⟨ao2, hao2⟩ : ∃ ao2, (if cq = 0 then some (⟨b, q * 3, none⟩ : Addr) else some ⟨b, q * 3 + 3, none⟩) = ao2 := ⟨_, rfl⟩
          rw [hao2] at H63
          have HA2 : Hid ((if cq = 0 then some (⟨b, q * 3, none⟩ : Addr) else some ⟨b, q * 3 + 3, none⟩) = ao2) := hao2
          clear hS HSP hd hb1 HWA hao2
          cases r with
          | inl f =>
            obtain ⟨fe, fc⟩ := f
            refine wp_region_held_drew (S := fun x => KT 154 y1 x) (by kernel_rfl) (fun _ _ _ h => h) (fun hHeld => ?_)
            refine wpAnyH_take (i := 0) (oi := { dst := some 46, op := Op.move (Operand.tmp 0), type := 68, pos := "program.go:57", after := #[], guard := none }) (v := .pointer (some ⟨g, 0, none⟩)) rfl (by kernel_rfl) (by kernel_rfl) (by kernel_rfl) (fun _ _ _ h => h) (Or.inl ⟨by rfl, by intro w hSw; go_simp⟩) (by assumption) ?_
            simp only [Act.put, List.setIfInBounds_toArray, List.set_cons_zero, List.set_cons_succ]
            refine wpAnyH_take (i := 1) (oi := { dst := some 47, op := Op.move (Operand.tmp 5), type := 149, pos := "program.go:57", after := #[], guard := none }) (v := .slice (some ⟨b, q * 3, none⟩) (m + 1) (cq + 1)) rfl (by kernel_rfl) (by kernel_rfl) (by kernel_rfl) (fun _ _ _ h => h) (Or.inl ⟨by rfl, by intro w hSw; go_simp⟩) (by assumption) ?_
            simp only [Act.put, List.setIfInBounds_toArray, List.set_cons_zero, List.set_cons_succ]
            refine wpAnyH_take (i := 2) (oi := { dst := some 48, op := Op.indexAddr 149 (Operand.tmp 47) (Operand.const (Value.int IntKind.i64 0)), type := 0, pos := "program.go:57", after := #[{ on := 1, ground := Ground.data }], guard := none }) (v := .pointer (some ⟨b, q * 3, none⟩)) rfl (by kernel_rfl) (by kernel_rfl) (by kernel_rfl) (fun _ _ _ h => h) (Or.inl ⟨by rfl, by intro w hSw; go_simp⟩) (by assumption) ?_
            simp only [Act.put, List.setIfInBounds_toArray, List.set_cons_zero, List.set_cons_succ]
            refine wpAnyH_take (i := 3) (oi := { dst := some 49, op := Op.load 154 (Operand.tmp 48), type := 154, pos := "program.go:57", after := #[{ on := 2, ground := Ground.data }], guard := none }) (v := wdV wq) rfl (by kernel_rfl) (by kernel_rfl) (by kernel_rfl) (fun _ _ _ h => h) (yieldsIf_load_mid (by rfl) _ _ rfl _ _ rfl _ _ (fun w hSw => HRw.out w hSw) Tryz.underlying154 rfl size154) (by assumption) ?_
            simp only [Act.put, List.setIfInBounds_toArray, List.set_cons_zero, List.set_cons_succ]
            refine wpAnyH_take (i := 4) (oi := { dst := some 50, op := Op.move (Operand.tmp 5), type := 149, pos := "program.go:57", after := #[], guard := none }) (v := .slice (some ⟨b, q * 3, none⟩) (m + 1) (cq + 1)) rfl (by kernel_rfl) (by kernel_rfl) (by kernel_rfl) (fun _ _ _ h => h) (Or.inl ⟨by rfl, by intro w hSw; go_simp⟩) (by assumption) ?_
            simp only [Act.put, List.setIfInBounds_toArray, List.set_cons_zero, List.set_cons_succ]
            refine wpAnyH_take (i := 5) (oi := { dst := some 51, op := Op.slice 149 (Operand.tmp 50) (some (Operand.const (Value.int IntKind.i64 1))) none none, type := 149, pos := "program.go:57", after := #[{ on := 4, ground := Ground.data }], guard := none }) (v := .slice ao2 m cq) rfl (by kernel_rfl) (by kernel_rfl) (by kernel_rfl) (fun _ _ _ h => h) (Or.inl ⟨by rfl, by intro w hSw; have hc : ¬ ((m : Int) + 1 < 1) := (by omega); go_simp; rw [HA2.out, if_pos (by omega)]⟩) (by assumption) ?_
            simp only [Act.put, List.setIfInBounds_toArray, List.set_cons_zero, List.set_cons_succ]
            refine wpAnyH_ready (rs := [6]) (by kernel_rfl) (by simp) (AllReadyH.cons (o := { dst := some 52, op := Op.call { callee := Callee.value (Operand.func 63), args := #[Operand.tmp 46, Operand.tmp 49, Operand.tmp 51], argTypes := #[68, 154, 149] }, type := 70, pos := "program.go:57", after := #[{ on := 0, ground := Ground.data }, { on := 3, ground := Ground.data }, { on := 5, ground := Ground.data }], guard := none }) rfl (fun KQ hK => ?_) AllReadyH.nil)
            go_simp
            refine (H63.out _ (Below.refl _ _).drew).mono ?_
            rintro e y2 ⟨⟨rfl, hb2⟩, hk2⟩
            go_wp2_with fail
            refine hK.out _ _ hk2 (fun hHeld => ?_)
            clear hK KQ
            try simp only [Act.put, List.setIfInBounds_toArray, List.set_cons_zero, List.set_cons_succ]
            refine wpAnyH_ready (rs := [7]) (by kernel_rfl) (by simp) (AllReadyH.cons (o := { dst := some 4, op := Op.assign (Operand.tmp 52), type := 70, pos := "program.go:57", after := #[{ on := 6, ground := Ground.data }, { on := 6, ground := Ground.chain }, { on := 0, ground := Ground.phase }, { on := 1, ground := Ground.phase }, { on := 2, ground := Ground.phase }, { on := 3, ground := Ground.phase }, { on := 4, ground := Ground.phase }, { on := 5, ground := Ground.phase }, { on := 6, ground := Ground.phase }], guard := none }) rfl (fun KQ hK => ?_) AllReadyH.nil)
            go_simp
            refine hK.out _ _ hk2 (fun hHeld => ?_)
            clear hK KQ
            try simp only [Act.put, List.setIfInBounds_toArray, List.set_cons_zero, List.set_cons_succ]
            refine wpAnyH_done (by kernel_rfl) ?_ _
            clear hHeld
            go_wp2_with fail
            go_ret
            exact ⟨rfl, hb2⟩
          | inr st2 =>
            refine wp_region_held_drew (S := fun x => KT 154 y1 x) (by kernel_rfl) (fun _ _ _ h => h) (fun hHeld => ?_)
            refine wpAnyH_take (i := 0) (oi := { dst := some 46, op := Op.move (Operand.tmp 0), type := 68, pos := "program.go:57", after := #[], guard := none }) (v := .pointer (some ⟨g, 0, none⟩)) rfl (by kernel_rfl) (by kernel_rfl) (by kernel_rfl) (fun _ _ _ h => h) (Or.inl ⟨by rfl, by intro w hSw; go_simp⟩) (by assumption) ?_
            simp only [Act.put, List.setIfInBounds_toArray, List.set_cons_zero, List.set_cons_succ]
            refine wpAnyH_take (i := 1) (oi := { dst := some 47, op := Op.move (Operand.tmp 5), type := 149, pos := "program.go:57", after := #[], guard := none }) (v := .slice (some ⟨b, q * 3, none⟩) (m + 1) (cq + 1)) rfl (by kernel_rfl) (by kernel_rfl) (by kernel_rfl) (fun _ _ _ h => h) (Or.inl ⟨by rfl, by intro w hSw; go_simp⟩) (by assumption) ?_
            simp only [Act.put, List.setIfInBounds_toArray, List.set_cons_zero, List.set_cons_succ]
            refine wpAnyH_take (i := 2) (oi := { dst := some 48, op := Op.indexAddr 149 (Operand.tmp 47) (Operand.const (Value.int IntKind.i64 0)), type := 0, pos := "program.go:57", after := #[{ on := 1, ground := Ground.data }], guard := none }) (v := .pointer (some ⟨b, q * 3, none⟩)) rfl (by kernel_rfl) (by kernel_rfl) (by kernel_rfl) (fun _ _ _ h => h) (Or.inl ⟨by rfl, by intro w hSw; go_simp⟩) (by assumption) ?_
            simp only [Act.put, List.setIfInBounds_toArray, List.set_cons_zero, List.set_cons_succ]
            refine wpAnyH_take (i := 3) (oi := { dst := some 49, op := Op.load 154 (Operand.tmp 48), type := 154, pos := "program.go:57", after := #[{ on := 2, ground := Ground.data }], guard := none }) (v := wdV wq) rfl (by kernel_rfl) (by kernel_rfl) (by kernel_rfl) (fun _ _ _ h => h) (yieldsIf_load_mid (by rfl) _ _ rfl _ _ rfl _ _ (fun w hSw => HRw.out w hSw) Tryz.underlying154 rfl size154) (by assumption) ?_
            simp only [Act.put, List.setIfInBounds_toArray, List.set_cons_zero, List.set_cons_succ]
            refine wpAnyH_take (i := 4) (oi := { dst := some 50, op := Op.move (Operand.tmp 5), type := 149, pos := "program.go:57", after := #[], guard := none }) (v := .slice (some ⟨b, q * 3, none⟩) (m + 1) (cq + 1)) rfl (by kernel_rfl) (by kernel_rfl) (by kernel_rfl) (fun _ _ _ h => h) (Or.inl ⟨by rfl, by intro w hSw; go_simp⟩) (by assumption) ?_
            simp only [Act.put, List.setIfInBounds_toArray, List.set_cons_zero, List.set_cons_succ]
            refine wpAnyH_take (i := 5) (oi := { dst := some 51, op := Op.slice 149 (Operand.tmp 50) (some (Operand.const (Value.int IntKind.i64 1))) none none, type := 149, pos := "program.go:57", after := #[{ on := 4, ground := Ground.data }], guard := none }) (v := .slice ao2 m cq) rfl (by kernel_rfl) (by kernel_rfl) (by kernel_rfl) (fun _ _ _ h => h) (Or.inl ⟨by rfl, by intro w hSw; have hc : ¬ ((m : Int) + 1 < 1) := (by omega); go_simp; rw [HA2.out, if_pos (by omega)]⟩) (by assumption) ?_
            simp only [Act.put, List.setIfInBounds_toArray, List.set_cons_zero, List.set_cons_succ]
            refine wpAnyH_ready (rs := [6]) (by kernel_rfl) (by simp) (AllReadyH.cons (o := { dst := some 52, op := Op.call { callee := Callee.value (Operand.func 63), args := #[Operand.tmp 46, Operand.tmp 49, Operand.tmp 51], argTypes := #[68, 154, 149] }, type := 70, pos := "program.go:57", after := #[{ on := 0, ground := Ground.data }, { on := 3, ground := Ground.data }, { on := 5, ground := Ground.data }], guard := none }) rfl (fun KQ hK => ?_) AllReadyH.nil)
            go_simp
            refine (H63.out _ (Below.refl _ _).drew).mono ?_
            rintro e y2 ⟨⟨rfl, hP2⟩, hk2⟩
            go_wp2_with fail
            refine hK.out _ _ hk2 (fun hHeld => ?_)
            clear hK KQ
            try simp only [Act.put, List.setIfInBounds_toArray, List.set_cons_zero, List.set_cons_succ]
            refine wpAnyH_ready (rs := [7]) (by kernel_rfl) (by simp) (AllReadyH.cons (o := { dst := some 4, op := Op.assign (Operand.tmp 52), type := 70, pos := "program.go:57", after := #[{ on := 6, ground := Ground.data }, { on := 6, ground := Ground.chain }, { on := 0, ground := Ground.phase }, { on := 1, ground := Ground.phase }, { on := 2, ground := Ground.phase }, { on := 3, ground := Ground.phase }, { on := 4, ground := Ground.phase }, { on := 5, ground := Ground.phase }, { on := 6, ground := Ground.phase }], guard := none }) rfl (fun KQ hK => ?_) AllReadyH.nil)
            go_simp
            refine hK.out _ _ hk2 (fun hHeld => ?_)
            clear hK KQ
            try simp only [Act.put, List.setIfInBounds_toArray, List.set_cons_zero, List.set_cons_succ]
            refine wpAnyH_done (by kernel_rfl) ?_ _
            clear hHeld
            go_wp2_with fail
            go_ret
            exact ⟨rfl, hP2⟩
      · have hqe : q = n := by omega
        subst hqe
        have hdn : ws.drop q = [] := List.drop_of_length_le (by rw [HN.out]; exact Nat.le_refl _)
        simp only [Nat.sub_self]
        go_wp2_with fail
        go_ret
        have := HQ.out.2.2.2.2
        rw [hdn] at this
        rw [← this]
        exact ⟨rfl, fs, _, _, _, HQ.out.2.1⟩
end Go.Proofs.YtncnogndopgknaaGreatDoor
