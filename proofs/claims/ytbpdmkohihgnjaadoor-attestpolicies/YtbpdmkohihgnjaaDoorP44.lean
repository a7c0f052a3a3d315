import Derived.Test.YtbpdmkohihgnjaaDoorP42
import Derived.Test.YtbpdmkohihgnjaaDoorP43
namespace Go.Proofs.YtbpdmkohihgnjaaDoor
open Go.RowKit
set_option maxHeartbeats 4000000
set_option maxRecDepth 100000
attribute [-simp] Tryd.isAgg42 Tryd.zeroValue42 Tryd.isAgg36 Tryd.zeroValue36
theorem law6_bad (W : World) (E : Nat → Addr) (hV : Vr W E) (ao : Option Addr) (n c : Nat) (ot : Bool) (R : List Rl) (hn : R.length = n) (hr : RulesAt W ao R) (ok : ∀ r ∈ R, r.Ok) (hmax : (n : Int) ≤ 9223372036854775807) (x : Int) (hbad : okP R = false) :
    Calls Tryd.prog 6 #[.agg (polC ao n c ot).toArray, .int .i64 x] W fun e W' => e = .returned (.bool true) ∧ Below W.heap.size W W' := by
  obtain ⟨X, hX⟩ : ∃ X, X = W.alloc (Obj.cells #[.slice ao n c, .bool ot] 36) := ⟨_, rfl⟩
  have Y0 : Hid (KD W ao n c ot R X) := hid (by rw [hX]; exact KD.start hr)
  have HF := hid (format_bad X E (hV.on Y0.out.bl).es ao n c ot R hn Y0.out.ru ok hmax hbad)
  have HS := hid (fun (w : World) (h : RulesAt w ao R) => stands_any w ao n c ot R hn h ok hmax)
  have HB := hid hbad
  have HNum := hid (fun w x => num_any w x)
  clear hr hV hbad ok hn
  unfold polC at HF HS ⊢
  go_enter Tryd.func6, Tryd.ntmps6
  go_upto_region 1 with fail
  rw [← hX]
  clear hX
  go_upto_region 2 with (first | (refine wpList_load_mid rfl 36 _ rfl W.heap.size 0 rfl [.slice ao n c, .bool ot] _ (kd_load Y0.out) Tryd.underlying36 rfl size36 ?_) | (go_at_call 19; refine HF.out.mono ?_; rintro e w1 ⟨rfl, hb⟩; have Y1 := hid (Y0.out.on hb); clear hb))
  clear HF Y0
  rw [HB.out] at HS
  go_wp2_with (first | (refine wpList_load_mid rfl 36 _ rfl W.heap.size 0 rfl [.slice ao n c, .bool ot] _ (kd_load Y1.out) Tryd.underlying36 rfl size36 ?_) | (go_at_call 20; refine (HS.out _ Y1.out.ru).mono ?_; rintro e w2 ⟨rfl, hb⟩; have Y2 := hid (Y1.out.on hb); clear hb) | (go_at_call 16; refine (HNum.out _ _).mono ?_; rintro e w3 ⟨rfl, hw⟩; subst w3))
  go_ret
  exact ⟨rfl, Y2.out.bl⟩
def selA (x : Int) (j : Nat) : Int := bits .and .i64 (wrap64 (x + (j : Int))) 3
theorem nz_step (sel : Nat → Int) (s Z I : ByteArray) (k m : Nat) (hk : k < s.size) (hm : (s.data.toList.take k).count 10 = m) (hZ : Z.data.toList = nzO sel 0 (s.data.toList.take k)) (hI : s[k] = 10 → I.data.toList = insB (sel (m + 1))) (hI2 : s[k] ≠ 10 → I.data.toList = []) :
    ((Z ++ I) ++ s.extract k (k + 1)).data.toList = nzO sel 0 (s.data.toList.take (k + 1)) := by
  have e : (s.extract k (k + 1)).data.toList = [s[k]] := by
    rw [ext_list, Nat.add_sub_cancel_left, List.drop_eq_getElem_cons (by rw [lenD]; exact hk)]
    rfl
  rw [L.take_snoc s k hk, nz_snoc, data_app, data_app, hZ, e, hm, Nat.zero_add]
  by_cases h : s[k] = 10
  · rw [hI h, if_pos h, h]
    simp
  · rw [hI2 h, if_neg h]
    simp
theorem cnt_yes (s : ByteArray) (k : Nat) (hk : k < s.size) (h : s[k] = 10) : (s.data.toList.take (k + 1)).count 10 = (s.data.toList.take k).count 10 + 1 := by
  rw [L.take_snoc s k hk, List.count_append, h]
  rfl
theorem cnt_not (s : ByteArray) (k : Nat) (hk : k < s.size) (h : s[k] ≠ 10) : (s.data.toList.take (k + 1)).count 10 = (s.data.toList.take k).count 10 := by
  rw [L.take_snoc s k hk, List.count_append, cnt_no (l := [s[k]]) (fun c hc => by rw [List.mem_singleton.1 hc]; exact h), Nat.add_zero]
theorem noI (s : ByteArray) : s ++ (⟨#[]⟩ : ByteArray) = s := bytes_ext (by rw [data_app]; simp)
theorem parse_good (W : World) (E : Nat → Addr) (hV : Vr W E) (s : ByteArray) (hs : s.size ≤ 65536) (R : List Rl) (ot : Bool) (hf : foldP z0 (L.T.lines s.data.toList) 0 = .inl ⟨R, ot, true⟩) :
    Calls Tryd.prog 21 #[.string s] W fun e W' => ∃ v, e = .returned (.tuple #[.agg #[v, .bool ot], .int .i64 0, .int .i64 0]) ∧ W'.ownsRow W.heap.size 42 10 v R.length (rcs R) ∧ Below W.heap.size W W' :=
  (parse_any21 W E hV s hs (fun st h => by rw [hf] at h; cases h; rfl)).mono fun e w h => by rw [hf] at h; exact h
theorem parse_bad (W : World) (E : Nat → Addr) (hV : Vr W E) (s : ByteArray) (hs : s.size ≤ 65536) (k : Nat) (hf : foldP z0 (L.T.lines s.data.toList) 0 = .inr k) :
    Calls Tryd.prog 21 #[.string s] W fun e W' => e = .returned (.tuple #[.agg #[.slice none 0 0, .bool false], .int .i64 (k : Int), .int .i64 161]) ∧ Below W.heap.size W W' :=
  (parse_any21 W E hV s hs (fun st h => by rw [hf] at h; cases h)).mono fun e w h => by rw [hf] at h; exact h
structure L6 (W : World) (ao : Option Addr) (n c : Nat) (ot : Bool) (R : List Rl) (g : Nat) (a2 : Option Addr) (c2 : Nat) (w : World) : Prop where
  k : KD W ao n c ot R w
  q : Cel w g 36 [.slice a2 n c2, .bool ot]
  r : RulesAt w a2 R
theorem L6.on {W : World} {ao : Option Addr} {n c : Nat} {ot : Bool} {R : List Rl} {g : Nat} {a2 : Option Addr} {c2 : Nat} {w w' : World} (h : L6 W ao n c ot R g a2 c2 w) (hb : Below w.heap.size w w') : L6 W ao n c ot R g a2 c2 w' := ⟨h.k.on hb, h.q.on hb, h.r.on hb⟩
theorem L6.made {W : World} {ao : Option Addr} {n c : Nat} {ot : Bool} {R : List Rl} {a2 : Option Addr} {c2 : Nat} {w w' : World} {ob : Obj} (hk : KD W ao n c ot R w) (hr : RulesAt w a2 R) (hc : Cel w' w.heap.size 36 [.slice a2 n c2, .bool ot]) (hb : But w.heap.size (w.alloc ob) w') : L6 W ao n c ot R w.heap.size a2 c2 w' := ⟨hk.on (but_box hb), hc, hr.on (but_box hb)⟩
def zpol : Obj := .cells #[.slice none 0 0, .bool false] 36
theorem law6_loop (W : World) (E : Nat → Addr) (hV : Vr W E) (hT : TabW W) (ao : Option Addr) (n c : Nat) (ot : Bool) (R : List Rl) (hn : R.length = n) (hr : RulesAt W ao R) (ok : ∀ r ∈ R, r.Ok) (x : Int) (hok : okP R = true) :
    Calls Tryd.prog 6 #[.agg (polC ao n c ot).toArray, .int .i64 x] W fun e W' => e = .returned (.bool true) ∧ Below W.heap.size W W' := by
  have hz36 : ∀ w, (zeroValue 36).run Tryd.prog w = .ok (.agg #[.slice none 0 0, .bool false]) w := fun w => by rw [Tryd.zeroValue36]
  obtain ⟨hn2, hgood⟩ := okP_good ok hok
  obtain ⟨X, hX⟩ : ∃ X, X = W.alloc (Obj.cells #[.slice ao n c, .bool ot] 36) := ⟨_, rfl⟩
  have Y0 : Hid (KD W ao n c ot R X) := hid (by rw [hX]; exact KD.start hr)
  have hsz := hV.es.sz
  have HF := hid (format_good X E (hV.on Y0.out.bl).es (hT.below Y0.out.bl (by omega)) ao n c ot R hn Y0.out.ru ok hok)
  have HS := hid (fun (w : World) (h : RulesAt w ao R) => stands_any w ao n c ot R hn h ok (by omega))
  have HNum := hid (fun w x => num_any w x)
  rw [hok] at HS
  have HVr := hid hV
  have HG := hid hgood
  have hlen := text_len hgood ot
  obtain ⟨s, hs⟩ : ∃ s : ByteArray, s = ⟨(textL (linesP R ot)).toArray⟩ := ⟨_, rfl⟩
  have hsd : s.data.toList = textL (linesP R ot) := by rw [hs]
  rw [← hs] at HF
  have HSD := hid hsd
  have hss : s.size ≤ 24588 := by rw [← lenD, hsd]; omega
  have HSS := hid hss
  clear hs hsd hlen hr hV hT ok hsz hgood hok
  have hn3 : n ≤ 256 := by omega
  have HN := hid hn
  clear hn2
  unfold polC at HF HS ⊢
  go_enter Tryd.func6, Tryd.ntmps6
  go_upto_region 1 with fail
  rw [← hX]
  clear hX
  go_upto_region 2 with (first | (refine wpList_load_mid rfl 36 _ rfl W.heap.size 0 rfl [.slice ao n c, .bool ot] _ (kd_load Y0.out) Tryd.underlying36 rfl size36 ?_) | (go_at_call 19; refine HF.out.mono ?_; rintro e w1 ⟨rfl, hb⟩; have Y1 := hid (Y0.out.on hb); clear hb))
  clear HF Y0
  go_upto_region 6 with (first | (refine wpList_load_mid rfl 36 _ rfl W.heap.size 0 rfl [.slice ao n c, .bool ot] _ (kd_load Y1.out) Tryd.underlying36 rfl size36 ?_) | (go_at_call 20; refine (HS.out _ Y1.out.ru).mono ?_; rintro e w2 ⟨rfl, hb⟩; have Y2 := hid (Y1.out.on hb); clear hb) | (go_at_call 16; refine (HNum.out _ _).mono ?_; rintro e w3 ⟨rfl, hw⟩; subst w3))
  clear Y1 HS
  go_wp2_with fail
  go_loopw [7, 8, 9] (fun nz ln i wr => ∃ (k : Nat) (Z : ByteArray), k ≤ s.size ∧ i = .int .i64 (k : Int) ∧ ln = .int .i64 (((s.data.toList.take k).count 10 : Nat) : Int) ∧ nz = .string Z ∧ Z.data.toList = nzO (selA x) 0 (s.data.toList.take k) ∧ wr = w2) (fun _ _ i _ => s.size - (intOf i).toNat)
  case atStart => exact ⟨0, ⟨#[]⟩, Nat.zero_le _, rfl, by simp, rfl, by simp [nzO], rfl⟩
  case round =>
    obtain ⟨k, Z, hk, rfl, rfl, rfl, hZ, rfl⟩ := hrel
    have HZ := hid hZ
    clear hZ
    by_cases hlt : k < s.size
    · have c1 : (k : Int) < (s.size : Int) := by omega
      have hst := fun m I hm hI hI2 => nz_step (selA x) s Z I k m hlt hm HZ.out hI hI2
      have hy := cnt_yes s k hlt
      have hno := cnt_not s k hlt
      have hZs : Z.size ≤ 368820 := by
        have h1 := nz_len (selA x) (s.data.toList.take k) 0
        rw [← HZ.out, lenD, List.length_take, lenD] at h1
        omega
      have hml : (s.data.toList.take k).count 10 ≤ 24588 := by
        have h1 := List.count_le_length (a := (10 : UInt8)) (l := s.data.toList.take k)
        rw [List.length_take, lenD] at h1
        omega
      generalize hm : (s.data.toList.take k).count 10 = m at *
      have c2 : (m : Int) ≤ 24588 := by omega
      have HN1 := hid (show k + 1 ≤ s.size by omega)
      have c3 : (s.size : Int) ≤ 24588 := by omega
      by_cases hc : s[k] = 10
      · have ic : ((s[k].toNat : Int) == 10) = true := by rw [hc]; rfl
        have HC : Hid ((s.data.toList.take (k + 1)).count 10 = m + 1) := hid (hy hc)
        have HSt : Hid (∀ I : ByteArray, I.data.toList = insB (selA x (m + 1)) → ((Z ++ I) ++ s.extract k (k + 1)).data.toList = nzO (selA x) 0 (s.data.toList.take (k + 1))) := hid fun I hI => hst m I rfl (fun _ => hI) (fun h => absurd hc h)
        have HQ : Hid (selA x (m + 1) = bits BinOp.and IntKind.i64 (wrap64 (x + ((m : Int) + 1))) 3) := hid (by unfold selA; rw [show ((m + 1 : Nat) : Int) = (m : Int) + 1 by omega])
        clear hst hy hno hm
        go_upto_region 14 with fail
        generalize bits BinOp.and IntKind.i64 (wrap64 (x + ((m : Int) + 1))) 3 = q at *
        rw [HQ.out] at HSt
        by_cases q0 : q = 0
        · subst q0
          go_wp2_with fail
          go_roundw
          case rel => exact ⟨k + 1, _, HN1.out, by go_num, by rw [HC.out]; go_num, rfl, HSt.out _ rfl, trivial⟩
          case measure => have := HN1.out; simp [intOf]; omega
        · by_cases q1 : q = 1
          · subst q1
            go_wp2_with fail
            go_roundw
            case rel => exact ⟨k + 1, _, HN1.out, by go_num, by rw [HC.out]; go_num, rfl, HSt.out _ rfl, trivial⟩
            case measure => have := HN1.out; simp [intOf]; omega
          · have p0 : (q == 0) = false := by simp [q0]
            have p1 : (q == 1) = false := by simp [q1]
            go_wp2_with fail
            go_roundw
            case rel => exact ⟨k + 1, _, HN1.out, by go_num, by rw [HC.out]; go_num, rfl, by have := HSt.out ⟨#[]⟩ (by unfold insB; rw [if_neg q0, if_neg q1]); rwa [noI] at this, trivial⟩
            case measure => have := HN1.out; simp [intOf]; omega
      · have ic : ((s[k].toNat : Int) == 10) = false := by
          rw [beq_eq_false_iff_ne]
          intro h
          apply hc
          apply UInt8.toNat_inj.1
          have : s[k].toNat = 10 := by omega
          rw [this]; rfl
        have HC : Hid ((s.data.toList.take (k + 1)).count 10 = m) := hid (hno hc)
        have HSt : Hid ((Z ++ s.extract k (k + 1)).data.toList = nzO (selA x) 0 (s.data.toList.take (k + 1))) := hid (by have := hst m ⟨#[]⟩ rfl (fun h => absurd h hc) (fun _ => rfl); rwa [noI] at this)
        clear hst hy hno hm
        go_wp2_with fail
        go_roundw
        case rel => exact ⟨k + 1, _, HN1.out, by go_num, by rw [HC.out], rfl, HSt.out, trivial⟩
        case measure => have := HN1.out; simp [intOf]; omega
    · obtain rfl : k = s.size := by omega
      have htk : s.data.toList.take s.size = s.data.toList := by rw [← lenD]; exact List.take_length
      rw [htk] at HZ ⊢
      have hno := lines_no HG.out ot
      have hcnt : s.data.toList.count 10 = n + 1 := by rw [HSD.out, cnt_text _ hno, lines_len, HN.out]
      rw [hcnt]
      have f1 : foldP z0 (L.T.lines s.data.toList) 0 = .inl ⟨R, ot, true⟩ := by rw [HSD.out, lines_text _ hno]; exact fold_plain HG.out ot (by omega)
      have HP1 := hid (fun (w : World) (hb : Below W.heap.size W w) => parse_good w E (HVr.out.on hb) s (by omega) R ot f1)
      have f3 : foldP z0 (L.T.lines (s ++ (⟨#[111, 116, 104, 101, 114, 32, 100, 101, 110, 121, 10]⟩ : ByteArray)).data.toList) 0 = .inr (n + 2) := by
        rw [data_app, HSD.out, more_text, lines_text _ (fun l hl => by
          rcases List.mem_append.1 hl with hl | hl
          · exact hno l hl
          · rw [List.mem_singleton.1 hl]; exact oth_no _), fold_more HG.out ot (by omega), HN.out]
      have s3 : (s ++ (⟨#[111, 116, 104, 101, 114, 32, 100, 101, 110, 121, 10]⟩ : ByteArray)).size ≤ 65536 := by
        rw [ByteArray.size_append]
        have : (⟨#[111, 116, 104, 101, 114, 32, 100, 101, 110, 121, 10]⟩ : ByteArray).size = 11 := rfl
        omega
      have HP3 := hid (fun (w : World) (hb : Below W.heap.size W w) => parse_bad w E (HVr.out.on hb) _ s3 _ f3)
      have HML : Hid (∀ r ∈ R, r.ms.length = 8) := hid fun r hr => (HG.out r hr).ml
      have HAl := hid (fun (w : World) (a1 : Option Addr) (c1 : Nat) (h1 : RulesAt w a1 R) (h2 : RulesAt w ao R) => alike_any w a1 c1 ao c n ot R HN.out h1 h2 HML.out (by omega))
      have HP2 : Hid (Z.size ≤ 65536 → ∀ (w : World) (_ : Below W.heap.size W w), Calls Tryd.prog 21 #[.string Z] w fun e W' => ∃ v, e = .returned (.tuple #[.agg #[v, .bool ot], .int .i64 0, .int .i64 0]) ∧ W'.ownsRow w.heap.size 42 10 v R.length (rcs R) ∧ Below w.heap.size w W') := hid (fun hz w hb => parse_good w E (HVr.out.on hb) Z hz R ot (by
        rw [HZ.out, HSD.out, nz_text _ _ hno, lines_text _ (nsl_no _ _ hno 0)]
        exact fold_noise _ HG.out ot (by omega)))
      have n2 : (n : Int) ≤ 256 := by omega
      have hsz : (s.size : Int) ≤ 24588 := by omega
      have hZs : Z.size ≤ 368820 := by
        have h1 := nz_len (selA x) s.data.toList 0
        rw [← HZ.out, lenD, lenD] at h1
        omega
      clear f1 f3 s3 hno htk hcnt hlt hk
      go_upto_region 19 with fail
      go_upto_region 20 with (first | (go_at_call 21; refine (HP1.out _ Y2.out.bl).mono ?_; rintro e w3 ⟨vw3, rfl, ho, hb⟩; obtain ⟨aw3, cw3, ew3⟩ := L.own_form ho; subst ew3; have Kw3 := hid (Y2.out.on hb); have Rw3 := hid (own_rules ho HML.out); clear ho hb; rw [HN.out]) | (refine wpList_store_st rfl 36 _ _ rfl w3.heap.size [.slice aw3 n cw3, .bool ot] rfl rfl (heap_alloc_new w3 zpol) size36 rfl rfl ?_; intro w4 hc hb hs; have Y4 := hid (L6.made Kw3.out Rw3.out hc hb); clear hc hb hs Kw3 Rw3))
      generalize w3.heap.size = g10 at *
      clear Y2 HP1
      have dw4 : w4.cell? ⟨W.heap.size, 0, none⟩ = some (.slice ao n c) := Y4.out.k.p.cell 0
      go_upto_region 22 with (first | (refine wpList_load_mg (by rfl) 36 _ rfl g10 0 rfl _ _ (cel_range Y4.out.q) Tryd.underlying36 rfl size36 ?_) | (refine wpList_load_mg (by rfl) 36 _ rfl W.heap.size 0 rfl _ _ (cel_range (show Cel w4 W.heap.size 36 [.slice ao n c, .bool ot] from Y4.out.k.p)) Tryd.underlying36 rfl size36 ?_) | (go_at_call 16; refine (HNum.out _ _).mono ?_; rintro e w0 ⟨rfl, hw⟩; subst w0) | (go_at_call 22; refine (HAl.out _ _ _ Y4.out.r Y4.out.k.ru).mono ?_; rintro e w5 ⟨rfl, hb⟩; have Y5 := hid (Y4.out.on hb); clear hb dw4; have dw5 : w5.cell? ⟨W.heap.size, 0, none⟩ = some (.slice ao n c) := Y5.out.k.p.cell 0))
      clear Y4 dw5
      by_cases hz : Z.size ≤ 65536
      · have i5 : (Z.size : Int) ≤ 65536 := by omega
        have HP2' := hid (HP2.out hz)
        clear HP2 hz
        go_upto_region 23 with fail
        go_upto_region 24 with (first | (go_at_call 21; refine (HP2'.out _ Y5.out.k.bl).mono ?_; rintro e w6 ⟨vw6, rfl, ho, hb⟩; obtain ⟨aw6, cw6, ew6⟩ := L.own_form ho; subst ew6; have Kw6 := hid (Y5.out.k.on hb); have Rw6 := hid (own_rules ho HML.out); clear ho hb; rw [HN.out]) | (refine wpList_store_st rfl 36 _ _ rfl w6.heap.size [.slice aw6 n cw6, .bool ot] rfl rfl (heap_alloc_new w6 zpol) size36 rfl rfl ?_; intro w9 hc hb hs; have Y9 := hid (L6.made Kw6.out Rw6.out hc hb); clear hc hb hs Kw6 Rw6))
        generalize w6.heap.size = g13 at *
        clear Y5
        have dw9 : w9.cell? ⟨W.heap.size, 0, none⟩ = some (.slice ao n c) := Y9.out.k.p.cell 0
        go_upto_region 26 with (first | (refine wpList_load_mg (by rfl) 36 _ rfl g13 0 rfl _ _ (cel_range Y9.out.q) Tryd.underlying36 rfl size36 ?_) | (refine wpList_load_mg (by rfl) 36 _ rfl W.heap.size 0 rfl _ _ (cel_range (show Cel w9 W.heap.size 36 [.slice ao n c, .bool ot] from Y9.out.k.p)) Tryd.underlying36 rfl size36 ?_) | (go_at_call 16; refine (HNum.out _ _).mono ?_; rintro e w0 ⟨rfl, hw⟩; subst w0) | (go_at_call 22; refine (HAl.out _ _ _ Y9.out.r Y9.out.k.ru).mono ?_; rintro e wA ⟨rfl, hb⟩; have YA := hid (Y9.out.on hb); clear hb dw9; have dwA : wA.cell? ⟨W.heap.size, 0, none⟩ = some (.slice ao n c) := YA.out.k.p.cell 0))
        clear Y9 dwA
        go_upto_region 27 with (first | (go_at_call 21; refine (HP3.out _ YA.out.k.bl).mono ?_; rintro e w7 ⟨rfl, hb⟩; have Y7 := hid (below_on YA.out.k.bl hb); clear hb) | (refine wpList_store_st rfl 36 _ _ rfl w7.heap.size [.slice none 0 0, .bool false] rfl rfl (heap_alloc_new w7 zpol) size36 rfl rfl ?_; intro w8 hc hb hs; have Y8 : Hid (Cel w8 w7.heap.size 36 [.slice none 0 0, .bool false] ∧ Below W.heap.size W w8) := hid ⟨hc, below_on Y7.out (but_box hb)⟩; clear hc hb hs))
        generalize w7.heap.size = g16 at *
        clear YA Y7
        have e0 : w8.cell? ⟨g16, 0, none⟩ = some (.slice none 0 0) := Y8.out.1.cell 0
        go_wp2_with (first | (go_at_call 16; refine (HNum.out _ _).mono ?_; rintro e w0 ⟨rfl, hw⟩; subst w0))
        go_ret
        exact ⟨rfl, Y8.out.2⟩
      · have i5 : (65536 : Int) < (Z.size : Int) := by omega
        clear HP2 hz
        go_upto_region 27 with (first | (go_at_call 21; refine (HP3.out _ Y5.out.k.bl).mono ?_; rintro e w7 ⟨rfl, hb⟩; have Y7 := hid (below_on Y5.out.k.bl hb); clear hb) | (refine wpList_store_st rfl 36 _ _ rfl w7.heap.size [.slice none 0 0, .bool false] rfl rfl (heap_alloc_new w7 zpol) size36 rfl rfl ?_; intro w8 hc hb hs; have Y8 : Hid (Cel w8 w7.heap.size 36 [.slice none 0 0, .bool false] ∧ Below W.heap.size W w8) := hid ⟨hc, below_on Y7.out (but_box hb)⟩; clear hc hb hs))
        generalize w7.heap.size = g16 at *
        clear Y5 Y7
        have e0 : w8.cell? ⟨g16, 0, none⟩ = some (.slice none 0 0) := Y8.out.1.cell 0
        go_wp2_with (first | (go_at_call 16; refine (HNum.out _ _).mono ?_; rintro e w0 ⟨rfl, hw⟩; subst w0))
        go_ret
        exact ⟨rfl, Y8.out.2⟩
end Go.Proofs.YtbpdmkohihgnjaaDoor
