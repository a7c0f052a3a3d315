import Derived.Test.YtbpdmkohihgnjaaGreatDoorP35
import Derived.Test.YtbpdmkohihgnjaaGreatDoorP04
import Derived.Test.YtbpdmkohihgnjaaGreatDoorP36
import Derived.Test.YtbpdmkohihgnjaaGreatDoorP01
namespace Go.Proofs.YtbpdmkohihgnjaaGreatDoor.L
open Go.RowKit
theorem all_at (s : ByteArray) (f : UInt8 → Bool) (k : Nat) (h : k < s.size) (hf : f s[k] = false) : s.data.toList.all f = false := by
  rw [← List.take_append_drop k s.data.toList, List.all_append, drop_get s k h, List.all_cons, hf]
  simp

set_option maxHeartbeats 2000000 in
theorem rname_any (W : World) (s : ByteArray) (hs : s.size ≤ 140737488355328) :
    Calls Tryz.prog 27 #[.string s] W fun e W' => e = .returned (.int .i64 (if T.name s.data.toList then 0 else 42)) ∧ W = W' := by
  obtain ⟨r0, hr0⟩ : ∃ r0 : Int, (if T.name s.data.toList then (0 : Int) else 42) = r0 := ⟨_, rfl⟩
  rw [hr0]
  have b0 : (s.size : Int) ≤ 140737488355328 := by omega
  by_cases h0 : s.size = 0
  · have hse := emp s h0
    have HR : Hid ((42 : Int) = r0) := hid (by rw [← hr0, hse]; rfl)
    clear hr0 hs h0 b0
    subst hse
    go_enter Tryz.func27, Tryz.ntmps27
    go_wp2_with fail
    go_ret
    exact ⟨ret_int HR.out, rfl⟩
  · have hlt : 0 < s.size := by omega
    obtain ⟨n1, n2, n3⟩ := ne_nil s hlt
    have b1 : (0 : Int) < (s.size : Int) := by omega
    by_cases h24 : s.size ≤ 24
    · have b2 : (s.size : Int) ≤ 24 := by omega
      have HR : Hid ((if T.isLet s[0] && s.data.toList.all T.okc then (0 : Int) else 42) = r0) := hid (by
        rw [← hr0]
        unfold T.name
        rw [n3, size_list, decide_eq_true (show 1 ≤ s.size from hlt), decide_eq_true h24]
        simp)
      clear hr0 h0 n3 hs
      go_enter Tryz.func27, Tryz.ntmps27
      go_wp2_with fail
      go_loopw [3] (fun i wr => ∃ k : Nat, k ≤ s.size ∧ i = .int .i64 k ∧ Hid ((s.data.toList.take k).all T.okc = true ∧ (0 < k → T.isLet s[0] = true)) ∧ W = wr) (fun i _ => s.size - (intOf i).toNat)
      case atStart => exact ⟨0, Nat.zero_le _, rfl, hid ⟨by simp, fun h => by omega⟩, rfl⟩
      case round =>
        obtain ⟨k, hk, rfl, HI, rfl⟩ := hrel
        by_cases hk2 : k < s.size
        · have c1 : (k : Int) < (s.size : Int) := by omega
          have hc := s[k].toNat_lt
          have hgo : T.okc s[k] = true → (k = 0 → T.isLet s[0] = true) → Hid ((s.data.toList.take (k + 1)).all T.okc = true ∧ (0 < k + 1 → T.isLet s[0] = true)) := fun h1 h2 => hid ⟨by rw [take_snoc s k hk2, List.all_append, HI.out.1]; simp [h1], fun _ => by
            rcases Nat.eq_zero_or_pos k with h | h
            · exact h2 h
            · exact HI.out.2 h⟩
          have hbad : (T.okc s[k] = false ∨ (k = 0 ∧ T.isLet s[k] = false)) → Hid ((42 : Int) = r0) := fun h => hid (by
            rw [← HR.out]
            rcases h with h | ⟨h1, h2⟩
            · rw [all_at s _ k hk2 h]; simp
            · subst h1; rw [h2]; rfl)
          by_cases hl : 97 ≤ s[k].toNat ∧ s[k].toNat ≤ 122
          · have g1 : (97 : Int) ≤ s[k].toNat := by omega
            have g2 : (s[k].toNat : Int) ≤ 122 := by omega
            have HN := hgo (by simp [T.okc, T.isLet, hl]) (fun h => by subst h; simp [T.isLet, hl])
            have hx : ((s[k].toNat : Int) == 95) = false := by simp; omega
            have g3 : (57 : Int) < s[k].toNat := by omega
            have g4 : (48 : Int) ≤ s[k].toNat := by omega
            have g5 : decide ((s[k].toNat : Int) ≤ 57) = false := decide_eq_false (by omega)
            clear hgo hbad hl hc HI
            go_wp2_with fail
            go_roundw
            case measure => simp [intOf]; omega
            case rel => exact ⟨k + 1, by omega, by go_num, HN, trivial⟩
          · have hsm : (decide ((97 : Int) ≤ s[k].toNat) = false) ∨ ((97 : Int) ≤ s[k].toNat ∧ decide ((s[k].toNat : Int) ≤ 122) = false) := by
              by_cases h : 97 ≤ s[k].toNat
              · exact .inr ⟨by omega, decide_eq_false (by omega)⟩
              · exact .inl (decide_eq_false (by omega))
            have hnl : T.isLet s[k] = false := by simp [T.isLet]; omega
            by_cases ho : (48 ≤ s[k].toNat ∧ s[k].toNat ≤ 57) ∨ s[k].toNat = 95
            · have hok : T.okc s[k] = true := by simp [T.okc, T.isDig]; omega
              have hot : ((48 : Int) ≤ s[k].toNat ∧ (s[k].toNat : Int) ≤ 57) ∨ ((48 : Int) ≤ s[k].toNat ∧ decide ((s[k].toNat : Int) ≤ 57) = false ∧ ((s[k].toNat : Int) == 95) = true) := by
                rcases ho with h | h
                · exact .inl ⟨by omega, by omega⟩
                · exact .inr ⟨by omega, decide_eq_false (by omega), by simp; omega⟩
              rcases Nat.eq_zero_or_pos k with hz | hz
              · have HF := hbad (.inr ⟨hz, hnl⟩)
                subst hz
                clear hgo hbad hl hc HI hok hnl ho
                rcases hsm with hsm | ⟨hs1, hsm⟩
                all_goals rcases hot with ⟨o1, o2⟩ | ⟨o1, o2, o3⟩
                all_goals
                  go_wp2_with fail
                  go_ret
                  exact ⟨ret_int HF.out, rfl⟩
              · have HN := hgo hok (fun h => by omega)
                have kz : ((k : Int) == 0) = false := by simp; omega
                clear hgo hbad hl hc HI hok hnl ho hz
                rcases hsm with hsm | ⟨hs1, hsm⟩
                all_goals rcases hot with ⟨o1, o2⟩ | ⟨o1, o2, o3⟩
                all_goals
                  go_wp2_with fail
                  go_roundw
                  case measure => simp [intOf]; omega
                  case rel => exact ⟨k + 1, by omega, by go_num, HN, trivial⟩
            · have HF := hbad (.inl (by simp [T.okc, hnl, T.isDig]; omega))
              have hx : ((s[k].toNat : Int) == 95) = false := by simp; omega
              have hot : (decide ((48 : Int) ≤ s[k].toNat) = false) ∨ ((48 : Int) ≤ s[k].toNat ∧ decide ((s[k].toNat : Int) ≤ 57) = false) := by
                by_cases h : 48 ≤ s[k].toNat
                · exact .inr ⟨by omega, decide_eq_false (by omega)⟩
                · exact .inl (decide_eq_false (by omega))
              have kz : ((k : Int) == 0) = true ∨ ((k : Int) == 0) = false := by cases ((k : Int) == 0) <;> simp
              clear hgo hbad hl hc HI hnl ho
              rcases hsm with hsm | ⟨hs1, hsm⟩
              all_goals rcases hot with o1 | ⟨o1, o2⟩
              all_goals rcases kz with kz | kz
              all_goals
                go_wp2_with fail
                go_ret
                exact ⟨ret_int HF.out, rfl⟩
        · obtain rfl : k = s.size := by omega
          have HF : Hid ((0 : Int) = r0) := hid (by
            rw [← HR.out]
            have := HI.out
            rw [take_size] at this
            rw [this.1, this.2 hlt]
            rfl)
          clear hk hk2 HI
          go_wp2_with fail
          go_ret
          exact ⟨ret_int HF.out, rfl⟩
    · have b2 : (24 : Int) < (s.size : Int) := by omega
      have HR : Hid ((42 : Int) = r0) := hid (by
        rw [← hr0]
        unfold T.name
        rw [size_list, decide_eq_false h24]
        simp)
      clear hr0 h0 n3 h24
      go_enter Tryz.func27, Tryz.ntmps27
      go_wp2_with fail
      go_ret
      exact ⟨ret_int HR.out, rfl⟩
end Go.Proofs.YtbpdmkohihgnjaaGreatDoor.L
namespace Go.Proofs.YtbpdmkohihgnjaaGreatDoor
open Go.RowKit
set_option maxHeartbeats 4000000
set_option maxRecDepth 100000
theorem said_any (W : World) (s : ByteArray) : Calls Tryz.prog 18 #[.string s] W fun e W' => e = .returned (.tuple #[.bool (isA s), .bool (okA s)]) ∧ W' = W := by
  by_cases h1 : s = ⟨#[97, 108, 108, 111, 119]⟩
  · have e1 : isA s = true := by rw [h1]; decide
    have e2 : okA s = true := by rw [h1]; decide
    rw [e1, e2]
    subst h1
    go_enter Tryz.func18, Tryz.ntmps18
    go_wp2_with fail
    go_returns
    exact ⟨rfl, rfl⟩
  · by_cases h2 : s = ⟨#[100, 101, 110, 121]⟩
    · have e1 : isA s = false := by rw [h2]; decide
      have e2 : okA s = true := by rw [h2]; decide
      rw [e1, e2]
      subst h2
      go_enter Tryz.func18, Tryz.ntmps18
      go_wp2_with fail
      go_returns
      exact ⟨rfl, rfl⟩
    · have a0 : alw s.data.toList = none := by
        unfold alw
        rw [if_neg (fun h => h1 (bytes_ext (t := ⟨(vL true).toArray⟩) h)), if_neg (fun h => h2 (bytes_ext (t := ⟨(vL false).toArray⟩) h))]
      have e1 : isA s = false := by unfold isA; rw [a0]; rfl
      have e2 : okA s = false := by unfold okA; rw [a0]; rfl
      rw [e1, e2]
      have n1 := toList_lit (l := [97, 108, 108, 111, 119]) h1
      have n2 := toList_lit (l := [100, 101, 110, 121]) h2
      go_enter Tryz.func18, Tryz.ntmps18
      go_wp2_with fail
      go_returns
      exact ⟨rfl, rfl⟩
theorem wd_atD {W w : World} {v : Value} {ws : List L.T.Wd} (h : L.HR W w v ws) : ∃ ao c, v = .slice ao ws.length c ∧ WdAt w ao ws := by
  obtain ⟨ao, c, rfl⟩ := L.own_form h.own
  refine ⟨ao, c, rfl, ?_⟩
  rcases h.own.2 with ⟨_, h0⟩ | ⟨g, cap, cur, hv, hB, hg, hn, hm, hsz, hx⟩
  · exact .inl (List.eq_nil_of_length_eq_zero h0)
  · simp only [Value.slice.injEq] at hv
    obtain ⟨rfl, _, _⟩ := hv
    refine .inr ⟨g, rfl, (Array.getElem?_eq_some_iff.1 hg).1, fun t x ht j u hu => ?_⟩
    have hj : j < 3 := (List.getElem?_eq_some_iff.1 hu).1
    have htl := (List.getElem?_eq_some_iff.1 ht).1
    have h1 := wds_at ws t x ht j u hu
    rw [← hx, List.getElem?_take_of_lt (by omega), Array.getElem?_toList] at h1
    simp only [World.cell?, hg]
    exact h1
def WdN (m : Nat) : Nat ⊕ List L.T.Wd → Prop
  | .inl _ => True
  | .inr ws => ws.length ≤ m
theorem WdN.mono {m m' : Nat} {r : Nat ⊕ List L.T.Wd} (h : WdN m r) (hm : m ≤ m') : WdN m' r := by
  cases r with
  | inl _ => trivial
  | inr ws => exact Nat.le_trans h hm
theorem WdN.cons {m : Nat} {w : L.T.Wd} {r : Nat ⊕ List L.T.Wd} (h : WdN m r) : WdN (m + 1) (L.T.cons w r) := by
  cases r with
  | inl _ => trivial
  | inr ws => exact Nat.succ_le_succ h
theorem rd_num (l : List UInt8) (p : Nat) : WdN l.length (L.T.rd l p) := by
  induction h : l.length using Nat.strongRecOn generalizing l p with
  | _ n ih =>
    subst h
    cases l with
    | nil => rw [L.T.rd_nil]; exact Nat.le_refl _
    | cons c t =>
      cases hg : L.T.isGap c with
      | true =>
        rw [L.T.rd_gap t p hg]
        exact (ih t.length (by simp) t (p + 1) rfl).mono (by simp)
      | false =>
        by_cases h35 : c.toNat = 35
        · rw [L.T.rd_hash t p hg h35]; exact Nat.zero_le _
        · by_cases h34 : c.toNat = 34
          · have hu := L.T.unq_le t
            cases hq : L.T.unq t with
            | inl x => rw [L.T.rd_bad t p x hg h34 hq]; trivial
            | inr y =>
              obtain ⟨b, m⟩ := y
              rw [hq] at hu
              have hu1 : m ≤ t.length := hu.1
              have hu2 : b.length < m := hu.2
              cases hp : L.T.parted (t.drop m) with
              | false => rw [L.T.rd_joined t b p m hg h34 hq hp]; trivial
              | true =>
                rw [L.T.rd_quoted t b p m hg h34 hq hp]
                exact (WdN.cons (ih (t.drop m).length (by simp; omega) (t.drop m) (p + 1 + m) rfl)).mono (by simp <;> omega)
          · rw [L.T.rd_plain t p hg h35 h34]
            have h1 := L.T.plainN_pos t hg
            exact (WdN.cons (ih ((c :: t).drop (L.T.plainN (c :: t))).length (by simp; omega) ((c :: t).drop (L.T.plainN (c :: t))) (p + L.T.plainN (c :: t)) rfl)).mono (by simp <;> omega)
def plW (ws : List L.T.Wd) : Option (List (List UInt8)) := if ws.any (·.quoted) = true then none else some (ws.map (·.text))
def plD (l : List UInt8) : Option (List (List UInt8)) :=
  match L.T.words l with
  | .inl _ => none
  | .inr ws => plW ws
def PlPost (W w : World) (e : Ending) (r : Option (List (List UInt8))) : Prop :=
  match r with
  | none => e = .returned (.tuple #[.slice none 0 0, .bool false]) ∧ Below W.heap.size W w
  | some l => ∃ v, e = .returned (.tuple #[v, .bool true]) ∧ L.HV W w 9 v (L.strsV l)
theorem PlPost.no {W w : World} (h : Below W.heap.size W w) : PlPost W w (.returned (.tuple #[.slice none 0 0, .bool false])) none := ⟨rfl, h⟩
theorem hv_old {W X w : World} {e : TypeId} {v : Value} {l : List Value} (h : L.HV X w e v l) (hb : Below W.heap.size W X) : L.HV W w e v l := ⟨L.own_mono h.own hb.size, hb.trans (h.below.mono hb.size)⟩
theorem plain17_any (W : World) (s : ByteArray) (hs : s.size ≤ 1000000000) :
    Calls Tryz.prog 17 #[.string s] W fun e W' => PlPost W W' e (plD s.data.toList) := by
  have HWo := hid (L.rwords_any W s hs)
  have hnum := rd_num s.data.toList 0
  obtain ⟨i0, hi, hz0, hz1, hz2⟩ := info_parts L.Tryz.info9
  unfold plD
  unfold L.T.words at HWo ⊢
  rw [lenD] at hnum
  cases hrd : L.T.rd s.data.toList 0 with
  | inl x =>
    rw [hrd] at HWo
    have HWo2 : Hid (Calls Tryz.prog 26 #[.string s] W fun e w => e = .returned (.tuple #[.slice none 0 0, .int .i64 ((x + 1 : Nat) : Int), .int .i64 40]) ∧ Below W.heap.size W w) := hid HWo.out
    clear HWo hrd hnum hs hi hz0 hz1 hz2
    go_enter Tryz.func17, Tryz.ntmps17
    go_wp2_with (first | (go_at_call 26; refine HWo2.out.mono ?_; rintro e w1 ⟨rfl, hb⟩))
    go_returns
    exact PlPost.no hb
  | inr ws =>
    rw [hrd] at HWo hnum
    have HWo2 : Hid (Calls Tryz.prog 26 #[.string s] W fun e w => ∃ v, e = .returned (.tuple #[v, .int .i64 0, .int .i64 0]) ∧ L.HR W w v ws) := hid HWo.out
    have hwn : ws.length ≤ s.size := hnum
    have hn9 : ws.length ≤ 1000000000 := by omega
    clear HWo hrd hnum hs hwn
    show Calls Tryz.prog 17 #[.string s] W fun e W' => PlPost W W' e (plW ws)
    obtain ⟨R, hR⟩ : ∃ R, R = plW ws := ⟨_, rfl⟩
    rw [← hR]
    have HR0 := hid hR
    clear hR
    generalize hn : ws.length = n at *
    have HNL := hid hn
    go_enter Tryz.func17, Tryz.ntmps17
    go_wp2_with (first | (go_at_call 26; refine HWo2.out.mono ?_; rintro e w1 ⟨v, rfl, hr⟩; obtain ⟨ao, c, ev, hat⟩ := wd_atD hr; rw [hn] at ev; subst ev; have HAt := hid hat; have HB1 := hid hr.below; clear hat hr HWo2))
    go_loopw [7, 8] (fun v i wr => ∃ k : Nat, k ≤ n ∧ i = .int .i64 k ∧ L.HV w1 wr 9 v (L.strsV ((ws.take k).map (·.text))) ∧ (ws.take k).any (·.quoted) = false) (fun _ i _ => n - (intOf i).toNat)
    case atStart => exact ⟨0, Nat.zero_le _, rfl, L.HV.nil 9 (Below.refl _ _), rfl⟩
    case round =>
      obtain ⟨k, hk, rfl, hv, hq⟩ := hrel
      have HV1 := hid hv
      have HQ := hid hq
      have HA := hid (HAt.out.on hv.below)
      clear hv hq
      by_cases hlt : k < n
      · obtain ⟨b, rfl, hb, hra⟩ : ∃ b, ao = some ⟨b, 0, none⟩ ∧ b < wr.heap.size ∧ ∀ t x, ws[t]? = some x → wr.rangeAt b (t * 3) (L.wdC x) := by
          rcases HA.out with h | h
          · rw [h] at hn; simp at hn; omega
          · exact h
        have hRk : ws[k]? = some (ws[k]'(by omega)) := List.getElem?_eq_getElem (by omega)
        have htk : ws.take (k + 1) = ws.take k ++ [ws[k]'(by omega)] := (List.take_append_getElem (by omega)).symm
        have HMem : Hid (ws[k]'(by omega) ∈ ws) := hid (List.getElem_mem _)
        generalize ws[k]'(by omega) = x at *
        have hr3 := hra k x hRk
        have c0 : wr.cell? ⟨b, k * 3, none⟩ = some (.string ⟨x.text.toArray⟩) := by have := hr3 0 _ rfl; rwa [Nat.add_zero] at this
        have c1 : wr.cell? ⟨b, k * 3 + 1, none⟩ = some (.bool x.quoted) := hr3 1 _ rfl
        have HN := hid (show k + 1 ≤ n by omega)
        have HTK := hid htk
        have i3 : (k : Int) < (n : Int) := by omega
        have i4 : (k : Int) ≤ 1000000000 := by omega
        clear hra hRk hr3 htk hb HA
        cases hqx : x.quoted
        · rw [hqx] at c1
          have HQ2 : Hid ((ws.take (k + 1)).any (·.quoted) = false) := hid (by rw [HTK.out, List.any_append, HQ.out, Bool.false_or]; simp [hqx])
          have HTX : Hid (L.strsV ((ws.take (k + 1)).map (·.text)) = L.strsV ((ws.take k).map (·.text)) ++ [.string ⟨x.text.toArray⟩]) := hid (by rw [HTK.out, List.map_append, List.map_cons, List.map_nil, L.strsV_snoc])
          have HLE : Hid ((L.strsV ((ws.take k).map (·.text))).length ≤ 1000000000) := hid (by rw [L.strsV_length, List.length_map, List.length_take]; omega)
          clear HQ HTK hqx HMem hk hlt hn hn9
          go_wp2_with (first | (at_builtin; refine L.wpList_append_one rfl _ _ 52 9 rfl i0 (.string ⟨#[]⟩) 16 Tryz.underlying52 hi hz0 hz1 hz2 rfl _ _ rfl (HV1.out.alloc _) _ _ (.string ⟨x.text.toArray⟩) rfl (L.cell_new _ _ _) rfl HLE.out (by decide) ?_; intro v2 w2 F2 _; rw [← HTX.out] at F2; have HV2 := hid F2; clear F2 HV1))
          go_roundw
          case rel => exact ⟨k + 1, HN.out, by go_num, HV2.out, HQ2.out⟩
          case measure => have := HN.out; simp [intOf]; omega
        · rw [hqx] at c1
          have HRn : Hid (R = none) := hid (by rw [HR0.out]; unfold plW; rw [if_pos (List.any_eq_true.2 ⟨x, HMem.out, hqx⟩)])
          clear HQ HTK hqx HMem hk hlt hn hn9 hi hz0 hz1 hz2
          go_wp2_with fail
          go_returns
          rw [HRn.out]
          exact PlPost.no (below_on HB1.out HV1.out.below)
      · obtain rfl : k = n := by omega
        have htk : ws.take k = ws := List.take_of_length_le (by omega)
        rw [htk] at HV1 HQ
        have HRs : Hid (R = some (ws.map (·.text))) := hid (by rw [HR0.out]; unfold plW; rw [if_neg (by rw [HQ.out]; decide)])
        clear HQ htk hk hlt hn hn9 hi hz0 hz1 hz2
        go_wp2_with fail
        go_returns
        rw [HRs.out]
        exact ⟨_, rfl, hv_old HV1.out HB1.out⟩
end Go.Proofs.YtbpdmkohihgnjaaGreatDoor
namespace Go.Proofs.YtbpdmkohihgnjaaGreatDoor
open Go.RowKit
set_option maxHeartbeats 4000000
set_option maxRecDepth 100000
def rl3 : List (List UInt8) → Option Rl
  | [a, b, c] => if okA ⟨a.toArray⟩ = true ∧ L.T.name b = true ∧ ok8 ⟨c.toArray⟩ then some ⟨isA ⟨a.toArray⟩, ⟨b.toArray⟩, w8 ⟨c.toArray⟩⟩ else none
  | _ => none
theorem rl3_len {l : List (List UInt8)} (h : l.length ≠ 3) : rl3 l = none := by
  match l, h with
  | [], _ => rfl
  | [_], _ => rfl
  | [_, _], _ => rfl
  | [_, _, _], h => exact absurd rfl h
  | _ :: _ :: _ :: _ :: _, _ => rfl
def RuP (W w : World) (e : Ending) (r : Option Rl) : Prop :=
  ∃ (cs : List Value) (b : Bool), e = .returned (.tuple #[.agg cs.toArray, .bool b]) ∧ cs.length = 10 ∧ cs.all (·.oneCell') = true ∧ Below W.heap.size W w ∧ b = r.isSome ∧ ∀ x, r = some x → cs = x.cs
def zrul : List Value := [.bool false, .string ⟨#[]⟩, .int .u32 0, .int .u32 0, .int .u32 0, .int .u32 0, .int .u32 0, .int .u32 0, .int .u32 0, .int .u32 0]
theorem size60 : (Tryz.prog.info? 60).map (·.size) = some 10 := by kernel_rfl
theorem built60z : Tryz.prog.built 60 [] = some #[.bool false, .string ⟨#[]⟩, .int .u32 0, .int .u32 0, .int .u32 0, .int .u32 0, .int .u32 0, .int .u32 0, .int .u32 0, .int .u32 0] := by kernel_rfl
theorem built60 (al : Bool) (b : ByteArray) (a0 a1 a2 a3 a4 a5 a6 a7 : Int) : Tryz.prog.built 60 [(0, .bool al), (1, .string b), (2, .agg #[.int .u32 a0, .int .u32 a1, .int .u32 a2, .int .u32 a3, .int .u32 a4, .int .u32 a5, .int .u32 a6, .int .u32 a7])] = some #[.bool al, .string b, .int .u32 a0, .int .u32 a1, .int .u32 a2, .int .u32 a3, .int .u32 a4, .int .u32 a5, .int .u32 a6, .int .u32 a7] := by kernel_rfl
theorem strs_at3 {w : World} {ao : Option Addr} {a b c : List UInt8} (h : L.StrsAt w ao [a, b, c]) : ∃ g o, ao = some ⟨g, o, none⟩ ∧ g < w.heap.size ∧ w.cell? ⟨g, o, none⟩ = some (.string ⟨a.toArray⟩) ∧ w.cell? ⟨g, o + 1, none⟩ = some (.string ⟨b.toArray⟩) ∧ w.cell? ⟨g, o + 2, none⟩ = some (.string ⟨c.toArray⟩) := by
  rcases h with h | ⟨g, o, e, hl, hc⟩
  · cases h
  · exact ⟨g, o, e, hl, hc 0 (by simp), hc 1 (by simp), hc 2 (by simp)⟩
attribute [-simp] Tryz.isAgg26 Tryz.zeroValue26 Tryz.isAgg60 Tryz.zeroValue60
theorem ruled_any (W : World) (ao : Option Addr) (n c : Nat) (l : List (List UInt8)) (hn : l.length = n) (hat : L.StrsAt W ao l) (hle : ∀ y ∈ l, y.length ≤ 1000000000) :
    Calls Tryz.prog 19 #[.slice ao n c] W fun e W' => RuP W W' e (rl3 l) := by
  have hz60 : ∀ w, (zeroValue 60).run Tryz.prog w = .ok (.agg #[.bool false, .string ⟨#[]⟩, .int .u32 0, .int .u32 0, .int .u32 0, .int .u32 0, .int .u32 0, .int .u32 0, .int .u32 0, .int .u32 0]) w := fun w => by rw [Tryz.zeroValue60]
  have hb60 : ∀ w, (Instr.build 60 #[]).run Tryz.prog w = .ok (.agg #[.bool false, .string ⟨#[]⟩, .int .u32 0, .int .u32 0, .int .u32 0, .int .u32 0, .int .u32 0, .int .u32 0, .int .u32 0, .int .u32 0]) w := fun w => run_build w 60 #[] _ built60z
  obtain ⟨X, hX⟩ : ∃ X, X = W.alloc (Obj.cells #[.bool false, .string ⟨#[]⟩, .int .u32 0, .int .u32 0, .int .u32 0, .int .u32 0, .int .u32 0, .int .u32 0, .int .u32 0, .int .u32 0] 60) := ⟨_, rfl⟩
  have HB : Hid (Below W.heap.size W X ∧ Cel X W.heap.size 60 zrul) := hid ⟨by rw [hX]; exact below_one _ _, by rw [hX]; exact heap_alloc_new _ _⟩
  by_cases h3 : n = 3
  rotate_left
  · have HR := hid (rl3_len (l := l) (by omega))
    have i1 : ((n : Int) == 3) = false := by simp; omega
    have i2 : ((n : Int) != 3) = true := by simp; omega
    clear hat hle h3 hn
    go_enter Tryz.func19, Tryz.ntmps19
    go_upto_region 1 with fail
    rw [← hX]
    clear hX
    go_wp2_with (first | (refine wpList_store_st rfl 60 _ _ rfl W.heap.size zrul rfl rfl HB.out.2 size60 rfl rfl ?_; intro w5 hc hb hs; have Y2 : Hid (Cel w5 W.heap.size 60 zrul ∧ Below W.heap.size W w5) := hid ⟨hc, HB.out.1.trans (hb.below (Nat.le_refl _) HB.out.1.size)⟩; clear hc hb hs HB))
    refine ret_q2 rfl rfl W.heap.size zrul rfl Y2.out.1 Tryz.underlying60 rfl size60 ?_
    rw [HR.out]
    exact ⟨zrul, false, rfl, rfl, rfl, Y2.out.2, rfl, fun x hx => by cases hx⟩
  · subst h3
    obtain ⟨a, b, d, rfl⟩ := len_three hn
    obtain ⟨gb, off, rfl, hgb, e0, e1, e2⟩ := strs_at3 hat
    have la : a.length ≤ 1000000000 := hle a (by simp)
    have lb : b.length ≤ 1000000000 := hle b (by simp)
    have ld : d.length ≤ 1000000000 := hle d (by simp)
    have HC := hid (fun (w : World) (h : Below W.heap.size W w) => (⟨(h.cell (p := ⟨gb, off, none⟩) hgb).trans e0, (h.cell (p := ⟨gb, off + 1, none⟩) hgb).trans e1, (h.cell (p := ⟨gb, off + 2, none⟩) hgb).trans e2⟩ : w.cell? ⟨gb, off, none⟩ = some (.string ⟨a.toArray⟩) ∧ w.cell? ⟨gb, off + 1, none⟩ = some (.string ⟨b.toArray⟩) ∧ w.cell? ⟨gb, off + 2, none⟩ = some (.string ⟨d.toArray⟩)))
    have HNm := hid (fun w => L.rname_any w ⟨b.toArray⟩ (by rw [sizeL]; omega))
    have HSa := hid (fun w => said_any w ⟨a.toArray⟩)
    have H8 := hid (fun w => eight_any w ⟨d.toArray⟩ (by rw [sizeL]; omega))
    have hlw := w8_length ⟨d.toArray⟩
    obtain ⟨Z, hZ⟩ : ∃ Z : List Int, Z = List.replicate 8 0 := ⟨_, rfl⟩
    have hZl : Z.length = 8 := by rw [hZ]; simp
    have hz : ∀ w, (zeroValue 26).run Tryz.prog w = .ok (.agg (Z.map (Value.int .u32)).toArray) w := fun w => by rw [Tryz.zeroValue26, hZ]; rfl
    clear hZ hat hle hn hgb e0 e1 e2 la lb ld
    obtain ⟨R, hR⟩ : ∃ R, R = rl3 [a, b, d] := ⟨_, rfl⟩
    rw [← hR]
    have HN : Hid (okA ⟨a.toArray⟩ = true → L.T.name b = true → decide (ok8 ⟨d.toArray⟩) = true → R = some ⟨isA ⟨a.toArray⟩, ⟨b.toArray⟩, w8 ⟨d.toArray⟩⟩) := hid (fun h1 h2 h3 => by rw [hR]; exact if_pos ⟨h1, h2, of_decide_eq_true h3⟩)
    have HF : Hid ((okA ⟨a.toArray⟩ = true → L.T.name b = true → decide (ok8 ⟨d.toArray⟩) = true → False) → R = none) := hid (fun h => by rw [hR]; exact if_neg (fun hh => h hh.1 hh.2.1 (decide_eq_true hh.2.2)))
    clear hR
    have hnmr : (⟨b.toArray⟩ : ByteArray).data.toList = b := rfl
    rw [hnmr] at HNm
    clear hnmr
    generalize decide (ok8 ⟨d.toArray⟩) = o8 at *
    generalize w8 ⟨d.toArray⟩ = M at *
    generalize okA ⟨a.toArray⟩ = oa at *
    generalize isA ⟨a.toArray⟩ = al at *
    generalize L.T.name b = nm at *
    unfold Ag at H8
    have c1 := (HC.out X HB.out.1).2.1
    cases nm
    · have HR := hid (HF.out (fun _ h => by cases h))
      have HNm2 : Hid (∀ w, Calls Tryz.prog 27 #[.string ⟨b.toArray⟩] w fun e w' => e = .returned (.int .i64 42) ∧ w = w') := hid HNm.out
      clear HNm HF HN HSa H8 hlw hZl hz
      go_enter Tryz.func19, Tryz.ntmps19
      go_upto_region 1 with fail
      rw [← hX]
      clear hX
      go_wp2_with (first | (go_at_call 27; refine (HNm2.out _).mono ?_; rintro e w' ⟨rfl, rfl⟩) | (refine wpList_store_st rfl 60 _ _ rfl W.heap.size zrul rfl rfl HB.out.2 size60 rfl rfl ?_; intro w5 hc hb hs; have Y2 : Hid (Cel w5 W.heap.size 60 zrul ∧ Below W.heap.size W w5) := hid ⟨hc, HB.out.1.trans (hb.below (Nat.le_refl _) HB.out.1.size)⟩; clear hc hb hs HB))
      refine ret_q2 rfl rfl W.heap.size zrul rfl Y2.out.1 Tryz.underlying60 rfl size60 ?_
      rw [HR.out]
      exact ⟨zrul, false, rfl, rfl, rfl, Y2.out.2, rfl, fun x hx => by cases hx⟩
    · have HNm2 : Hid (∀ w, Calls Tryz.prog 27 #[.string ⟨b.toArray⟩] w fun e w' => e = .returned (.int .i64 0) ∧ w = w') := hid HNm.out
      have c0 := (HC.out X HB.out.1).1
      have c2 := (HC.out X HB.out.1).2.2
      clear HNm
      match M, hlw with
      | [a0, a1, a2, a3, a4, a5, a6, a7], _ =>
      go_enter Tryz.func19, Tryz.ntmps19
      go_upto_region 1 with fail
      rw [← hX]
      clear hX
      go_upto_region 4 with (first | (go_at_call 27; refine (HNm2.out _).mono ?_; rintro e w' ⟨rfl, rfl⟩) | (go_at_call 18; refine (HSa.out _).mono ?_; rintro e w' ⟨rfl, hw⟩; subst w'))
      go_upto_region 5 with (first | (go_at_call 28; refine (H8.out _).mono ?_; rintro e w1 ⟨rfl, hb⟩; have Y1 : Hid (Below W.heap.size W w1 ∧ Cel w1 W.heap.size 60 zrul) := hid ⟨below_on HB.out.1 hb, HB.out.2.on hb⟩; clear hb HB) | (refine wpList_store_but rfl 26 _ _ rfl w1.heap.size [a0, a1, a2, a3, a4, a5, a6, a7] rfl rfl (Blk.new w1 .u32 26 Z) size26 hZl ?_; intro w2 bA hbt hsz; have Y2 : Hid (Below W.heap.size W w2 ∧ Cel w2 W.heap.size 60 zrul ∧ Cel w2 w1.heap.size 26 [.int .u32 a0, .int .u32 a1, .int .u32 a2, .int .u32 a3, .int .u32 a4, .int .u32 a5, .int .u32 a6, .int .u32 a7]) := hid ⟨below_on Y1.out.1 (but_box hbt), Y1.out.2.on (but_box hbt), blk_cel bA⟩; clear bA hbt hsz))
      generalize w1.heap.size = g6 at *
      clear Y1 c0 c1 c2 HNm2 HSa H8 hz hZl
      have Y3 : Hid (Below W.heap.size W w2.drew ∧ Cel w2.drew W.heap.size 60 zrul ∧ Cel w2.drew g6 26 [.int .u32 a0, .int .u32 a1, .int .u32 a2, .int .u32 a3, .int .u32 a4, .int .u32 a5, .int .u32 a6, .int .u32 a7]) := hid ⟨Y2.out.1.drew, Y2.out.2.1.on (Below.refl _ _).drew, Y2.out.2.2.on (Below.refl _ _).drew⟩
      have HG : Hid (g6 ≠ W.heap.size) := hid (cel_ne Y3.out.2.2 Y3.out.2.1 (by decide))
      clear Y2
      cases oa
      · cases o8
        · have HR := hid (HF.out (fun h1 _ h3 => by first | (cases h1; done) | (cases h3; done)))
          clear HN HF
          refine wp_region_held_drew (S := fun w => Cel w g6 26 [.int .u32 a0, .int .u32 a1, .int .u32 a2, .int .u32 a3, .int .u32 a4, .int .u32 a5, .int .u32 a6, .int .u32 a7] ∧ Below W.heap.size W w) (by kernel_rfl) ⟨Y3.out.2.2, Y3.out.1⟩ (fun hHeld => ?_)
          generalize World.drew _ = w3 at *
          refine tk 0 ⟨some 33, .move (.tmp 4), 4, "ref.go:118", #[], none⟩ (.bool al) ?_
          simp only [Act.put, List.setIfInBounds_toArray, List.set_cons_zero, List.set_cons_succ]
          refine tk 1 ⟨some 34, .move (.tmp 0), 52, "ref.go:118", #[], none⟩ (.slice (some ⟨gb, off, none⟩) 3 c) ?_
          simp only [Act.put, List.setIfInBounds_toArray, List.set_cons_zero, List.set_cons_succ]
          refine tk 2 ⟨some 35, .indexAddr 52 (.tmp 34) (.const (.int .i64 1)), 0, "ref.go:118", #[⟨1, .data⟩], none⟩ (.pointer (some ⟨gb, off + 1, none⟩)) ?_
          simp only [Act.put, List.setIfInBounds_toArray, List.set_cons_zero, List.set_cons_succ]
          refine tk 3 ⟨some 36, .load 9 (.tmp 35), 9, "ref.go:118", #[⟨2, .data⟩], none⟩ (.string ⟨b.toArray⟩) ?_ (hy := Or.inl ⟨by rfl, by intro w hSw; have y0 := (HC.out _ hSw.2).2.1; go_simp⟩)
          simp only [Act.put, List.setIfInBounds_toArray, List.set_cons_zero, List.set_cons_succ]
          refine tk 4 ⟨some 37, .load 26 (.tmp 6), 26, "ref.go:118", #[], none⟩ (.agg #[.int .u32 a0, .int .u32 a1, .int .u32 a2, .int .u32 a3, .int .u32 a4, .int .u32 a5, .int .u32 a6, .int .u32 a7]) ?_ (hy := yieldsIf_load_mid (by rfl) _ _ rfl _ _ rfl _ _ (fun w hSw => cel_range hSw.1) Tryz.underlying26 rfl size26)
          simp only [Act.put, List.setIfInBounds_toArray, List.set_cons_zero, List.set_cons_succ]
          refine tk 5 ⟨some 38, .build 60 #[(0, .tmp 33), (1, .tmp 36), (2, .tmp 37)], 60, "ref.go:118", #[⟨0, .data⟩, ⟨3, .data⟩, ⟨4, .data⟩], none⟩ (.agg #[.bool al, .string ⟨b.toArray⟩, .int .u32 a0, .int .u32 a1, .int .u32 a2, .int .u32 a3, .int .u32 a4, .int .u32 a5, .int .u32 a6, .int .u32 a7]) ?_ (hy := Or.inl ⟨by rfl, by intro w hSw; have hbu := run_build (P := Tryz.prog) w 60 _ _ (built60 al ⟨b.toArray⟩ a0 a1 a2 a3 a4 a5 a6 a7); go_simp⟩)
          simp only [Act.put, List.setIfInBounds_toArray, List.set_cons_zero, List.set_cons_succ]
          refine tk 6 ⟨some 39, .move (.tmp 5), 4, "ref.go:118", #[], none⟩ (.bool false) ?_
          simp only [Act.put, List.setIfInBounds_toArray, List.set_cons_zero, List.set_cons_succ]
          refine tk 7 ⟨some 40, .move (.tmp 39), 4, "ref.go:118", #[⟨6, .data⟩], none⟩ (.bool false) ?_
          simp only [Act.put, List.setIfInBounds_toArray, List.set_cons_zero, List.set_cons_succ]
          refine tk 8 ⟨some 41, .move (.tmp 7), 4, "ref.go:118", #[⟨7, .guard⟩, { on := 10, ground := .gcOnly Departure.lateStores }], some (7, true)⟩ undef ?_ (hy := Or.inr ⟨by rfl, rfl⟩)
          simp only [Act.put, List.setIfInBounds_toArray, List.set_cons_zero, List.set_cons_succ]
          refine tk 9 ⟨some 42, .pick (.tmp 40) (.tmp 41) (.const (.bool false)), 4, "ref.go:118", #[⟨7, .data⟩, ⟨8, .data⟩, { on := 10, ground := .gcOnly Departure.lateStores }], none⟩ (.bool false) ?_
          simp only [Act.put, List.setIfInBounds_toArray, List.set_cons_zero, List.set_cons_succ]
          refine wpAnyH_ready (rs := [10]) (by kernel_rfl) (by simp) (AllReadyH.cons (o := ⟨none, .store 60 (.tmp 2) (.tmp 38), 0, "ref.go:118", #[⟨5, .data⟩, ⟨7, .chain⟩, ⟨0, .phase⟩, ⟨1, .phase⟩, ⟨2, .phase⟩, ⟨3, .phase⟩, ⟨4, .phase⟩, ⟨5, .phase⟩, { on := 6, ground := .textOnly Departure.lateStores }, { on := 7, ground := .textOnly Departure.lateStores }, { on := 8, ground := .textOnly Departure.lateStores }, { on := 9, ground := .textOnly Departure.lateStores }], none⟩) rfl (fun KQ hK => ?_) AllReadyH.nil)
          rw [if_pos (by rfl)]
          refine wp_store_st 60 _ _ rfl W.heap.size [.bool al, .string ⟨b.toArray⟩, .int .u32 a0, .int .u32 a1, .int .u32 a2, .int .u32 a3, .int .u32 a4, .int .u32 a5, .int .u32 a6, .int .u32 a7] rfl rfl Y3.out.2.1 size60 rfl rfl ?_
          intro w5 hc hb hs
          have Y4 : Hid (Cel w5 W.heap.size 60 [.bool al, .string ⟨b.toArray⟩, .int .u32 a0, .int .u32 a1, .int .u32 a2, .int .u32 a3, .int .u32 a4, .int .u32 a5, .int .u32 a6, .int .u32 a7] ∧ Below W.heap.size W w5 ∧ Cel w5 g6 26 [.int .u32 a0, .int .u32 a1, .int .u32 a2, .int .u32 a3, .int .u32 a4, .int .u32 a5, .int .u32 a6, .int .u32 a7]) := hid ⟨hc, Y3.out.1.trans (hb.below (Nat.le_refl _) Y3.out.1.size), Y3.out.2.2.but hb HG.out⟩
          clear hc hb hs Y3
          refine hK.out _ _ ⟨Y4.out.2.2, Y4.out.2.1⟩ (fun hHeld => ?_)
          clear hK KQ
          try simp only [Act.put]
          refine wpAnyH_ready (rs := [11]) (by kernel_rfl) (by simp) (AllReadyH.cons (o := ⟨some 3, .assign (.tmp 42), 4, "ref.go:118", #[⟨9, .data⟩, ⟨10, .chain⟩, ⟨0, .phase⟩, ⟨1, .phase⟩, ⟨2, .phase⟩, ⟨3, .phase⟩, ⟨4, .phase⟩, ⟨5, .phase⟩, ⟨6, .phase⟩, ⟨7, .phase⟩, ⟨8, .phase⟩, ⟨9, .phase⟩, ⟨10, .phase⟩], none⟩) rfl (fun KQ hK => ?_) AllReadyH.nil)
          go_simp
          refine hK.out _ _ ⟨Y4.out.2.2, Y4.out.2.1⟩ (fun hHeld => ?_)
          clear hK KQ
          try simp only [Act.put, List.setIfInBounds_toArray, List.set_cons_zero, List.set_cons_succ]
          refine wpAnyH_done (by kernel_rfl) ?_ _
          go_wp2_with fail
          refine ret_q2 rfl rfl W.heap.size [.bool al, .string ⟨b.toArray⟩, .int .u32 a0, .int .u32 a1, .int .u32 a2, .int .u32 a3, .int .u32 a4, .int .u32 a5, .int .u32 a6, .int .u32 a7] rfl Y4.out.1 Tryz.underlying60 rfl size60 ?_
          rw [HR.out]
          exact ⟨[.bool al, .string ⟨b.toArray⟩, .int .u32 a0, .int .u32 a1, .int .u32 a2, .int .u32 a3, .int .u32 a4, .int .u32 a5, .int .u32 a6, .int .u32 a7], false, rfl, rfl, rfl, Y4.out.2.1, rfl, fun x hx => by cases hx⟩
        · have HR := hid (HF.out (fun h1 _ h3 => by first | (cases h1; done) | (cases h3; done)))
          clear HN HF
          refine wp_region_held_drew (S := fun w => Cel w g6 26 [.int .u32 a0, .int .u32 a1, .int .u32 a2, .int .u32 a3, .int .u32 a4, .int .u32 a5, .int .u32 a6, .int .u32 a7] ∧ Below W.heap.size W w) (by kernel_rfl) ⟨Y3.out.2.2, Y3.out.1⟩ (fun hHeld => ?_)
          generalize World.drew _ = w3 at *
          refine tk 0 ⟨some 33, .move (.tmp 4), 4, "ref.go:118", #[], none⟩ (.bool al) ?_
          simp only [Act.put, List.setIfInBounds_toArray, List.set_cons_zero, List.set_cons_succ]
          refine tk 1 ⟨some 34, .move (.tmp 0), 52, "ref.go:118", #[], none⟩ (.slice (some ⟨gb, off, none⟩) 3 c) ?_
          simp only [Act.put, List.setIfInBounds_toArray, List.set_cons_zero, List.set_cons_succ]
          refine tk 2 ⟨some 35, .indexAddr 52 (.tmp 34) (.const (.int .i64 1)), 0, "ref.go:118", #[⟨1, .data⟩], none⟩ (.pointer (some ⟨gb, off + 1, none⟩)) ?_
          simp only [Act.put, List.setIfInBounds_toArray, List.set_cons_zero, List.set_cons_succ]
          refine tk 3 ⟨some 36, .load 9 (.tmp 35), 9, "ref.go:118", #[⟨2, .data⟩], none⟩ (.string ⟨b.toArray⟩) ?_ (hy := Or.inl ⟨by rfl, by intro w hSw; have y0 := (HC.out _ hSw.2).2.1; go_simp⟩)
          simp only [Act.put, List.setIfInBounds_toArray, List.set_cons_zero, List.set_cons_succ]
          refine tk 4 ⟨some 37, .load 26 (.tmp 6), 26, "ref.go:118", #[], none⟩ (.agg #[.int .u32 a0, .int .u32 a1, .int .u32 a2, .int .u32 a3, .int .u32 a4, .int .u32 a5, .int .u32 a6, .int .u32 a7]) ?_ (hy := yieldsIf_load_mid (by rfl) _ _ rfl _ _ rfl _ _ (fun w hSw => cel_range hSw.1) Tryz.underlying26 rfl size26)
          simp only [Act.put, List.setIfInBounds_toArray, List.set_cons_zero, List.set_cons_succ]
          refine tk 5 ⟨some 38, .build 60 #[(0, .tmp 33), (1, .tmp 36), (2, .tmp 37)], 60, "ref.go:118", #[⟨0, .data⟩, ⟨3, .data⟩, ⟨4, .data⟩], none⟩ (.agg #[.bool al, .string ⟨b.toArray⟩, .int .u32 a0, .int .u32 a1, .int .u32 a2, .int .u32 a3, .int .u32 a4, .int .u32 a5, .int .u32 a6, .int .u32 a7]) ?_ (hy := Or.inl ⟨by rfl, by intro w hSw; have hbu := run_build (P := Tryz.prog) w 60 _ _ (built60 al ⟨b.toArray⟩ a0 a1 a2 a3 a4 a5 a6 a7); go_simp⟩)
          simp only [Act.put, List.setIfInBounds_toArray, List.set_cons_zero, List.set_cons_succ]
          refine tk 6 ⟨some 39, .move (.tmp 5), 4, "ref.go:118", #[], none⟩ (.bool false) ?_
          simp only [Act.put, List.setIfInBounds_toArray, List.set_cons_zero, List.set_cons_succ]
          refine tk 7 ⟨some 40, .move (.tmp 39), 4, "ref.go:118", #[⟨6, .data⟩], none⟩ (.bool false) ?_
          simp only [Act.put, List.setIfInBounds_toArray, List.set_cons_zero, List.set_cons_succ]
          refine tk 8 ⟨some 41, .move (.tmp 7), 4, "ref.go:118", #[⟨7, .guard⟩, { on := 10, ground := .gcOnly Departure.lateStores }], some (7, true)⟩ undef ?_ (hy := Or.inr ⟨by rfl, rfl⟩)
          simp only [Act.put, List.setIfInBounds_toArray, List.set_cons_zero, List.set_cons_succ]
          refine tk 9 ⟨some 42, .pick (.tmp 40) (.tmp 41) (.const (.bool false)), 4, "ref.go:118", #[⟨7, .data⟩, ⟨8, .data⟩, { on := 10, ground := .gcOnly Departure.lateStores }], none⟩ (.bool false) ?_
          simp only [Act.put, List.setIfInBounds_toArray, List.set_cons_zero, List.set_cons_succ]
          refine wpAnyH_ready (rs := [10]) (by kernel_rfl) (by simp) (AllReadyH.cons (o := ⟨none, .store 60 (.tmp 2) (.tmp 38), 0, "ref.go:118", #[⟨5, .data⟩, ⟨7, .chain⟩, ⟨0, .phase⟩, ⟨1, .phase⟩, ⟨2, .phase⟩, ⟨3, .phase⟩, ⟨4, .phase⟩, ⟨5, .phase⟩, { on := 6, ground := .textOnly Departure.lateStores }, { on := 7, ground := .textOnly Departure.lateStores }, { on := 8, ground := .textOnly Departure.lateStores }, { on := 9, ground := .textOnly Departure.lateStores }], none⟩) rfl (fun KQ hK => ?_) AllReadyH.nil)
          rw [if_pos (by rfl)]
          refine wp_store_st 60 _ _ rfl W.heap.size [.bool al, .string ⟨b.toArray⟩, .int .u32 a0, .int .u32 a1, .int .u32 a2, .int .u32 a3, .int .u32 a4, .int .u32 a5, .int .u32 a6, .int .u32 a7] rfl rfl Y3.out.2.1 size60 rfl rfl ?_
          intro w5 hc hb hs
          have Y4 : Hid (Cel w5 W.heap.size 60 [.bool al, .string ⟨b.toArray⟩, .int .u32 a0, .int .u32 a1, .int .u32 a2, .int .u32 a3, .int .u32 a4, .int .u32 a5, .int .u32 a6, .int .u32 a7] ∧ Below W.heap.size W w5 ∧ Cel w5 g6 26 [.int .u32 a0, .int .u32 a1, .int .u32 a2, .int .u32 a3, .int .u32 a4, .int .u32 a5, .int .u32 a6, .int .u32 a7]) := hid ⟨hc, Y3.out.1.trans (hb.below (Nat.le_refl _) Y3.out.1.size), Y3.out.2.2.but hb HG.out⟩
          clear hc hb hs Y3
          refine hK.out _ _ ⟨Y4.out.2.2, Y4.out.2.1⟩ (fun hHeld => ?_)
          clear hK KQ
          try simp only [Act.put]
          refine wpAnyH_ready (rs := [11]) (by kernel_rfl) (by simp) (AllReadyH.cons (o := ⟨some 3, .assign (.tmp 42), 4, "ref.go:118", #[⟨9, .data⟩, ⟨10, .chain⟩, ⟨0, .phase⟩, ⟨1, .phase⟩, ⟨2, .phase⟩, ⟨3, .phase⟩, ⟨4, .phase⟩, ⟨5, .phase⟩, ⟨6, .phase⟩, ⟨7, .phase⟩, ⟨8, .phase⟩, ⟨9, .phase⟩, ⟨10, .phase⟩], none⟩) rfl (fun KQ hK => ?_) AllReadyH.nil)
          go_simp
          refine hK.out _ _ ⟨Y4.out.2.2, Y4.out.2.1⟩ (fun hHeld => ?_)
          clear hK KQ
          try simp only [Act.put, List.setIfInBounds_toArray, List.set_cons_zero, List.set_cons_succ]
          refine wpAnyH_done (by kernel_rfl) ?_ _
          go_wp2_with fail
          refine ret_q2 rfl rfl W.heap.size [.bool al, .string ⟨b.toArray⟩, .int .u32 a0, .int .u32 a1, .int .u32 a2, .int .u32 a3, .int .u32 a4, .int .u32 a5, .int .u32 a6, .int .u32 a7] rfl Y4.out.1 Tryz.underlying60 rfl size60 ?_
          rw [HR.out]
          exact ⟨[.bool al, .string ⟨b.toArray⟩, .int .u32 a0, .int .u32 a1, .int .u32 a2, .int .u32 a3, .int .u32 a4, .int .u32 a5, .int .u32 a6, .int .u32 a7], false, rfl, rfl, rfl, Y4.out.2.1, rfl, fun x hx => by cases hx⟩
      · cases o8
        · have HR := hid (HF.out (fun h1 _ h3 => by first | (cases h1; done) | (cases h3; done)))
          clear HN HF
          refine wp_region_held_drew (S := fun w => Cel w g6 26 [.int .u32 a0, .int .u32 a1, .int .u32 a2, .int .u32 a3, .int .u32 a4, .int .u32 a5, .int .u32 a6, .int .u32 a7] ∧ Below W.heap.size W w) (by kernel_rfl) ⟨Y3.out.2.2, Y3.out.1⟩ (fun hHeld => ?_)
          generalize World.drew _ = w3 at *
          refine tk 0 ⟨some 33, .move (.tmp 4), 4, "ref.go:118", #[], none⟩ (.bool al) ?_
          simp only [Act.put, List.setIfInBounds_toArray, List.set_cons_zero, List.set_cons_succ]
          refine tk 1 ⟨some 34, .move (.tmp 0), 52, "ref.go:118", #[], none⟩ (.slice (some ⟨gb, off, none⟩) 3 c) ?_
          simp only [Act.put, List.setIfInBounds_toArray, List.set_cons_zero, List.set_cons_succ]
          refine tk 2 ⟨some 35, .indexAddr 52 (.tmp 34) (.const (.int .i64 1)), 0, "ref.go:118", #[⟨1, .data⟩], none⟩ (.pointer (some ⟨gb, off + 1, none⟩)) ?_
          simp only [Act.put, List.setIfInBounds_toArray, List.set_cons_zero, List.set_cons_succ]
          refine tk 3 ⟨some 36, .load 9 (.tmp 35), 9, "ref.go:118", #[⟨2, .data⟩], none⟩ (.string ⟨b.toArray⟩) ?_ (hy := Or.inl ⟨by rfl, by intro w hSw; have y0 := (HC.out _ hSw.2).2.1; go_simp⟩)
          simp only [Act.put, List.setIfInBounds_toArray, List.set_cons_zero, List.set_cons_succ]
          refine tk 4 ⟨some 37, .load 26 (.tmp 6), 26, "ref.go:118", #[], none⟩ (.agg #[.int .u32 a0, .int .u32 a1, .int .u32 a2, .int .u32 a3, .int .u32 a4, .int .u32 a5, .int .u32 a6, .int .u32 a7]) ?_ (hy := yieldsIf_load_mid (by rfl) _ _ rfl _ _ rfl _ _ (fun w hSw => cel_range hSw.1) Tryz.underlying26 rfl size26)
          simp only [Act.put, List.setIfInBounds_toArray, List.set_cons_zero, List.set_cons_succ]
          refine tk 5 ⟨some 38, .build 60 #[(0, .tmp 33), (1, .tmp 36), (2, .tmp 37)], 60, "ref.go:118", #[⟨0, .data⟩, ⟨3, .data⟩, ⟨4, .data⟩], none⟩ (.agg #[.bool al, .string ⟨b.toArray⟩, .int .u32 a0, .int .u32 a1, .int .u32 a2, .int .u32 a3, .int .u32 a4, .int .u32 a5, .int .u32 a6, .int .u32 a7]) ?_ (hy := Or.inl ⟨by rfl, by intro w hSw; have hbu := run_build (P := Tryz.prog) w 60 _ _ (built60 al ⟨b.toArray⟩ a0 a1 a2 a3 a4 a5 a6 a7); go_simp⟩)
          simp only [Act.put, List.setIfInBounds_toArray, List.set_cons_zero, List.set_cons_succ]
          refine tk 6 ⟨some 39, .move (.tmp 5), 4, "ref.go:118", #[], none⟩ (.bool true) ?_
          simp only [Act.put, List.setIfInBounds_toArray, List.set_cons_zero, List.set_cons_succ]
          refine tk 7 ⟨some 40, .move (.tmp 39), 4, "ref.go:118", #[⟨6, .data⟩], none⟩ (.bool true) ?_
          simp only [Act.put, List.setIfInBounds_toArray, List.set_cons_zero, List.set_cons_succ]
          refine tk 8 ⟨some 41, .move (.tmp 7), 4, "ref.go:118", #[⟨7, .guard⟩, { on := 10, ground := .gcOnly Departure.lateStores }], some (7, true)⟩ (.bool false) ?_
          simp only [Act.put, List.setIfInBounds_toArray, List.set_cons_zero, List.set_cons_succ]
          refine tk 9 ⟨some 42, .pick (.tmp 40) (.tmp 41) (.const (.bool false)), 4, "ref.go:118", #[⟨7, .data⟩, ⟨8, .data⟩, { on := 10, ground := .gcOnly Departure.lateStores }], none⟩ (.bool false) ?_
          simp only [Act.put, List.setIfInBounds_toArray, List.set_cons_zero, List.set_cons_succ]
          refine wpAnyH_ready (rs := [10]) (by kernel_rfl) (by simp) (AllReadyH.cons (o := ⟨none, .store 60 (.tmp 2) (.tmp 38), 0, "ref.go:118", #[⟨5, .data⟩, ⟨7, .chain⟩, ⟨0, .phase⟩, ⟨1, .phase⟩, ⟨2, .phase⟩, ⟨3, .phase⟩, ⟨4, .phase⟩, ⟨5, .phase⟩, { on := 6, ground := .textOnly Departure.lateStores }, { on := 7, ground := .textOnly Departure.lateStores }, { on := 8, ground := .textOnly Departure.lateStores }, { on := 9, ground := .textOnly Departure.lateStores }], none⟩) rfl (fun KQ hK => ?_) AllReadyH.nil)
          rw [if_pos (by rfl)]
          refine wp_store_st 60 _ _ rfl W.heap.size [.bool al, .string ⟨b.toArray⟩, .int .u32 a0, .int .u32 a1, .int .u32 a2, .int .u32 a3, .int .u32 a4, .int .u32 a5, .int .u32 a6, .int .u32 a7] rfl rfl Y3.out.2.1 size60 rfl rfl ?_
          intro w5 hc hb hs
          have Y4 : Hid (Cel w5 W.heap.size 60 [.bool al, .string ⟨b.toArray⟩, .int .u32 a0, .int .u32 a1, .int .u32 a2, .int .u32 a3, .int .u32 a4, .int .u32 a5, .int .u32 a6, .int .u32 a7] ∧ Below W.heap.size W w5 ∧ Cel w5 g6 26 [.int .u32 a0, .int .u32 a1, .int .u32 a2, .int .u32 a3, .int .u32 a4, .int .u32 a5, .int .u32 a6, .int .u32 a7]) := hid ⟨hc, Y3.out.1.trans (hb.below (Nat.le_refl _) Y3.out.1.size), Y3.out.2.2.but hb HG.out⟩
          clear hc hb hs Y3
          refine hK.out _ _ ⟨Y4.out.2.2, Y4.out.2.1⟩ (fun hHeld => ?_)
          clear hK KQ
          try simp only [Act.put]
          refine wpAnyH_ready (rs := [11]) (by kernel_rfl) (by simp) (AllReadyH.cons (o := ⟨some 3, .assign (.tmp 42), 4, "ref.go:118", #[⟨9, .data⟩, ⟨10, .chain⟩, ⟨0, .phase⟩, ⟨1, .phase⟩, ⟨2, .phase⟩, ⟨3, .phase⟩, ⟨4, .phase⟩, ⟨5, .phase⟩, ⟨6, .phase⟩, ⟨7, .phase⟩, ⟨8, .phase⟩, ⟨9, .phase⟩, ⟨10, .phase⟩], none⟩) rfl (fun KQ hK => ?_) AllReadyH.nil)
          go_simp
          refine hK.out _ _ ⟨Y4.out.2.2, Y4.out.2.1⟩ (fun hHeld => ?_)
          clear hK KQ
          try simp only [Act.put, List.setIfInBounds_toArray, List.set_cons_zero, List.set_cons_succ]
          refine wpAnyH_done (by kernel_rfl) ?_ _
          go_wp2_with fail
          refine ret_q2 rfl rfl W.heap.size [.bool al, .string ⟨b.toArray⟩, .int .u32 a0, .int .u32 a1, .int .u32 a2, .int .u32 a3, .int .u32 a4, .int .u32 a5, .int .u32 a6, .int .u32 a7] rfl Y4.out.1 Tryz.underlying60 rfl size60 ?_
          rw [HR.out]
          exact ⟨[.bool al, .string ⟨b.toArray⟩, .int .u32 a0, .int .u32 a1, .int .u32 a2, .int .u32 a3, .int .u32 a4, .int .u32 a5, .int .u32 a6, .int .u32 a7], false, rfl, rfl, rfl, Y4.out.2.1, rfl, fun x hx => by cases hx⟩
        · have HR := hid (HN.out (by trivial) (by trivial) (by trivial))
          clear HN HF
          refine wp_region_held_drew (S := fun w => Cel w g6 26 [.int .u32 a0, .int .u32 a1, .int .u32 a2, .int .u32 a3, .int .u32 a4, .int .u32 a5, .int .u32 a6, .int .u32 a7] ∧ Below W.heap.size W w) (by kernel_rfl) ⟨Y3.out.2.2, Y3.out.1⟩ (fun hHeld => ?_)
          generalize World.drew _ = w3 at *
          refine tk 0 ⟨some 33, .move (.tmp 4), 4, "ref.go:118", #[], none⟩ (.bool al) ?_
          simp only [Act.put, List.setIfInBounds_toArray, List.set_cons_zero, List.set_cons_succ]
          refine tk 1 ⟨some 34, .move (.tmp 0), 52, "ref.go:118", #[], none⟩ (.slice (some ⟨gb, off, none⟩) 3 c) ?_
          simp only [Act.put, List.setIfInBounds_toArray, List.set_cons_zero, List.set_cons_succ]
          refine tk 2 ⟨some 35, .indexAddr 52 (.tmp 34) (.const (.int .i64 1)), 0, "ref.go:118", #[⟨1, .data⟩], none⟩ (.pointer (some ⟨gb, off + 1, none⟩)) ?_
          simp only [Act.put, List.setIfInBounds_toArray, List.set_cons_zero, List.set_cons_succ]
          refine tk 3 ⟨some 36, .load 9 (.tmp 35), 9, "ref.go:118", #[⟨2, .data⟩], none⟩ (.string ⟨b.toArray⟩) ?_ (hy := Or.inl ⟨by rfl, by intro w hSw; have y0 := (HC.out _ hSw.2).2.1; go_simp⟩)
          simp only [Act.put, List.setIfInBounds_toArray, List.set_cons_zero, List.set_cons_succ]
          refine tk 4 ⟨some 37, .load 26 (.tmp 6), 26, "ref.go:118", #[], none⟩ (.agg #[.int .u32 a0, .int .u32 a1, .int .u32 a2, .int .u32 a3, .int .u32 a4, .int .u32 a5, .int .u32 a6, .int .u32 a7]) ?_ (hy := yieldsIf_load_mid (by rfl) _ _ rfl _ _ rfl _ _ (fun w hSw => cel_range hSw.1) Tryz.underlying26 rfl size26)
          simp only [Act.put, List.setIfInBounds_toArray, List.set_cons_zero, List.set_cons_succ]
          refine tk 5 ⟨some 38, .build 60 #[(0, .tmp 33), (1, .tmp 36), (2, .tmp 37)], 60, "ref.go:118", #[⟨0, .data⟩, ⟨3, .data⟩, ⟨4, .data⟩], none⟩ (.agg #[.bool al, .string ⟨b.toArray⟩, .int .u32 a0, .int .u32 a1, .int .u32 a2, .int .u32 a3, .int .u32 a4, .int .u32 a5, .int .u32 a6, .int .u32 a7]) ?_ (hy := Or.inl ⟨by rfl, by intro w hSw; have hbu := run_build (P := Tryz.prog) w 60 _ _ (built60 al ⟨b.toArray⟩ a0 a1 a2 a3 a4 a5 a6 a7); go_simp⟩)
          simp only [Act.put, List.setIfInBounds_toArray, List.set_cons_zero, List.set_cons_succ]
          refine tk 6 ⟨some 39, .move (.tmp 5), 4, "ref.go:118", #[], none⟩ (.bool true) ?_
          simp only [Act.put, List.setIfInBounds_toArray, List.set_cons_zero, List.set_cons_succ]
          refine tk 7 ⟨some 40, .move (.tmp 39), 4, "ref.go:118", #[⟨6, .data⟩], none⟩ (.bool true) ?_
          simp only [Act.put, List.setIfInBounds_toArray, List.set_cons_zero, List.set_cons_succ]
          refine tk 8 ⟨some 41, .move (.tmp 7), 4, "ref.go:118", #[⟨7, .guard⟩, { on := 10, ground := .gcOnly Departure.lateStores }], some (7, true)⟩ (.bool true) ?_
          simp only [Act.put, List.setIfInBounds_toArray, List.set_cons_zero, List.set_cons_succ]
          refine tk 9 ⟨some 42, .pick (.tmp 40) (.tmp 41) (.const (.bool false)), 4, "ref.go:118", #[⟨7, .data⟩, ⟨8, .data⟩, { on := 10, ground := .gcOnly Departure.lateStores }], none⟩ (.bool true) ?_
          simp only [Act.put, List.setIfInBounds_toArray, List.set_cons_zero, List.set_cons_succ]
          refine wpAnyH_ready (rs := [10]) (by kernel_rfl) (by simp) (AllReadyH.cons (o := ⟨none, .store 60 (.tmp 2) (.tmp 38), 0, "ref.go:118", #[⟨5, .data⟩, ⟨7, .chain⟩, ⟨0, .phase⟩, ⟨1, .phase⟩, ⟨2, .phase⟩, ⟨3, .phase⟩, ⟨4, .phase⟩, ⟨5, .phase⟩, { on := 6, ground := .textOnly Departure.lateStores }, { on := 7, ground := .textOnly Departure.lateStores }, { on := 8, ground := .textOnly Departure.lateStores }, { on := 9, ground := .textOnly Departure.lateStores }], none⟩) rfl (fun KQ hK => ?_) AllReadyH.nil)
          rw [if_pos (by rfl)]
          refine wp_store_st 60 _ _ rfl W.heap.size [.bool al, .string ⟨b.toArray⟩, .int .u32 a0, .int .u32 a1, .int .u32 a2, .int .u32 a3, .int .u32 a4, .int .u32 a5, .int .u32 a6, .int .u32 a7] rfl rfl Y3.out.2.1 size60 rfl rfl ?_
          intro w5 hc hb hs
          have Y4 : Hid (Cel w5 W.heap.size 60 [.bool al, .string ⟨b.toArray⟩, .int .u32 a0, .int .u32 a1, .int .u32 a2, .int .u32 a3, .int .u32 a4, .int .u32 a5, .int .u32 a6, .int .u32 a7] ∧ Below W.heap.size W w5 ∧ Cel w5 g6 26 [.int .u32 a0, .int .u32 a1, .int .u32 a2, .int .u32 a3, .int .u32 a4, .int .u32 a5, .int .u32 a6, .int .u32 a7]) := hid ⟨hc, Y3.out.1.trans (hb.below (Nat.le_refl _) Y3.out.1.size), Y3.out.2.2.but hb HG.out⟩
          clear hc hb hs Y3
          refine hK.out _ _ ⟨Y4.out.2.2, Y4.out.2.1⟩ (fun hHeld => ?_)
          clear hK KQ
          try simp only [Act.put]
          refine wpAnyH_ready (rs := [11]) (by kernel_rfl) (by simp) (AllReadyH.cons (o := ⟨some 3, .assign (.tmp 42), 4, "ref.go:118", #[⟨9, .data⟩, ⟨10, .chain⟩, ⟨0, .phase⟩, ⟨1, .phase⟩, ⟨2, .phase⟩, ⟨3, .phase⟩, ⟨4, .phase⟩, ⟨5, .phase⟩, ⟨6, .phase⟩, ⟨7, .phase⟩, ⟨8, .phase⟩, ⟨9, .phase⟩, ⟨10, .phase⟩], none⟩) rfl (fun KQ hK => ?_) AllReadyH.nil)
          go_simp
          refine hK.out _ _ ⟨Y4.out.2.2, Y4.out.2.1⟩ (fun hHeld => ?_)
          clear hK KQ
          try simp only [Act.put, List.setIfInBounds_toArray, List.set_cons_zero, List.set_cons_succ]
          refine wpAnyH_done (by kernel_rfl) ?_ _
          go_wp2_with fail
          refine ret_q2 rfl rfl W.heap.size [.bool al, .string ⟨b.toArray⟩, .int .u32 a0, .int .u32 a1, .int .u32 a2, .int .u32 a3, .int .u32 a4, .int .u32 a5, .int .u32 a6, .int .u32 a7] rfl Y4.out.1 Tryz.underlying60 rfl size60 ?_
          rw [HR.out]
          exact ⟨[.bool al, .string ⟨b.toArray⟩, .int .u32 a0, .int .u32 a1, .int .u32 a2, .int .u32 a3, .int .u32 a4, .int .u32 a5, .int .u32 a6, .int .u32 a7], true, rfl, rfl, rfl, Y4.out.2.1, rfl, fun x hx => by cases hx; rfl⟩
end Go.Proofs.YtbpdmkohihgnjaaGreatDoor
