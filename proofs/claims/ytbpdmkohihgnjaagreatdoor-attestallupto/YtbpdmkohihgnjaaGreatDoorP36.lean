import Derived.Test.YtbpdmkohihgnjaaGreatDoorP35
import Derived.Test.YtbpdmkohihgnjaaGreatDoorP22
import Derived.Test.YtbpdmkohihgnjaaGreatDoorP23
import Derived.Test.YtbpdmkohihgnjaaGreatDoorP04
namespace Go.Proofs.YtbpdmkohihgnjaaGreatDoor.L
open Go.RowKit
theorem Tryz.info79 : (Tryz.prog.info? 79).map (fun i => (i.zero, i.size, i.bytes)) = some (some (.agg #[.string ⟨#[]⟩, .bool false, .int .i64 0]), 3, 32) := by kernel_rfl
structure HR (W wr : World) (v : Value) (ws : List T.Wd) : Prop where
  own : wr.ownsRow W.heap.size 79 3 v ws.length (wdsC ws)
  below : Below W.heap.size W wr
theorem HR.start (W : World) : HR W W (.slice none 0 0) [] := ⟨World.ownsRow_nil W _ 79 3, Below.refl _ _⟩
theorem HR.alloc {W wr : World} {v : Value} {l : List T.Wd} (h : HR W wr v l) (o : Obj) : HR W (wr.alloc o) v l := ⟨h.own.alloc o, h.below.alloc h.below.size o⟩
theorem HR.on {W wr w : World} {v : Value} {l : List T.Wd} (h : HR W wr v l) (hb : Below wr.heap.size wr w) : HR W w v l := ⟨own_below h.own hb, h.below.trans (hb.mono h.below.size)⟩
theorem wpList_append_rwords {P : Program} {W w : World} {ops : Array Oper} {rest : List Oper} {o : Oper} {a : Act} {Q : Exit → Act → World → Prop} (hgd : o.guard = none) (s x : Operand) (t : TypeId)
    (ho : o.op = .call { callee := .builtin .append, args := #[s, x], argTypes := #[t, t] }) (i : TypeInfo) (ht : P.underlying t = some (.slice 79)) (hi : P.info? 79 = some i) (hz : i.zero = some (.agg #[.string ⟨#[]⟩, .bool false, .int .i64 0])) (hsize : i.size = 3) (hby : i.bytes = 32)
    (v : Value) (l : List T.Wd) (hs : a.eval s = v) (H : HR W w v l) (ad : Addr) (c : Nat) (m : T.Wd) (hx : a.eval x = .slice (some ad) 1 c) (hc : ∀ j u, (wdC m)[j]? = some u → w.cell? (ad.add j) = some u) (h63 : l.length ≤ 1000000000)
    (h : ∀ v' w', HR W w' v' (l ++ [m]) → wpList P ops Q rest (a.put o.dst v') w') : wpList P ops Q (o :: rest) a w := by
  obtain ⟨v', w', hr, h1, h2, _⟩ := run_append_own (P := P) w W.heap.size t o.type 79 i _ 3 32 ht hi hz hsize hby rfl (by decide) v l.length _ H.own ad 1 c (wdC m) rfl hc (by simp [wdC, Value.oneCell']) (by unfold maxLen; omega) (by omega) H.below.size
  refine wpList_plain hgd fun K hK => ?_
  unfold Oper.wp execOp
  simp only [ho, resolve, invoke, builtin, Sem.run_bind, Sem.run_pure, Result.andThen_ok, List.map_toArray, List.map_cons, List.map_nil, hs, hx, hr]
  refine hK _ _ (h _ _ ⟨?_, H.below.grown h2 H.below.size fun g hg => (H.own.lt g hg).1⟩)
  rw [wdsC_append, List.length_append]
  simpa [wdsC] using h1

theorem HB.old {W X w : World} {v : Value} {l : List UInt8} (h : HB X w v l) (hb : Below W.heap.size W X) : HB W w v l := ⟨own_mono h.own hb.size, hb.trans (h.below.mono hb.size)⟩
def RwPost (W : World) (r : Nat ⊕ List T.Wd) (e : Ending) (W' : World) : Prop :=
  match r with
  | .inl x => e = .returned (.tuple #[.slice none 0 0, .int .i64 ((x + 1 : Nat) : Int), .int .i64 40]) ∧ Below W.heap.size W W'
  | .inr ws => ∃ v, e = .returned (.tuple #[v, .int .i64 0, .int .i64 0]) ∧ HR W W' v ws
theorem RwPost.bad {W W' : World} {x : Nat} {p : Int} {r : Nat ⊕ List T.Wd} (hr : r = .inl x) (hp : p = ((x + 1 : Nat) : Int)) (hb : Below W.heap.size W W') : RwPost W r (.returned (.tuple #[.slice none 0 0, .int .i64 p, .int .i64 40])) W' := by
  subst hr hp; exact ⟨rfl, hb⟩
theorem RwPost.good {W W' : World} {r : Nat ⊕ List T.Wd} {ws : List T.Wd} {v : Value} (hr : r = .inr ws) (hb : HR W W' v ws) : RwPost W r (.returned (.tuple #[v, .int .i64 0, .int .i64 0])) W' := by
  subst hr; exact ⟨_, rfl, hb⟩

set_option maxRecDepth 20000 in
set_option maxHeartbeats 4000000 in
theorem rwords_any (W : World) (s : ByteArray) (hs : s.size ≤ 1000000000) :
    Calls Tryz.prog 26 #[.string s] W fun e W' => RwPost W (T.words s.data.toList) e W' := by
  obtain ⟨i0, hi, hz0, hz1, hz2⟩ := info_parts Tryz.info79
  generalize hr0 : T.words s.data.toList = r0
  have b2 : (s.size : Int) ≤ 1000000000 := by omega
  have HR0 : Hid (T.rd (s.data.toList.drop 0) 0 = r0) := hr0
  clear hr0
  go_enter Tryz.func26, Tryz.ntmps26
  go_wp2_with fail
  go_loopw [5, 6] (fun v i wr => ∃ (p : Nat) (ws : List T.Wd), p ≤ s.size ∧ i = .int .i64 p ∧ ws.length ≤ p ∧ HR W wr v ws ∧ Hid (r0 = T.pre ws (T.rd (s.data.toList.drop p) p))) (fun _ i _ => s.size - (intOf i).toNat)
  case atStart => exact ⟨0, [], Nat.zero_le _, rfl, Nat.zero_le _, HR.start W, hid (by rw [T.pre_nil]; exact HR0.out.symm)⟩
  case round =>
    clear HR0
    obtain ⟨p, ws, hp, rfl, hws, F, R⟩ := hrel
    have HP : Hid (p ≤ s.size ∧ ws.length ≤ p) := ⟨hp, hws⟩
    have HF : Hid (HR W wr u5 ws) := F
    have c0 : (p : Int) ≤ (s.size : Int) := by omega
    clear hp hws F
    go_wp2_with fail
    go_loopw [6] (fun i wx => ∃ q : Nat, p ≤ q ∧ q ≤ s.size ∧ i = .int .i64 q ∧ Hid (r0 = T.pre ws (T.rd (s.data.toList.drop q) q)) ∧ wr = wx) (fun i _ => s.size - (intOf i).toNat)
    case atStart => exact ⟨p, Nat.le_refl _, HP.out.1, rfl, R, rfl⟩
    case round =>
      clear R
      obtain ⟨q, hq1, hq2, rfl, R, rfl⟩ := hrel
      have HQ : Hid (p ≤ q ∧ q ≤ s.size) := ⟨hq1, hq2⟩
      have c1 : (q : Int) ≤ (s.size : Int) := by omega
      by_cases hlt : q < s.size
      · have c2 : (q : Int) < (s.size : Int) := by omega
        have hd := drop_get s q hlt
        clear hq1 hq2
        cases hg : T.isGap s[q] with
        | true =>
          have H : Hid (r0 = T.pre ws (T.rd (s.data.toList.drop (q + 1)) (q + 1))) := hid (by have := R.out; rw [hd, T.rd_gap _ _ hg] at this; exact this)
          clear R hd
          go_wp2_with (go_at_call 53; refine (rparts_any _ _).mono ?_; rintro e w' ⟨rfl, rfl⟩)
          go_roundw
          case measure => simp [intOf]; omega
          case rel => exact ⟨q + 1, by have := HQ.out; omega, by omega, by go_num, H, trivial⟩
        | false =>
          by_cases h35 : s[q].toNat = 35
          · have e35 : ((s[q].toNat : Int) == 35) = true := by rw [h35]; rfl
            have H : Hid (r0 = .inr ws) := hid (by have := R.out; rw [hd, T.rd_hash _ _ hg h35] at this; simpa [T.pre] using this)
            clear R hd h35
            go_wp2_with (go_at_call 53; refine (rparts_any _ _).mono ?_; rintro e w' ⟨rfl, rfl⟩)
            go_ret3
            exact RwPost.good H.out HF.out
          · have e35 : ((s[q].toNat : Int) == 35) = false := by simp; omega
            by_cases h34 : s[q].toNat = 34
            · have e34 : ((s[q].toNat : Int) == 34) = true := by rw [h34]; rfl
              have HC := hid (rquoted_any wr s q hs hlt)
              cases hu : T.unq (s.data.toList.drop (q + 1)) with
              | inl x =>
                have H : Hid (r0 = .inl (q + 1 + x)) := hid (by have := R.out; rw [hd, T.rd_bad _ _ x hg h34 hu] at this; exact this)
                rw [hu] at HC
                have HC2 : Hid (Calls Tryz.prog 54 #[.string s, .int .i64 (q : Int)] wr fun e W' => e = .returned (.tuple #[.slice none 0 0, .int .i64 ((q + 1 + x : Nat) : Int), .bool false]) ∧ Below wr.heap.size wr W') := HC
                have hle := T.unq_le (s.data.toList.drop (q + 1))
                rw [hu, List.length_drop, size_list] at hle
                obtain ⟨E, hE⟩ : ∃ E : Int, ((q + 1 + x : Nat) : Int) = E := ⟨_, rfl⟩
                rw [hE] at HC2
                have HEE : Hid (E = ((q + 1 + x : Nat) : Int)) := hE.symm
                have E0 : 0 ≤ E := by omega
                have E1 : E ≤ (s.size : Int) := by have : x ≤ s.size - (q + 1) := hle; omega
                clear R hd h35 h34 hu HC hle hE
                go_wp2_with (first | (go_at_call 53; refine (rparts_any _ _).mono ?_; rintro e w' ⟨rfl, rfl⟩) | (go_at_call 54; refine HC2.out.mono ?_; rintro e w1 ⟨rfl, hb1⟩))
                go_ret3
                exact RwPost.bad H.out (by rw [HEE.out]; omega) (HF.out.below.trans (hb1.mono HF.out.below.size))
              | inr bn =>
                obtain ⟨b, n⟩ := bn
                rw [hu] at HC
                have HC2 : Hid (Calls Tryz.prog 54 #[.string s, .int .i64 (q : Int)] wr fun e W' => ∃ v, e = .returned (.tuple #[v, .int .i64 ((q + 1 + n : Nat) : Int), .bool true]) ∧ HB wr W' v b) := HC
                have hle := T.unq_le (s.data.toList.drop (q + 1))
                rw [hu, List.length_drop, size_list] at hle
                obtain ⟨m, hm⟩ : ∃ m, q + 1 + n = m := ⟨_, rfl⟩
                rw [hm] at HC2
                have hms : m ≤ s.size := by have : n ≤ s.size - (q + 1) := hle.1; omega
                have hdr : (s.data.toList.drop (q + 1)).drop n = s.data.toList.drop m := by rw [List.drop_drop, hm]
                have HM : Hid (q < m ∧ m ≤ s.size) := ⟨by omega, hms⟩
                have M1 : (m : Int) ≤ (s.size : Int) := by omega
                by_cases hpt : T.parted (s.data.toList.drop m) = true
                · have H : Hid (r0 = T.pre (ws ++ [⟨b, true, q + 1⟩]) (T.rd (s.data.toList.drop m) m)) := hid (by
                    have := R.out
                    rw [hd, T.rd_quoted _ b _ n hg h34 hu (by rw [hdr]; exact hpt), hdr, hm, T.pre_cons] at this
                    exact this)
                  have hcase : (m : Int) = (s.size : Int) ∨ ∃ h : m < s.size, (m : Int) < (s.size : Int) ∧ T.isGap s[m] = true := by
                    rcases Nat.lt_or_ge m s.size with h | h
                    · exact .inr ⟨h, by omega, by rw [parted_at s m h] at hpt; exact hpt⟩
                    · exact .inl (by omega)
                  clear R hd h35 h34 hu HC hle hm hdr hpt hms
                  rcases hcase with hc | ⟨hmlt, hc, hgm⟩
                  · have hc2 : decide ((m : Int) < (s.size : Int)) = false := decide_eq_false (by omega)
                    have hc3 : (s.size : Int) ≤ (m : Int) := by omega
                    clear hc
                    go_wp2_with (first | (go_at_call 53; refine (rparts_any _ _).mono ?_; rintro e w' ⟨rfl, rfl⟩) | (go_at_call 54; refine HC2.out.mono ?_; rintro e w1 ⟨v, rfl, FB⟩; obtain ⟨ao, cap, rfl, hcv⟩ := FB.conv; have HF1 : Hid (HR W w1 u5 ws) := HF.out.on FB.below) | (at_builtin; refine wpList_append_rwords rfl _ _ 75 rfl i0 Tryz.underlying75 hi hz0 hz1 hz2 _ _ rfl (HF1.out.alloc _) _ _ ⟨b, true, q + 1⟩ rfl (cells_new3 _ _ _ _ rfl) (by have := HP.out; omega) ?_; intro v2 w2 F2))
                    go_roundw
                    case measure => have := HM.out; have := HQ.out; simp [intOf]; omega
                    case rel => exact ⟨m, ws ++ [⟨b, true, q + 1⟩], HM.out.2, rfl, by have := HM.out; have := HP.out; have := HQ.out; simp; omega, F2, H⟩
                  · go_wp2_with (first | (go_at_call 53; refine (rparts_any _ _).mono ?_; rintro e w' ⟨rfl, rfl⟩) | (go_at_call 54; refine HC2.out.mono ?_; rintro e w1 ⟨v, rfl, FB⟩; obtain ⟨ao, cap, rfl, hcv⟩ := FB.conv; have HF1 : Hid (HR W w1 u5 ws) := HF.out.on FB.below) | (at_builtin; refine wpList_append_rwords rfl _ _ 75 rfl i0 Tryz.underlying75 hi hz0 hz1 hz2 _ _ rfl (HF1.out.alloc _) _ _ ⟨b, true, q + 1⟩ rfl (cells_new3 _ _ _ _ rfl) (by have := HP.out; omega) ?_; intro v2 w2 F2))
                    go_roundw
                    case measure => have := HM.out; have := HQ.out; simp [intOf]; omega
                    case rel => exact ⟨m, ws ++ [⟨b, true, q + 1⟩], HM.out.2, rfl, by have := HM.out; have := HP.out; have := HQ.out; simp; omega, F2, H⟩
                · have hpf : T.parted (s.data.toList.drop m) = false := by simpa using hpt
                  have hmlt : m < s.size := by
                    rcases Nat.lt_or_ge m s.size with h | h
                    · exact h
                    · rw [parted_end s m h] at hpf; cases hpf
                  have hgm : T.isGap s[m] = false := by rw [parted_at s m hmlt] at hpf; exact hpf
                  have H : Hid (r0 = .inl m) := hid (by
                    have := R.out
                    rw [hd, T.rd_joined _ b _ n hg h34 hu (by rw [hdr]; exact hpf), hm] at this
                    exact this)
                  have M2 : (m : Int) < (s.size : Int) := by omega
                  clear R hd h35 h34 hu HC hle hm hdr hpt hms hpf
                  go_wp2_with (first | (go_at_call 53; refine (rparts_any _ _).mono ?_; rintro e w' ⟨rfl, rfl⟩) | (go_at_call 54; refine HC2.out.mono ?_; rintro e w1 ⟨v, rfl, FB⟩))
                  go_ret3
                  exact RwPost.bad H.out (by omega) (HF.out.below.trans (FB.below.mono HF.out.below.size))
            · have e34 : ((s[q].toNat : Int) == 34) = false := by simp; omega
              have HPL : Hid (r0 = T.pre ws (T.cons ⟨(s.data.toList.drop q).take (T.plainN (s.data.toList.drop q)), false, q + 1⟩ (T.rd ((s.data.toList.drop q).drop (T.plainN (s.data.toList.drop q))) (q + T.plainN (s.data.toList.drop q))))) := hid (by
                have := R.out
                rw [hd, T.rd_plain _ _ hg h35 h34, ← hd] at this
                exact this)
              have HPOS : Hid (0 < T.plainN (s.data.toList.drop q)) := hid (by rw [hd, T.plainN_pos _ hg]; omega)
              have c5 : decide (s.size ≤ q) = false := decide_eq_false (by omega)
              clear R hd h35 h34
              go_wp2_with (go_at_call 53; refine (rparts_any _ _).mono ?_; rintro e w' ⟨rfl, rfl⟩)
              go_loopw [6] (fun i wx => ∃ m : Nat, q ≤ m ∧ m ≤ s.size ∧ i = .int .i64 m ∧ Hid (T.plainN (s.data.toList.drop q) = m - q + T.plainN (s.data.toList.drop m)) ∧ wr = wx) (fun i _ => s.size - (intOf i).toNat)
              case atStart => exact ⟨q, Nat.le_refl _, HQ.out.2, rfl, hid (by omega), rfl⟩
              case round =>
                clear hg
                obtain ⟨m, hm1, hm2, rfl, RM, rfl⟩ := hrel
                have m1 : (m : Int) ≤ (s.size : Int) := by omega
                have m0 : (q : Int) ≤ (m : Int) := by omega
                have HMM : Hid (q ≤ m ∧ m ≤ s.size) := ⟨hm1, hm2⟩
                have hfin : T.plainN (s.data.toList.drop q) = m - q → Hid (r0 = T.pre (ws ++ [⟨(s.data.toList.drop q).take (m - q), false, q + 1⟩]) (T.rd (s.data.toList.drop m) m)) := fun h => hid (by
                  have := HPL.out
                  rw [h, List.drop_drop, T.pre_cons, show q + (m - q) = m by omega] at this
                  exact this)
                have hex := extract_eq s q m
                clear hm1 hm2
                by_cases hmlt : m < s.size
                · have m2 : (m : Int) < (s.size : Int) := by omega
                  cases hg : T.isGap s[m] with
                  | false =>
                    have HN : Hid (T.plainN (s.data.toList.drop q) = m + 1 - q + T.plainN (s.data.toList.drop (m + 1))) := hid (by
                      rw [RM.out, drop_get s m hmlt, T.plainN_pos _ hg]
                      have := HMM.out
                      omega)
                    clear RM hfin hex
                    go_wp2_with (go_at_call 53; refine (rparts_any _ _).mono ?_; rintro e w' ⟨rfl, rfl⟩)
                    go_roundw
                    case measure => simp [intOf]; omega
                    case rel => exact ⟨m + 1, by have := HMM.out; omega, by omega, by go_num, HN, trivial⟩
                  | true =>
                    have hpl : T.plainN (s.data.toList.drop q) = m - q := by
                      rw [RM.out, drop_get s m hmlt]
                      simp [T.plainN, hg]
                    have H := hfin hpl
                    have HLT : Hid (q < m) := hid (by have := HPOS.out; rw [hpl] at this; omega)
                    clear RM hfin hpl
                    go_wp2_with (first | (go_at_call 53; refine (rparts_any _ _).mono ?_; rintro e w' ⟨rfl, rfl⟩) | (at_builtin; refine wpList_append_rwords rfl _ _ 75 rfl i0 Tryz.underlying75 hi hz0 hz1 hz2 _ _ rfl (HF.out.alloc _) _ _ ⟨(s.data.toList.drop q).take (m - q), false, q + 1⟩ rfl (cells_new3 _ _ _ _ rfl) (by have := HP.out; omega) ?_; intro v2 w2 F2))
                    go_roundw
                    case measure => have := HLT.out; have := HQ.out; simp [intOf]; omega
                    case rel => exact ⟨m, _, HMM.out.2, rfl, by have := HLT.out; have := HP.out; have := HQ.out; simp; omega, F2, H⟩
                · obtain rfl : m = s.size := by omega
                  have hpl : T.plainN (s.data.toList.drop q) = s.size - q := by
                    rw [RM.out, List.drop_eq_nil_of_le (by rw [size_list]; exact Nat.le_refl _)]
                    simp [T.plainN]
                  have H := hfin hpl
                  have HLT : Hid (q < s.size) := hid (by have := HPOS.out; rw [hpl] at this; omega)
                  clear RM hfin hpl hmlt
                  go_wp2_with (first | (go_at_call 53; refine (rparts_any _ _).mono ?_; rintro e w' ⟨rfl, rfl⟩) | (at_builtin; refine wpList_append_rwords rfl _ _ 75 rfl i0 Tryz.underlying75 hi hz0 hz1 hz2 _ _ rfl (HF.out.alloc _) _ _ ⟨(s.data.toList.drop q).take (s.size - q), false, q + 1⟩ rfl (cells_new3 _ _ _ _ rfl) (by have := HP.out; omega) ?_; intro v2 w2 F2))
                  go_roundw
                  case measure => have := HLT.out; have := HQ.out; simp [intOf]; omega
                  case rel => exact ⟨s.size, _, Nat.le_refl _, rfl, by have := HLT.out; have := HP.out; have := HQ.out; simp; omega, F2, H⟩
      · obtain rfl : q = s.size := by omega
        have H : Hid (r0 = .inr ws) := hid (by
          have := R.out
          rw [List.drop_eq_nil_of_le (by rw [size_list]; exact Nat.le_refl _), T.rd_nil] at this
          simpa [T.pre] using this)
        clear R hq1 hq2 hlt
        go_wp2_with (go_at_call 53; refine (rparts_any _ _).mono ?_; rintro e w' ⟨rfl, rfl⟩)
        go_ret3
        exact RwPost.good H.out HF.out
end Go.Proofs.YtbpdmkohihgnjaaGreatDoor.L
namespace Go.Proofs.YtbpdmkohihgnjaaGreatDoor.L
open Go.RowKit
def LnPost (W : World) (s : ByteArray) (e : Ending) (W' : World) : Prop :=
  if 65536 < s.size then e = .returned (.tuple #[.slice none 0 0, .int .i64 2]) ∧ Below W.heap.size W W'
  else ∃ v, e = .returned (.tuple #[v, .int .i64 0]) ∧ HV W W' 9 v (strsV (T.lines s.data.toList))
set_option maxRecDepth 20000 in
set_option maxHeartbeats 2000000 in
theorem rlines_any (W : World) (s : ByteArray)  :
    Calls Tryz.prog 16 #[.string s] W fun e W' => LnPost W s e W' := by
  obtain ⟨i0, hi, hz0, hz1, hz2⟩ := info_parts Tryz.info9
  unfold LnPost
  by_cases hb : 65536 < s.size
  · have c1 : (65536 : Int) < (s.size : Int) := by omega
    simp only [if_pos hb]
    clear hb
    go_enter Tryz.func16, Tryz.ntmps16
    go_wp2_with fail
    go_ret2
    exact ⟨rfl, Below.refl _ _⟩
  · have c1 : (s.size : Int) ≤ 65536 := by omega
    simp only [if_neg hb]
    have HSZ : Hid (s.size ≤ 65536) := hid (by omega)
    clear hb
    go_enter Tryz.func16, Tryz.ntmps16
    go_wp2_with fail
    go_loopw [4, 5, 6] (fun v f i wr => ∃ (k p : Nat) (done : List (List UInt8)), p ≤ k ∧ k ≤ s.size ∧ i = .int .i64 k ∧ f = .int .i64 p ∧ done.length ≤ p ∧ HV W wr 9 v (strsV done) ∧ Hid (T.cutL s.data.toList = done ++ T.cutL (s.data.toList.drop p) ∧ ∀ c ∈ (s.data.toList.drop p).take (k - p), c ≠ 10)) (fun _ _ i _ => s.size - (intOf i).toNat)
    case atStart => exact ⟨0, 0, [], Nat.le_refl _, Nat.zero_le _, rfl, rfl, Nat.zero_le _, HV.nil 9 (Below.refl _ _), hid ⟨by simp, by simp⟩⟩
    case round =>
      obtain ⟨k, p, done, hpk, hk, rfl, rfl, hdn, F, R⟩ := hrel
      have HF : Hid (HV W wr 9 u4 (strsV done)) := F
      have HH : Hid (p ≤ k ∧ k ≤ s.size ∧ done.length ≤ p) := ⟨hpk, hk, hdn⟩
      have d1 : (p : Int) ≤ (k : Int) := by omega
      have d2 : (k : Int) ≤ (s.size : Int) := by omega
      have HDL : Hid ((strsV done).length ≤ 1000000000) := hid (by rw [strsV_length]; have := HSZ.out; omega)
      clear F hdn
      by_cases hlt : k < s.size
      · have c2 : (k : Int) < (s.size : Int) := by omega
        have hseg : (s.data.toList.drop p).take (k + 1 - p) = (s.data.toList.drop p).take (k - p) ++ [s[k]] := by
          have hk' : k - p < (s.data.toList.drop p).length := by rw [List.length_drop, size_list]; omega
          rw [show k + 1 - p = (k - p) + 1 by omega, List.take_succ_eq_append_getElem hk']
          congr 2
          rw [List.getElem_drop]
          have e : p + (k - p) = k := by omega
          simp only [e]
          rfl
        by_cases hten : s[k].toNat = 10
        · have e10 : ((s[k].toNat : Int) == 10) = true := by rw [hten]; rfl
          have hx := extract_eq s p k
          have H : Hid (T.cutL s.data.toList = (done ++ [(s.data.toList.drop p).take (k - p)]) ++ T.cutL (s.data.toList.drop (k + 1))) := hid (by
            have h1 := R.out.1
            have hsplit : s.data.toList.drop p = (s.data.toList.drop p).take (k - p) ++ 10 :: s.data.toList.drop (k + 1) := by
              have h2 := List.take_append_drop (k + 1 - p) (s.data.toList.drop p)
              rw [hseg, List.drop_drop, show p + (k + 1 - p) = k + 1 by omega, List.append_assoc] at h2
              have e : s[k] = 10 := UInt8.toNat_inj.1 hten
              rw [e] at h2
              exact h2.symm
            conv at h1 => rhs; rw [hsplit]
            rw [T.cutL_line _ _ R.out.2] at h1
            rw [h1, List.append_assoc]
            rfl)
          clear R hseg hten hpk hk
          go_wp2_with (first | (at_builtin; refine wpList_append_one rfl _ _ 52 9 rfl i0 (.string ⟨#[]⟩) 16 Tryz.underlying52 hi hz0 hz1 hz2 rfl _ _ rfl (HF.out.alloc _) _ _ (.string ⟨((s.data.toList.drop p).take (k - p)).toArray⟩) rfl (cell_new _ _ _) rfl HDL.out (by decide) ?_; intro v2 w2 F2 _))
          go_roundw
          case measure => simp [intOf]; omega
          case rel => exact ⟨k + 1, k + 1, done ++ [(s.data.toList.drop p).take (k - p)], Nat.le_refl _, by omega, by go_num, by go_num, by have := HH.out; simp; omega, by rw [strsV_snoc]; exact F2, hid ⟨H.out, by simp⟩⟩
        · have e10 : ((s[k].toNat : Int) == 10) = false := by simp; omega
          have H : Hid (T.cutL s.data.toList = done ++ T.cutL (s.data.toList.drop p) ∧ ∀ c ∈ (s.data.toList.drop p).take (k + 1 - p), c ≠ 10) := hid ⟨R.out.1, by
            rw [hseg]
            intro c hc
            rcases List.mem_append.1 hc with h | h
            · exact R.out.2 c h
            · rw [List.mem_singleton.1 h]
              intro e
              exact hten (by rw [e]; rfl)⟩
          clear R hseg hten hpk hk
          go_wp2_with fail
          go_roundw
          case measure => simp [intOf]; omega
          case rel => exact ⟨k + 1, p, done, by have := HH.out; omega, by omega, by go_num, rfl, HH.out.2.2, HF.out, H⟩
      · obtain rfl : k = s.size := by omega
        have hfull : (s.data.toList.drop p).take (s.size - p) = s.data.toList.drop p := List.take_of_length_le (by rw [List.length_drop, size_list]; exact Nat.le_refl _)
        have hcut := R.out.1
        have hno := R.out.2
        rw [hfull] at hno
        rw [T.cutL_last _ hno] at hcut
        have hln := cut_lines _ _ _ hcut
        by_cases hps : p < s.size
        · have c3 : (p : Int) < (s.size : Int) := by omega
          have hne : s.data.toList.drop p ≠ [] := by
            intro e
            have := congrArg List.length e
            rw [List.length_drop, size_list] at this
            simp at this
            omega
          rw [if_neg hne] at hln
          have HLN : Hid (T.lines s.data.toList = done ++ [s.data.toList.drop p]) := hln
          have hx : s.extract p s.size = ⟨(s.data.toList.drop p).toArray⟩ := by rw [extract_eq, hfull]
          clear R hfull hcut hno hln hne hpk hk hlt
          go_wp2_with (first | (at_builtin; refine wpList_append_one rfl _ _ 52 9 rfl i0 (.string ⟨#[]⟩) 16 Tryz.underlying52 hi hz0 hz1 hz2 rfl _ _ rfl (HF.out.alloc _) _ _ (.string ⟨(s.data.toList.drop p).toArray⟩) rfl (cell_new _ _ _) rfl HDL.out (by decide) ?_; intro v2 w2 F2 _))
          go_ret2
          exact ⟨v2, rfl, by rw [HLN.out, strsV_snoc]; exact F2⟩
        · obtain rfl : p = s.size := by omega
          rw [if_pos (List.drop_eq_nil_of_le (by rw [size_list]; exact Nat.le_refl _))] at hln
          have HLN : Hid (T.lines s.data.toList = done) := hln
          clear R hfull hcut hno hln hpk hk hlt hps
          go_wp2_with fail
          go_ret2
          exact ⟨_, rfl, by rw [HLN.out]; exact HF.out⟩
end Go.Proofs.YtbpdmkohihgnjaaGreatDoor.L
