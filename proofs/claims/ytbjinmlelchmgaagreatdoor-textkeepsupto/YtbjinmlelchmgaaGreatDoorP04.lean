import Derived.Test.YtbjinmlelchmgaaGreatDoorP03
import Derived.WalkMore
namespace Go.Proofs.YtbjinmlelchmgaaGreatDoor
open Go.RowKit

theorem hid {p : Prop} (h : p) : Hid p := h
def brk (p : Nat) : Ending := .panicked [{ v := .iface 81 (.int .i64 (p : Int)), recovered := false }]
def UnqPost (W : World) (k : Nat) (r : Nat ⊕ (List UInt8 × Nat)) (e : Ending) (W' : World) : Prop :=
  match r with
  | .inl x => e = brk (k + 1 + x) ∧ Below W.heap.size W W'
  | .inr (b, n) => ∃ v, e = .returned (.tuple #[v, .int .i64 ((k + 1 + n : Nat) : Int)]) ∧ HB W W' v b
theorem UnqPost.bad {W W' : World} {k x p : Nat} {r : Nat ⊕ (List UInt8 × Nat)} (hr : r = .inl x) (hp : p = k + 1 + x) (hb : Below W.heap.size W W') : UnqPost W k r (.panicked [{ v := .iface 81 (.int .i64 (p : Int)), recovered := false }]) W' := by
  subst hr hp; exact ⟨rfl, hb⟩
theorem UnqPost.good {W W' : World} {k n : Nat} {p : Int} {r : Nat ⊕ (List UInt8 × Nat)} {b : List UInt8} {v : Value} (hr : r = .inr (b, n)) (hp : p = ((k + 1 + n : Nat) : Int)) (hb : HB W W' v b) : UnqPost W k r (.returned (.tuple #[v, .int .i64 p])) W' := by
  subst hr hp; exact ⟨_, rfl, hb⟩

set_option maxHeartbeats 1000000 in
theorem unquoted_any (W : World) (s : ByteArray) (k : Nat) (hs : s.size ≤ 1000000000) (hk : k < s.size) :
    Calls Tryz.prog 49 #[.string s, .int .i64 (k : Int)] W fun e W' => UnqPost W k (T.unq (s.data.toList.drop (k + 1))) e W' := by
  obtain ⟨i0, hi, hz0, hz1, hz2⟩ := info_parts Tryz.info5
  generalize hr0 : T.unq (s.data.toList.drop (k + 1)) = r0
  have b1 : (k : Int) < (s.size : Int) := by omega
  have b2 : (s.size : Int) ≤ 1000000000 := by omega
  have HR : Hid (T.unq (s.data.toList.drop (k + 1)) = r0) := hr0
  clear hr0
  go_enter Tryz.func49, Tryz.ntmps49
  go_wp2
  go_step3
  go_wp2
  go_step3
  go_wp2
  go_loopw [1, 4, 6] (fun i v _ wr => ∃ (p : Nat) (l : List UInt8), k + 1 ≤ p ∧ p ≤ s.size ∧ i = .int .i64 p ∧ l.length ≤ p ∧ HB W wr v l ∧ Hid (r0 = T.sp (p - (k + 1)) l (T.unq (s.data.toList.drop p)))) (fun i _ _ _ => s.size - (intOf i).toNat)
  case atStart => exact ⟨k + 1, [], Nat.le_refl _, by omega, by go_num, Nat.zero_le _, HB.start W, by rw [Nat.sub_self, T.sp_zero]; exact HR.out.symm⟩
  case round =>
    obtain ⟨p, l, hp1, hp2, rfl, hl, F, R⟩ := hrel
    have c1 : (p : Int) ≤ (s.size : Int) := by omega
    by_cases hlt : p < s.size
    · have c2 : (p : Int) < (s.size : Int) := by omega
      have c3 : ((p : Int) == (s.size : Int)) = false := by simp; omega
      have hd := drop_get s p hlt
      by_cases h34 : s[p].toNat = 34
      · have e34 : ((s[p].toNat : Int) == 34) = true := by rw [h34]; rfl
        have H : Hid (r0 = .inr (l, p - (k + 1) + 1)) := hid <| by
          have := R.out
          rw [hd, T.unq_end _ _ h34] at this
          simpa [T.sp] using this
        clear hd h34 R HR
        go_wp2_with fail
        go_ret2
        exact UnqPost.good H.out (by omega) F
      · have e34 : ((s[p].toNat : Int) == 34) = false := by simp; omega
        by_cases h92 : s[p].toNat = 92
        · have e92 : ((s[p].toNat : Int) == 92) = true := by rw [h92]; rfl
          have HC := escaped_any s p hs hlt
          cases he : T.esc (s.data.toList.drop (p + 1)) with
          | none =>
            have H : Hid (r0 = .inl (p - (k + 1))) := hid <| by
              have := R.out
              rw [hd, T.unq_noesc _ _ h92 he] at this
              exact this
            rw [he] at HC
            clear hd h92 h34 R HR he
            go_wp2_with fail
            refine (HC _).mono ?_
            rintro e w' ⟨rfl, rfl⟩
            go_wp2_with fail
            exact ⟨rfl, UnqPost.bad H.out (by omega) F.below⟩
          | some x =>
            have h3 := T.esc_three he
            rw [List.length_drop, size_list] at h3
            have H : Hid (r0 = T.sp (p + 4 - (k + 1)) (l ++ [x]) (T.unq (s.data.toList.drop (p + 4)))) := hid <| by
              have := R.out
              rw [hd, T.unq_esc _ _ x h92 he, T.sp_sp, List.drop_drop] at this
              rw [this, show p - (k + 1) + 4 = p + 4 - (k + 1) by omega]
            rw [he] at HC
            clear hd h92 h34 R HR he
            have d1 : (p : Int) + 4 ≤ (s.size : Int) := by omega
            go_wp2_with fail
            refine (HC _).mono ?_
            rintro e w' ⟨rfl, rfl⟩
            go_wp2_with (first | (at_builtin; refine wpList_append_bytes rfl _ _ _ rfl i0 Tryz.underlying26 hi hz0 hz1 hz2 _ _ rfl (F.alloc _) _ _ _ [x] rfl rfl (cells_new _ _ _ _ rfl) (by omega) ?_))
            intro v1 w1 F1
            go_wp2_with fail
            go_roundw
            case rel => exact ⟨p + 4, l ++ [x], by omega, by omega, by go_num, by simp; omega, F1, H⟩
            case measure => simp [intOf]; omega
        · have e92 : ((s[p].toNat : Int) == 92) = false := by simp; omega
          have HC := itself_any s[p]
          cases hit : T.itself s[p] with
          | true =>
            have H : Hid (r0 = T.sp (p + 1 - (k + 1)) (l ++ [s[p]]) (T.unq (s.data.toList.drop (p + 1)))) := hid <| by
              have := R.out
              rw [hd, T.unq_self _ _ hit, T.sp_sp] at this
              rw [this, show p - (k + 1) + 1 = p + 1 - (k + 1) by omega]
            rw [hit] at HC
            clear hd h92 h34 R HR hit
            go_wp2_with fail
            refine (HC _).mono ?_
            rintro e w' ⟨rfl, rfl⟩
            go_wp2_with (first | (at_builtin; refine wpList_append_bytes rfl _ _ _ rfl i0 Tryz.underlying26 hi hz0 hz1 hz2 _ _ rfl (F.alloc _) _ _ _ [s[p]] rfl rfl (cells_new _ _ _ _ rfl) (by omega) ?_))
            intro v1 w1 F1
            go_wp2_with fail
            go_roundw
            case rel => exact ⟨p + 1, l ++ [s[p]], by omega, by omega, by go_num, by simp; omega, F1, H⟩
            case measure => simp [intOf]; omega
          | false =>
            have H : Hid (r0 = .inl (p - (k + 1))) := hid <| by
              have := R.out
              rw [hd, T.unq_bad _ _ h34 h92 hit] at this
              exact this
            rw [hit] at HC
            clear hd h92 h34 R HR hit
            go_wp2_with fail
            refine (HC _).mono ?_
            rintro e w' ⟨rfl, rfl⟩
            go_wp2_with fail
            exact ⟨rfl, UnqPost.bad H.out (by omega) F.below⟩
    · obtain rfl : p = s.size := by omega
      have c3 : ((s.size : Int) == (s.size : Int)) = true := by simp
      have H : Hid (r0 = .inl (s.size - (k + 1))) := hid <| by
        have := R.out
        rw [List.drop_eq_nil_of_le (by rw [size_list]; exact Nat.le_refl _), T.unq_nil] at this
        exact this
      go_wp2_with fail
      exact ⟨rfl, UnqPost.bad H.out (by omega) F.below⟩
end Go.Proofs.YtbjinmlelchmgaaGreatDoor
namespace Go.Proofs.YtbjinmlelchmgaaGreatDoor
open Go.RowKit

theorem own_mono {w : World} {B B' n : Nat} {e : TypeId} {z : Nat} {v : Value} {xs : List Value} (h : w.ownsRow B e z v n xs) (hB : B' ≤ B) : w.ownsRow B' e z v n xs :=
  ⟨h.1, h.2.imp id fun ⟨g, cap, cur, hv, hb, r⟩ => ⟨g, cap, cur, hv, Nat.le_trans hB hb, r⟩⟩
theorem own_set {w : World} {B n : Nat} {e : TypeId} {z : Nat} {v : Value} {xs : List Value} (h : w.ownsRow B e z v n xs) (a : Addr) (ha : a.block < B) (u : Value) : (w.setCell a u).ownsRow B e z v n xs :=
  ⟨h.1, h.2.imp id fun ⟨g, cap, cur, hv, hb, hg, r⟩ => ⟨g, cap, cur, hv, hb, by rw [Below.heap_setCell _ _ _ _ (by omega)]; exact hg, r⟩⟩
theorem own_below {w w' : World} {B n : Nat} {e : TypeId} {z : Nat} {v : Value} {xs : List Value} (h : w.ownsRow B e z v n xs) (hb : Below w.heap.size w w') : w'.ownsRow B e z v n xs :=
  ⟨h.1, h.2.imp id fun ⟨g, cap, cur, hv, hB, hg, r⟩ => ⟨g, cap, cur, hv, hB, by rw [hb.block g (Array.getElem?_eq_some_iff.1 hg).1]; exact hg, r⟩⟩
theorem own_form {w : World} {B n : Nat} {e : TypeId} {z : Nat} {v : Value} {xs : List Value} (h : w.ownsRow B e z v n xs) : ∃ ao c, v = .slice ao n c := by
  rcases h.2 with ⟨rfl, rfl⟩ | ⟨g, cap, cur, rfl, _⟩
  · exact ⟨none, 0, rfl⟩
  · exact ⟨_, _, rfl⟩
theorem HB.on {W wr w : World} {v : Value} {l : List UInt8} (h : HB W wr v l) (hb : Below wr.heap.size wr w) : HB W w v l := ⟨own_below h.own hb, h.below.trans (hb.mono h.below.size)⟩

theorem hmf (fn : Fn) (first cap : Array Value) (w : World) : (Instr.makeFunc fn first cap).run Tryz.prog w = .ok (.func fn first cap) w := rfl

theorem catch34 (p q : Addr) (hpq : p ≠ q) (x y : Value) (u : TypeId) (pv : Value) (older : List PanicEntry) (w : World) (hc : w.cell? p = some x) (hz : w.frozen? p = false) (hc' : w.cell? q = some y) (hz' : w.frozen? q = false) :
    CallsD Tryz.prog 48 #[.pointer (some p), .pointer (some q)] (.panicking ({ v := .iface u pv, recovered := false } :: older)) w fun e u' w' =>
      e = .returned (.tuple #[]) ∧ u' = .panicking ({ v := .iface u pv, recovered := true } :: older) ∧ w' = (w.setCell p (.slice none 0 0)).setCell q (.int .i64 40) := by
  refine callsD_of_wpS Tryz.func48 rfl fun c₀ cs hu => ?_
  apply wpS_seq
  apply wpS_region
  simp [wpOpsS, go_sem, recoverD, hu, Tryz.ntmps48, Exit.thenS]
  refine wpS_of_wp ?_
  simp [Array.replicate]
  go_wp2
  simp [bodyPostS, results, Tryz.results48]
theorem idle34 (p q : Addr) (w : World) :
    CallsD Tryz.prog 48 #[.pointer (some p), .pointer (some q)] .returning w fun e u' w' => e = .returned (.tuple #[]) ∧ u' = .returning ∧ w' = w := by
  refine callsD_of_wpS Tryz.func48 rfl fun c₀ cs hu => ?_
  apply wpS_seq
  apply wpS_region
  simp [wpOpsS, go_sem, recoverD, hu, Tryz.ntmps48, Exit.thenS]
  refine wpS_of_wp ?_
  simp [Array.replicate]
  go_wp2
  cases c₀
  simp_all [bodyPostS, results, Tryz.results48]
def UqPost (W : World) (r : Option (List UInt8)) (e : Ending) (W' : World) : Prop :=
  match r with
  | none => e = .returned (.tuple #[.slice none 0 0, .int .i64 40]) ∧ Below W.heap.size W W'
  | some b => ∃ v, e = .returned (.tuple #[v, .int .i64 0]) ∧ HB W W' v b
theorem UqPost.bad {W W' : World} {r : Option (List UInt8)} (hr : r = none) (hb : Below W.heap.size W W') : UqPost W r (.returned (.tuple #[.slice none 0 0, .int .i64 40])) W' := by
  subst hr; exact ⟨rfl, hb⟩
theorem UqPost.good {W W' : World} {r : Option (List UInt8)} {b : List UInt8} {v : Value} (hr : r = some b) (hb : HB W W' v b) : UqPost W r (.returned (.tuple #[v, .int .i64 0])) W' := by
  subst hr; exact ⟨_, rfl, hb⟩
theorem two_cells {W w1 : World} (o1 o2 : Value) (t1 t2 : TypeId) (hb : Below (W.heap.size + 2) ((W.alloc (.cells #[o1] t1)).alloc (.cells #[o2] t2)) w1) :
    w1.cell? ⟨W.heap.size, 0, none⟩ = some o1 ∧ w1.frozen? ⟨W.heap.size, 0, none⟩ = false ∧ w1.cell? ⟨W.heap.size + 1, 0, none⟩ = some o2 ∧ w1.frozen? ⟨W.heap.size + 1, 0, none⟩ = false ∧ Below W.heap.size W w1 := by
  refine ⟨?_, ?_, ?_, ?_, ((Below.refl _ _).alloc (Nat.le_refl _) _ |>.alloc (by simp) _).trans (hb.mono (by omega))⟩
  · rw [hb.cell (p := ⟨W.heap.size, 0, none⟩) (by simp)]; simp [go_sem]
  · rw [hb.frozen (p := ⟨W.heap.size, 0, none⟩) (by simp)]; simp [go_sem]
  · rw [hb.cell (p := ⟨W.heap.size + 1, 0, none⟩) (by simp)]; simp [go_sem]
  · rw [hb.frozen (p := ⟨W.heap.size + 1, 0, none⟩) (by simp)]; simp [go_sem]

set_option maxHeartbeats 1000000 in
theorem unquote_any (W : World) (s : ByteArray) (hs : s.size ≤ 1000000000) :
    Calls Tryz.prog 14 #[.string s] W fun e W' => UqPost W (T.unquote s.data.toList) e W' := by
  generalize hr0 : T.unquote s.data.toList = r0
  have hmf := hmf
  by_cases h0 : s.size = 0
  · have hse : s = ⟨#[]⟩ := by
      cases s with
      | mk d => congr; exact Array.eq_empty_of_size_eq_zero h0
    have HR : Hid (r0 = none) := hid (by rw [← hr0, hse]; rfl)
    clear hr0 hs h0
    subst hse
    go_enter_defers Tryz.func14, Tryz.ntmps14
    go_wp2_with fail
    refine leaves_cons (f := 48) (args := #[.pointer (some ⟨W.heap.size, 0, none⟩), .pointer (some ⟨W.heap.size + 1, 0, none⟩)]) (by simp) (by simp [go_sem]) ?_
    refine (catch34 ⟨W.heap.size, 0, none⟩ ⟨W.heap.size + 1, 0, none⟩ (by simp) (.slice none 0 0) (.int .i64 0) 81 _ [] _ ?_ ?_ ?_ ?_).mono ?_
    · simp [go_sem]
    · simp [go_sem]
    · simp [go_sem]
    · simp [go_sem]
    rintro e u' w'' ⟨rfl, rfl, rfl⟩
    simp [Leaves, settle, results, Tryz.results14, go_sem]
    exact UqPost.bad HR.out ((Below.refl _ _).alloc (Nat.le_refl _) _ |>.alloc (by simp) _)
  · have hlt : 0 < s.size := by omega
    have hd := drop_get s 0 hlt
    rw [List.drop_zero] at hd
    rw [hd] at hr0
    have b1 : (0 : Int) < (s.size : Int) := by omega
    have b2 : (s.size : Int) ≤ 1000000000 := by omega
    have hse : ¬ s.toList = [] := by
      rw [ByteArray.toList_eq s, hd]
      simp
    have hsf : s.toList.isEmpty = false := by
      rw [ByteArray.toList_eq s, hd]
      rfl
    by_cases h34 : s[0].toNat = 34
    · have e34 : ((s[0].toNat : Int) != 34) = false := by rw [h34]; rfl
      have HC := fun w => unquoted_any w s 0 hs hlt
      unfold T.unquote at hr0
      simp only [h34, if_true] at hr0
      have hle := T.unq_le (s.data.toList.drop (0 + 1))
      rw [List.length_drop, size_list] at hle
      cases hq : T.unq (s.data.toList.drop (0 + 1)) with
      | inl x =>
        rw [hq] at hr0 HC hle
        have HR : Hid (r0 = none) := hid hr0.symm
        clear hr0 hq hd h34 h0
        go_enter_defers Tryz.func14, Tryz.ntmps14
        go_wp2_with fail
        refine (HC _).mono ?_
        rintro e w1 ⟨rfl, hb⟩
        obtain ⟨c1, c2, c3, c4, hB⟩ := two_cells _ _ _ _ (hb.mono (B' := W.heap.size + 2) (by simp))
        clear HC hb
        simp only [brk]
        go_wp2_with fail
        refine leaves_cons (f := 48) (args := #[.pointer (some ⟨W.heap.size, 0, none⟩), .pointer (some ⟨W.heap.size + 1, 0, none⟩)]) (by simp) (by simp [go_sem]) ?_
        refine (catch34 ⟨W.heap.size, 0, none⟩ ⟨W.heap.size + 1, 0, none⟩ (by simp) (.slice none 0 0) (.int .i64 0) 81 _ [] _ c1 c2 c3 c4).mono ?_
        rintro e u' w'' ⟨rfl, rfl, rfl⟩
        simp [Leaves, settle, results, Tryz.results14, go_sem, c1, c3]
        exact UqPost.bad HR.out ((hB.setCell (by simp) _).setCell (by simp) _)
      | inr y =>
        obtain ⟨b, n⟩ := y
        rw [hq] at hr0 HC hle
        simp only [List.length_drop, size_list] at hr0
        obtain ⟨hle1, hle2⟩ := hle
        by_cases hn : n < s.size - (0 + 1)
        · rw [if_pos hn] at hr0
          have HR : Hid (r0 = none) := hid hr0.symm
          have d1 : ((0 + 1 + n : Nat) : Int) < (s.size : Int) := by omega
          clear hr0 hq hd h34 h0
          go_enter_defers Tryz.func14, Tryz.ntmps14
          go_wp2_with fail
          refine (HC _).mono ?_
          rintro e w1 ⟨v, rfl, hown⟩
          obtain ⟨c1, c2, c3, c4, hB⟩ := two_cells _ _ _ _ (hown.below.mono (B' := W.heap.size + 2) (by simp))
          have own := own_mono (B' := W.heap.size + 2) hown.own (by simp)
          obtain ⟨ao, cc, rfl⟩ := own_form own
          clear HC hown
          go_wp2_with fail
          refine leaves_cons (f := 48) (args := #[.pointer (some ⟨W.heap.size, 0, none⟩), .pointer (some ⟨W.heap.size + 1, 0, none⟩)]) (by simp) (by simp [go_sem]) ?_
          refine (catch34 ⟨W.heap.size, 0, none⟩ ⟨W.heap.size + 1, 0, none⟩ (by simp) (.slice ao b.length cc) (.int .i64 0) 81 _ [] _ ?_ ?_ ?_ ?_).mono ?_
          · simp [go_sem, c1]
          · simp [go_sem, c2]
          · simp [go_sem, c3]
          · simp [go_sem, c4]
          rintro e u' w'' ⟨rfl, rfl, rfl⟩
          simp [Leaves, settle, results, Tryz.results14, go_sem, c1, c3]
          exact UqPost.bad HR.out (((hB.setCell (by simp) _).setCell (by simp) _).setCell (by simp) _)
        · rw [if_neg hn] at hr0
          have HR : Hid (r0 = some b) := hid hr0.symm
          have d1 : (s.size : Int) ≤ ((0 + 1 + n : Nat) : Int) := by omega
          clear hr0 hq hd h34 h0
          go_enter_defers Tryz.func14, Tryz.ntmps14
          go_wp2_with fail
          refine (HC _).mono ?_
          rintro e w1 ⟨v, rfl, hown⟩
          obtain ⟨c1, c2, c3, c4, hB⟩ := two_cells _ _ _ _ (hown.below.mono (B' := W.heap.size + 2) (by simp))
          have own := own_mono (B' := W.heap.size + 2) hown.own (by simp)
          obtain ⟨ao, cc, rfl⟩ := own_form own
          clear HC hown
          go_wp2_with fail
          refine leaves_cons (f := 48) (args := #[.pointer (some ⟨W.heap.size, 0, none⟩), .pointer (some ⟨W.heap.size + 1, 0, none⟩)]) (by simp) (by simp [go_sem]) ?_
          refine (idle34 ⟨W.heap.size, 0, none⟩ ⟨W.heap.size + 1, 0, none⟩ _).mono ?_
          rintro e u' w'' ⟨rfl, rfl, rfl⟩
          simp [Leaves, settle, results, Tryz.results14, go_sem, c1, c3]
          exact UqPost.good HR.out ⟨own_mono (own_set (own_set (own_set own _ (by simp) _) _ (by simp) _) _ (by simp) _) (by omega), ((hB.setCell (by simp) _).setCell (by simp) _).setCell (by simp) _⟩
    · have e34 : ((s[0].toNat : Int) != 34) = true := by rw [bne_iff_ne]; omega
      have HR : Hid (r0 = none) := hid (by rw [← hr0]; simp [T.unquote, h34])
      clear hr0 hd h34 h0
      go_enter_defers Tryz.func14, Tryz.ntmps14
      go_wp2_with fail
      refine leaves_cons (f := 48) (args := #[.pointer (some ⟨W.heap.size, 0, none⟩), .pointer (some ⟨W.heap.size + 1, 0, none⟩)]) (by simp) (by simp [go_sem]) ?_
      refine (catch34 ⟨W.heap.size, 0, none⟩ ⟨W.heap.size + 1, 0, none⟩ (by simp) (.slice none 0 0) (.int .i64 0) 81 _ [] _ ?_ ?_ ?_ ?_).mono ?_
      · simp [go_sem]
      · simp [go_sem]
      · simp [go_sem]
      · simp [go_sem]
      rintro e u' w'' ⟨rfl, rfl, rfl⟩
      simp [Leaves, settle, results, Tryz.results14, go_sem]
      exact UqPost.bad HR.out ((Below.refl _ _).alloc (Nat.le_refl _) _ |>.alloc (by simp) _)
end Go.Proofs.YtbjinmlelchmgaaGreatDoor
