import Derived.Test.YtncnogndopgknaaGreatDoorP12
namespace Go.Proofs.YtncnogndopgknaaGreatDoor
open Go.RowKit

theorem Tryz.info154 : (Tryz.prog.info? 154).map (fun i => (i.zero, i.size, i.bytes)) = some (some (.agg #[.string ⟨#[]⟩, .bool false, .int .i64 0]), 3, 32) := by kernel_rfl
def wdC (w : T.Wd) : List Value := [.string ⟨w.text.toArray⟩, .bool w.quoted, .int .i64 (w.col : Int)]
def wdsC (ws : List T.Wd) : List Value := (ws.map wdC).flatten
theorem wdsC_append (a b : List T.Wd) : wdsC (a ++ b) = wdsC a ++ wdsC b := by simp [wdsC]
structure HW (W wr : World) (v : Value) (ws : List T.Wd) : Prop where
  own : wr.ownsRow W.heap.size 154 3 v ws.length (wdsC ws)
  below : Below W.heap.size W wr
theorem HW.start (W : World) : HW W W (.slice none 0 0) [] := ⟨World.ownsRow_nil W _ 154 3, Below.refl _ _⟩
theorem HW.alloc {W wr : World} {v : Value} {l : List T.Wd} (h : HW W wr v l) (o : Obj) : HW W (wr.alloc o) v l := ⟨h.own.alloc o, h.below.alloc h.below.size o⟩
theorem HW.on {W wr w : World} {v : Value} {l : List T.Wd} (h : HW W wr v l) (hb : Below wr.heap.size wr w) : HW W w v l := ⟨own_below h.own hb, h.below.trans (hb.mono h.below.size)⟩
theorem HW.set {W wr : World} {v : Value} {l : List T.Wd} (h : HW W wr v l) (a : Addr) (ha : W.heap.size ≤ a.block) (hn : ∀ g, v.ownBlock = some g → g ≠ a.block) (u : Value) : HW W (wr.setCell a u) v l := by
  refine ⟨⟨h.own.1, h.own.2.imp id fun ⟨g, cap, cur, hv, hb, hg, r⟩ => ⟨g, cap, cur, hv, hb, ?_, r⟩⟩, h.below.setCell ha u⟩
  rw [Below.heap_setCell _ _ _ _ (hn g (by rw [hv]; rfl))]
  exact hg
theorem wpList_append_words {P : Program} {W w : World} {ops : Array Oper} {rest : List Oper} {o : Oper} {a : Act} {Q : Exit → Act → World → Prop} (hgd : o.guard = none) (s x : Operand) (t : TypeId)
    (ho : o.op = .call { callee := .builtin .append, args := #[s, x], argTypes := #[t, t] }) (i : TypeInfo) (ht : P.underlying t = some (.slice 154)) (hi : P.info? 154 = some i) (hz : i.zero = some (.agg #[.string ⟨#[]⟩, .bool false, .int .i64 0])) (hsize : i.size = 3) (hby : i.bytes = 32)
    (v : Value) (l : List T.Wd) (hs : a.eval s = v) (H : HW W w v l) (ad : Addr) (c : Nat) (m : T.Wd) (hx : a.eval x = .slice (some ad) 1 c) (hc : ∀ j u, (wdC m)[j]? = some u → w.cell? (ad.add j) = some u) (h63 : l.length ≤ 1000000000)
    (h : ∀ v' w', HW W w' v' (l ++ [m]) → wpList P ops Q rest (a.put o.dst v') w') : wpList P ops Q (o :: rest) a w := by
  obtain ⟨v', w', hr, h1, h2, _⟩ := run_append_own (P := P) w W.heap.size t o.type 154 i _ 3 32 ht hi hz hsize hby rfl (by decide) v l.length _ H.own ad 1 c (wdC m) rfl hc (by simp [wdC, Value.oneCell']) (by unfold maxLen; omega) (by omega) H.below.size
  refine wpList_plain hgd fun K hK => ?_
  unfold Oper.wp execOp
  simp only [ho, resolve, invoke, builtin, Sem.run_bind, Sem.run_pure, Result.andThen_ok, List.map_toArray, List.map_cons, List.map_nil, hs, hx, hr]
  refine hK _ _ (h _ _ ⟨?_, H.below.grown h2 H.below.size fun g hg => (H.own.lt g hg).1⟩)
  rw [wdsC_append, List.length_append]
  simpa [wdsC] using h1
theorem size_setCell (w : World) (a : Addr) (u : Value) : (w.setCell a u).heap.size = w.heap.size := by simp [World.setCell]
theorem cells_new3 (W : World) (e : TypeId) (C : Array Value) (L : List Value) (hC : C = L.toArray) : ∀ j u, L[j]? = some u → (W.alloc (.cells C e)).cell? ((⟨W.heap.size, 0, none⟩ : Addr).add j) = some u := by
  intro j u hu
  subst hC
  rw [Addr.add_mid, World.cell?_alloc_new, Nat.zero_add]
  simpa using hu

theorem cells_set3 (w : World) (a : Addr) (u' : Value) (C : Array Value) (L : List Value) (hC : C = L.toArray) : ∀ j u, L[j]? = some u → ((w.setCell a u').alloc (.cells C 154)).cell? ((⟨w.heap.size, 0, none⟩ : Addr).add j) = some u := by
  have := cells_new3 (w.setCell a u') 154 C L hC
  rw [size_setCell] at this
  exact this
theorem HW.struct {W wr w1 : World} {v : Value} {ws : List T.Wd} (F : HW W wr v ws) (a b c : Value)
    (hb : Below (wr.alloc (.cells #[a, b, c] 154)).heap.size (wr.alloc (.cells #[a, b, c] 154)) w1) :
    w1.cell? ⟨wr.heap.size, 0, none⟩ = some a ∧ w1.cell? ⟨wr.heap.size, 1, none⟩ = some b ∧ w1.cell? ⟨wr.heap.size, 2, none⟩ = some c ∧ (∀ o, w1.frozen? ⟨wr.heap.size, o, none⟩ = false) ∧ (∀ u, HW W (w1.setCell ⟨wr.heap.size, 0, none⟩ u) v ws) := by
  have hlt : wr.heap.size < (wr.alloc (.cells #[a, b, c] 154)).heap.size := by simp
  refine ⟨?_, ?_, ?_, fun o => ?_, fun u => ((F.alloc _).on hb).set _ F.below.size (fun g hg => ?_) u⟩
  · rw [hb.cell (p := ⟨wr.heap.size, 0, none⟩) hlt]; simp [go_sem]
  · rw [hb.cell (p := ⟨wr.heap.size, 1, none⟩) hlt]; simp [go_sem]
  · rw [hb.cell (p := ⟨wr.heap.size, 2, none⟩) hlt]; simp [go_sem]
  · rw [hb.frozen (p := ⟨wr.heap.size, o, none⟩) hlt]; simp [go_sem]
  · have := (F.own.lt g hg).2
    show g ≠ wr.heap.size
    omega

def RdPost (W : World) (r : Nat ⊕ List T.Wd) (e : Ending) (W' : World) : Prop :=
  match r with
  | .inl x => e = brk x ∧ Below W.heap.size W W'
  | .inr ws => ∃ v, e = .returned v ∧ HW W W' v ws
theorem RdPost.bad {W W' : World} {x p : Nat} {r : Nat ⊕ List T.Wd} (hr : r = .inl x) (hp : p = x) (hb : Below W.heap.size W W') : RdPost W r (.panicked [{ v := .iface 231 (.int .i64 (p : Int)), recovered := false }]) W' := by
  subst hr hp; exact ⟨rfl, hb⟩
theorem RdPost.good {W W' : World} {r : Nat ⊕ List T.Wd} {ws : List T.Wd} {v : Value} (hr : r = .inr ws) (hb : HW W W' v ws) : RdPost W r (.returned v) W' := by
  subst hr; exact ⟨_, rfl, hb⟩
set_option maxRecDepth 20000 in
set_option maxHeartbeats 2000000 in
theorem read_any (W : World) (s : ByteArray) (hs : s.size ≤ 1000000000) :
    Calls Tryz.prog 84 #[.string s] W fun e W' => RdPost W (T.rd s.data.toList 0) e W' := by
  obtain ⟨i0, hi, hz0, hz1, hz2⟩ := info_parts Tryz.info154
  generalize hr0 : T.rd s.data.toList 0 = r0
  have b2 : (s.size : Int) ≤ 1000000000 := by omega
  have HR : Hid (T.rd s.data.toList 0 = r0) := hr0
  clear hr0
  go_enter Tryz.func84, Tryz.ntmps84
  go_wp2
  go_step3
  go_wp2
  go_step3
  go_wp2
  go_loopw [2, 3, 4] (fun v i _ wr => ∃ (p : Nat) (ws : List T.Wd), p ≤ s.size ∧ i = .int .i64 p ∧ ws.length ≤ p ∧ HW W wr v ws ∧ Hid (r0 = T.pre ws (T.rd (s.data.toList.drop p) p))) (fun _ i _ _ => s.size - (intOf i).toNat)
  case atStart => exact ⟨0, [], Nat.zero_le _, rfl, Nat.le_refl _, HW.start W, hid (by rw [T.pre_nil]; exact HR.out.symm)⟩
  case round =>
    clear HR
    obtain ⟨p, ws, hp, rfl, hl, F, R⟩ := hrel
    have c1 : (p : Int) ≤ (s.size : Int) := by omega
    by_cases hlt : p < s.size
    · have c2 : (p : Int) < (s.size : Int) := by omega
      have hd := drop_get s p hlt
      by_cases h32 : s[p].toNat = 32
      · have e1 : ((s[p].toNat : Int) == 32) = true := by rw [h32]; rfl
        have H : Hid (r0 = T.pre ws (T.rd (s.data.toList.drop (p + 1)) (p + 1))) := hid (by
          rw [R.out, hd, T.rd_gap _ _ (by simp [T.isGap, h32])])
        clear R hd h32
        go_wp2_with fail
        exact ⟨⟨p + 1, ws, by omega, by go_num, by omega, F.alloc _, H⟩, by simp [intOf]; omega⟩
      · have e1 : ((s[p].toNat : Int) == 32) = false := by simp; omega
        by_cases h9 : s[p].toNat = 9
        · have e2 : ((s[p].toNat : Int) == 9) = true := by rw [h9]; rfl
          have H : Hid (r0 = T.pre ws (T.rd (s.data.toList.drop (p + 1)) (p + 1))) := hid (by
            rw [R.out, hd, T.rd_gap _ _ (by simp [T.isGap, h9])])
          clear R hd h32 h9
          go_wp2_with fail
          exact ⟨⟨p + 1, ws, by omega, by go_num, by omega, F.alloc _, H⟩, by simp [intOf]; omega⟩
        · have e2 : ((s[p].toNat : Int) == 9) = false := by simp; omega
          have hgap : T.isGap s[p] = false := by simp [T.isGap, h32, h9]
          by_cases h35 : s[p].toNat = 35
          · have e3 : ((s[p].toNat : Int) == 35) = true := by rw [h35]; rfl
            have H : Hid (r0 = .inr ws) := hid (by
              rw [R.out, hd, T.rd_hash _ _ hgap h35]
              simp [T.pre])
            clear R hd h32 h9 h35 hgap
            go_wp2_with fail
            go_ret
            exact RdPost.good H.out (F.alloc _)
          · have e3 : ((s[p].toNat : Int) == 35) = false := by simp; omega
            by_cases h34 : s[p].toNat = 34
            · have e4 : ((s[p].toNat : Int) == 34) = true := by rw [h34]; rfl
              have HQ := fun w => quotedWord_any w s p hs hlt
              have hle := T.unq_le (s.data.toList.drop (p + 1))
              rw [List.length_drop, size_list] at hle
              cases hq : T.unq (s.data.toList.drop (p + 1)) with
              | inl x =>
                have H : Hid (r0 = .inl (p + 1 + x)) := hid (by
                  rw [R.out, hd, T.rd_bad _ _ x hgap h34 hq]
                  rfl)
                have HQ2 : Hid (∀ w, Calls Tryz.prog 113 #[.string s, .int .i64 (p : Int)] w fun e W' => Below w.heap.size w W' ∧ e = .panicked [{ v := .iface 231 (.int .i64 ((p + 1 + x : Nat) : Int)), recovered := false }]) := hid (fun w => by
                  refine (HQ w).mono ?_
                  intro e W' h
                  unfold QwPost at h
                  rw [hq] at h
                  exact h)
                clear R hd h32 h9 h35 hgap h34 hq HQ hle
                go_wp2_with fail
                refine (HQ2.out _).mono ?_
                rintro e w1 ⟨hb, rfl⟩
                go_wp2_with fail
                exact ⟨rfl, RdPost.bad H.out rfl ((F.alloc _).on hb).below⟩
              | inr y =>
                obtain ⟨b, n⟩ := y
                rw [hq] at hle
                obtain ⟨hle1, hle2⟩ := hle
                cases hpt : T.parted (s.data.toList.drop (p + 1 + n)) with
                | false =>
                  have H : Hid (r0 = .inl (p + 1 + n)) := hid (by
                    rw [R.out, hd, T.rd_joined _ b _ n hgap h34 hq (by rw [List.drop_drop]; exact hpt)]
                    rfl)
                  have HQ2 : Hid (∀ w, Calls Tryz.prog 113 #[.string s, .int .i64 (p : Int)] w fun e W' => Below w.heap.size w W' ∧ e = .panicked [{ v := .iface 231 (.int .i64 ((p + 1 + n : Nat) : Int)), recovered := false }]) := hid (fun w => by
                    refine (HQ w).mono ?_
                    intro e W' h
                    unfold QwPost at h
                    rw [hq] at h
                    simp only [hpt] at h
                    exact h)
                  clear R hd h32 h9 h35 hgap h34 hq HQ hpt
                  go_wp2_with fail
                  refine (HQ2.out _).mono ?_
                  rintro e w1 ⟨hb, rfl⟩
                  go_wp2_with fail
                  exact ⟨rfl, RdPost.bad H.out rfl ((F.alloc _).on hb).below⟩
                | true =>
                  have H : Hid (r0 = T.pre (ws ++ [⟨b, true, p + 1⟩]) (T.rd (s.data.toList.drop (p + 1 + n)) (p + 1 + n))) := hid (by
                    rw [R.out, hd, T.rd_quoted _ b _ n hgap h34 hq (by rw [List.drop_drop]; exact hpt), T.pre_cons, List.drop_drop])
                  have HQ2 : Hid (∀ w, Calls Tryz.prog 113 #[.string s, .int .i64 (p : Int)] w fun e W' => Below w.heap.size w W' ∧ e = .returned (.tuple #[.string ⟨b.toArray⟩, .int .i64 ((p + 1 + n : Nat) : Int)])) := hid (fun w => by
                    refine (HQ w).mono ?_
                    intro e W' h
                    unfold QwPost at h
                    rw [hq] at h
                    simp only [hpt] at h
                    exact h)
                  have d1 : p + 1 + n ≤ s.size := by omega
                  have d2 : p < p + 1 + n := by omega
                  generalize p + 1 + n = m at *
                  clear R hd h32 h9 h35 hgap h34 hq HQ hpt hle1 hle2
                  go_wp2_with fail
                  refine (HQ2.out _).mono ?_
                  rintro e w1 ⟨hb, rfl⟩
                  obtain ⟨k0, k1, k2, kz, FW⟩ := F.struct _ _ _ hb
                  clear hb F HQ2
                  have AC : Hid (∀ (a : Addr) (u' : Value), ∀ j u, (wdC ⟨b, true, p + 1⟩)[j]? = some u → ((w1.setCell a u').alloc (.cells #[.string ⟨b.toArray⟩, .bool true, .int .i64 ((p : Int) + 1)] 154)).cell? ((⟨w1.heap.size, 0, none⟩ : Addr).add j) = some u) := fun a u' => cells_set3 w1 a u' _ _ rfl
                  go_wp2_with (first | (at_builtin; refine wpList_append_words rfl _ _ _ rfl i0 Tryz.underlying149 hi hz0 hz1 hz2 _ _ rfl ((FW _).alloc _) _ _ ⟨b, true, p + 1⟩ rfl (AC.out _ _) (by omega) ?_))
                  intro v2 w2 F2
                  go_wp2_with fail
                  exact ⟨⟨m, _, by omega, by go_num, by simp; omega, F2, H⟩, by simp [intOf]; omega⟩
            · have e4 : ((s[p].toNat : Int) == 34) = false := by simp; omega
              have HQ := fun w => plainWord_any w s p hs hlt
              have hpl := T.plainN_pos (s.data.toList.drop (p + 1)) hgap
              rw [← hd] at hpl
              have hle := T.plainN_le (s.data.toList.drop p)
              rw [List.length_drop, size_list] at hle
              have H : Hid (r0 = T.pre (ws ++ [⟨(s.data.toList.drop p).take (T.plainN (s.data.toList.drop p)), false, p + 1⟩]) (T.rd (s.data.toList.drop (p + T.plainN (s.data.toList.drop p))) (p + T.plainN (s.data.toList.drop p)))) := hid (by
                rw [R.out]
                have := T.rd_plain (s.data.toList.drop (p + 1)) p hgap h35 h34
                rw [← hd] at this
                rw [this, T.pre_cons, List.drop_drop])
              generalize (s.data.toList.drop p).take (T.plainN (s.data.toList.drop p)) = b at *
              have d1 : p + T.plainN (s.data.toList.drop p) ≤ s.size := by omega
              have d2 : p < p + T.plainN (s.data.toList.drop p) := by omega
              generalize p + T.plainN (s.data.toList.drop p) = m at *
              have HQ2 : Hid (∀ w, Calls Tryz.prog 114 #[.string s, .int .i64 (p : Int)] w fun e W' => e = .returned (.tuple #[.string ⟨b.toArray⟩, .int .i64 (m : Int)]) ∧ Below w.heap.size w W') := HQ
              clear R hd h32 h9 h35 hgap h34 HQ hpl hle
              go_wp2_with fail
              refine (HQ2.out _).mono ?_
              rintro e w1 ⟨rfl, hb⟩
              obtain ⟨k0, k1, k2, kz, FW⟩ := F.struct _ _ _ hb
              clear hb F HQ2
              have AC : Hid (∀ (a : Addr) (u' : Value), ∀ j u, (wdC ⟨b, false, p + 1⟩)[j]? = some u → ((w1.setCell a u').alloc (.cells #[.string ⟨b.toArray⟩, .bool false, .int .i64 ((p : Int) + 1)] 154)).cell? ((⟨w1.heap.size, 0, none⟩ : Addr).add j) = some u) := fun a u' => cells_set3 w1 a u' _ _ rfl
              go_wp2_with (first | (at_builtin; refine wpList_append_words rfl _ _ _ rfl i0 Tryz.underlying149 hi hz0 hz1 hz2 _ _ rfl ((FW _).alloc _) _ _ ⟨b, false, p + 1⟩ rfl (AC.out _ _) (by omega) ?_))
              intro v2 w2 F2
              go_wp2_with fail
              exact ⟨⟨m, _, by omega, by go_num, by simp; omega, F2, H⟩, by simp [intOf]; omega⟩
    · obtain rfl : p = s.size := by omega
      have H : Hid (r0 = .inr ws) := hid (by
        rw [R.out, List.drop_eq_nil_of_le (by rw [size_list]; exact Nat.le_refl _), T.rd_nil]
        simp [T.pre])
      clear R
      go_wp2_with fail
      go_ret
      exact RdPost.good H.out F
end Go.Proofs.YtncnogndopgknaaGreatDoor
