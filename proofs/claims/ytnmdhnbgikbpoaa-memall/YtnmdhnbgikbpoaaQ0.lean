/- The law's lists: filled 62, grown 63, same 57, lent 65, slot 30. -/
import Derived.Test.YtnmdhnbgikbpoaaN8
import Derived.Deep.AppendLies
namespace Go.Proofs.Ytnmdhnbgikbpoaa
open Go.RowKit
theorem slot_any (w : World) (n : Int) : Calls Try.prog 30 #[.int .i64 n] w fun x w' => x = .returned (.int .i64 (n % 4)) ∧ w' = w := by
  go_enter Try.func30, Try.ntmps30
  go_wp2_with fail
  go_ret
  exact ⟨ret_int (mod4 n), rfl⟩
def fillL (L : List Int) (j : Nat) (a : Int) : List Int := List.replicate j a ++ L.drop j
theorem fillL_zero (L : List Int) (a : Int) : fillL L 0 a = L := by simp [fillL]
theorem fillL_full (L : List Int) (a : Int) : fillL L L.length a = List.replicate L.length a := by simp [fillL]
theorem fillL_len (L : List Int) (j : Nat) (a : Int) (h : j ≤ L.length) : (fillL L j a).length = L.length := by simp [fillL]; omega
theorem fillL_set (L : List Int) (j : Nat) (a : Int) (h : j < L.length) : (fillL L j a).set j a = fillL L (j + 1) a := by
  unfold fillL
  rw [List.set_append_right _ _ (by simp), List.length_replicate, Nat.sub_self, List.drop_eq_getElem_cons h, List.set_cons_zero, List.replicate_succ']
  simp
set_option maxRecDepth 40000 in
theorem filled_any (w : World) (g : Nat) (L : List Int) (a : Int) (c : Nat) (h : Cel w g 32 (u32s L)) (hn : L.length ≤ 140737488351232) :
    Calls Try.prog 62 #[.slice (some ⟨g, 0, none⟩) L.length c, .int .u32 a] w fun x w' => x = .returned (.tuple #[]) ∧ Cel w' g 32 (u32s (List.replicate L.length a)) ∧ ButL [g] w w' := by
  have n1 : (L.length : Int) ≤ 140737488351232 := by omega
  have H : Hid (Cel w g 32 (u32s (fillL L 0 a))) := hid (by rw [fillL_zero]; exact h)
  clear h hn
  go_enter Try.func62, Try.ntmps62
  go_wp2_with fail
  go_loopw [4] (fun i wr => ∃ j : Nat, j ≤ L.length ∧ i = .int .i64 (j : Int) ∧ Hid (Cel wr g 32 (u32s (fillL L j a))) ∧ Hid (ButL [g] w wr)) (fun i _ => L.length - (intOf i).toNat)
  case atStart => exact ⟨0, Nat.zero_le _, rfl, H, hid (.refl _ _)⟩
  case round =>
    obtain ⟨j, hj, rfl, HC, HB⟩ := hrel
    by_cases hlt : j < L.length
    · have c1 : (j : Int) < (L.length : Int) := by omega
      obtain ⟨old, ho⟩ : ∃ old, wr.cell? ⟨g, j, none⟩ = some (.int .u32 old) := ⟨(fillL L j a)[j]'(by rw [fillL_len _ _ _ hj]; exact hlt), by rw [HC.out.cell j, u32s, List.getElem?_map, List.getElem?_eq_getElem (by rw [fillL_len _ _ _ hj]; exact hlt)]; rfl⟩
      have hf := HC.out.free j
      have HC2 : Hid (Cel (wr.setCell ⟨g, j, none⟩ (.int .u32 a)) g 32 (u32s (fillL L (j + 1) a))) := hid (by rw [← fillL_set _ _ _ hlt, ← u32s_set]; exact HC.out.setCell j _)
      have HB2 : Hid (ButL [g] w (wr.setCell ⟨g, j, none⟩ (.int .u32 a))) := hid (HB.out.trans (.setCell _ _ _ _ (by simp)))
      go_wp2_with fail
      go_roundw
      case measure => simp [intOf] <;> omega
      case rel => exact ⟨j + 1, by omega, by go_num, HC2, HB2⟩
    · obtain rfl : j = L.length := by omega
      rw [fillL_full] at HC
      go_wp2_with fail
      go_end0
      exact ⟨rfl, HC.out, HB.out⟩
set_option maxRecDepth 40000 in
theorem filled_nil (w : World) (a : Int) : Calls Try.prog 62 #[.slice none 0 0, .int .u32 a] w fun x w' => x = .returned (.tuple #[]) ∧ w' = w := by
  go_enter Try.func62, Try.ntmps62
  go_wp2_with fail
  go_loopw [4] (fun i wr => i = .int .i64 0 ∧ w = wr) (fun _ _ => 0)
  case atStart => exact ⟨rfl, rfl⟩
  case round =>
    obtain ⟨rfl, rfl⟩ := hrel
    go_wp2_with fail
    go_end0
    exact ⟨rfl, rfl⟩
/-- append onto a list that is full. -/
theorem wpList_append_full {w : World} {ops : Array Oper} {rest : List Oper} {o : Oper} {a : Act} {Q : Exit → Act → World → Prop} (hgd : o.guard = none) (s x : Operand)
    (ho : o.op = .call { callee := .builtin .append, args := #[s, x], argTypes := #[24, 24] }) (g n : Nat) (L : List Int) (hs : a.eval s = .slice (some ⟨g, 0, none⟩) n n) (hL : L.length = n) (hg : ∀ j u, (u32s L)[j]? = some u → w.cell? ((⟨g, 0, none⟩ : Addr).add j) = some u) (ad : Addr) (m c : Nat) (xs : List Int) (hx : a.eval x = .slice (some ad) m c) (hl : xs.length = m) (hm : 0 < m)
    (hsrc : ∀ j u, (u32s xs)[j]? = some u → w.cell? (ad.add j) = some u) (hbytes : (n + m) * 4 ≤ 140737488355328)
    (h : ∀ v' w', Hl w w' v' (L ++ xs) → wpList Try.prog ops Q rest (a.put o.dst v') w') : wpList Try.prog ops Q (o :: rest) a w := by
  obtain ⟨i, hi, hz, hsize, hby⟩ := info_parts info32
  obtain ⟨v', w', h1, h2, h3⟩ := run_append_arg_grows (P := Try.prog) w 24 o.type 32 i (.int .u32 0) 1 4 under24 hi hz hsize hby rfl (by decide) ⟨g, 0, none⟩ n n (u32s L) (by rw [u32s_len, hL, Nat.mul_one]) hg ad m c (u32s xs) (by rw [u32s_len, hl, Nat.mul_one]) hsrc (by omega) (by unfold maxLen; omega) hbytes
  have hH : Hl w w' v' (L ++ xs) := ⟨by
    have e : u32s (L ++ xs) = u32s L ++ u32s xs := by simp [u32s]
    rw [e, List.length_append, hl, hL]; exact h2, (Below.refl _ _).grown h3 (Nat.le_refl _) (fun g hg => by cases hg)⟩
  refine wpList_plain hgd fun K hK => ?_
  unfold Oper.wp execOp
  simp only [ho, resolve, invoke, builtin, Sem.run_bind, Sem.run_pure, Result.andThen_ok, List.map_toArray, List.map_cons, List.map_nil, hs, hx, h1]
  exact hK _ _ (h _ _ hH)
set_option maxRecDepth 40000 in
theorem grown_nil (w : World) (a : Int) : Calls Try.prog 63 #[.slice none 0 0, .int .u32 a] w fun x w' => ∃ y, x = .returned y ∧ Hl w w' y (List.replicate 80 a) := by
  go_enter Try.func63, Try.ntmps63
  go_wp2_with fail
  go_loopw [0, 5] (fun v i wr => ∃ j : Nat, j ≤ 80 ∧ i = .int .i64 (j : Int) ∧ Hid (Hl w wr v (List.replicate j a))) (fun _ i _ => 80 - (intOf i).toNat)
  case atStart => exact ⟨0, Nat.zero_le _, rfl, hid (Hl.start w)⟩
  case round =>
    obtain ⟨j, hj, rfl, F⟩ := hrel
    by_cases hlt : j < 80
    · have c1 : (j : Int) < 80 := by omega
      have HT : Hid (List.replicate (j + 1) a = List.replicate j a ++ [a]) := hid List.replicate_succ'
      have hby : ((List.replicate j a).length + 1) * 4 ≤ 140737488355328 := by rw [List.length_replicate]; omega
      obtain ⟨LL, hLL⟩ : ∃ LL, LL = List.replicate j a := ⟨_, rfl⟩
      rw [← hLL] at F hby HT
      clear hLL
      go_wp2_with (first | (at_builtin; refine wpList_append_w (W := w) rfl _ _ rfl u0 LL rfl (F.out.on (below_one _ _)) ⟨wr.heap.size, 0, none⟩ 1 1 [a] rfl rfl (new_src _ _) hby ?_; intro v' w2 H2 _; have H2' : Hid _ := hid H2; clear H2))
      go_roundw
      case rel => exact ⟨j + 1, by omega, by go_num, by rw [HT.out]; exact H2'⟩
      case measure => simp [intOf] <;> omega
    · obtain rfl : j = 80 := by omega
      go_wp2_with fail
      go_ret
      exact ⟨_, rfl, F.out⟩
theorem Hl.from {w w0 w' : World} {v : Value} {L : List Int} (h : Hl w0 w' v L) (hb : Below w.heap.size w w0) : Hl w w' v L :=
  ⟨⟨h.own.1, h.own.2.imp id fun ⟨g, cap, cur, hv, hB, r⟩ => ⟨g, cap, cur, hv, Nat.le_trans hb.size hB, r⟩⟩, below_on hb h.below⟩
set_option maxRecDepth 40000 in
set_option maxHeartbeats 4000000 in
theorem grown_any (w : World) (g : Nat) (L : List Int) (a : Int) (h : Cel w g 32 (u32s L)) (hn : L.length = 1024) :
    Calls Try.prog 63 #[.slice (some ⟨g, 0, none⟩) 1024 1024, .int .u32 a] w fun x w' => ∃ y, x = .returned y ∧ Hl w w' y (L ++ List.replicate 80 a) := by
  have H := hid h
  have HN := hid hn
  clear h hn
  go_enter Try.func63, Try.ntmps63
  go_wp2_with fail
  go_loopw [0, 5] (fun v i wr => ∃ j : Nat, j ≤ 80 ∧ i = .int .i64 (j : Int) ∧ Hid ((j = 0 ∧ v = .slice (some ⟨g, 0, none⟩) 1024 1024 ∧ wr = w) ∨ (0 < j ∧ Hl w wr v (L ++ List.replicate j a)))) (fun _ i _ => 80 - (intOf i).toNat)
  case atStart => exact ⟨0, Nat.zero_le _, rfl, hid (.inl ⟨rfl, rfl, rfl⟩)⟩
  case round =>
    obtain ⟨j, hj, rfl, F⟩ := hrel
    by_cases hlt : j < 80
    · have c1 : (j : Int) < 80 := by omega
      have HT : Hid (L ++ List.replicate (j + 1) a = L ++ List.replicate j a ++ [a]) := hid (by rw [List.replicate_succ', List.append_assoc])
      rcases F.out with ⟨rfl, rfl, rfl⟩ | ⟨h0, F2⟩
      · have HCA := hid (H.out.on (below_one wr (.cells #[.int .u32 a] 32)))
        go_wp2_with (first | (at_builtin; refine wpList_append_full rfl _ _ rfl g 1024 L rfl HN.out HCA.out.src ⟨wr.heap.size, 0, none⟩ 1 1 [a] rfl rfl (by decide) (new_src _ _) (by decide) ?_; intro v' w2 H2; have H2' : Hid _ := hid H2; clear H2))
        go_roundw
        case rel => exact ⟨1, by omega, rfl, hid (.inr ⟨by decide, Hl.from (H2'.out) (below_one _ _)⟩)⟩
        case measure => simp [intOf]
      · have F3 := hid F2
        have hby : ((L ++ List.replicate j a).length + 1) * 4 ≤ 140737488355328 := by rw [List.length_append, List.length_replicate, HN.out]; omega
        obtain ⟨LL, hLL⟩ : ∃ LL, LL = L ++ List.replicate j a := ⟨_, rfl⟩
        rw [← hLL] at F2 F3 hby HT
        clear hLL F F2
        go_wp2_with (first | (at_builtin; refine wpList_append_w (W := w) rfl _ _ rfl u0 LL rfl (F3.out.on (below_one _ _)) ⟨wr.heap.size, 0, none⟩ 1 1 [a] rfl rfl (new_src _ _) hby ?_; intro v' w2 H2 _; have H2' : Hid _ := hid H2; clear H2))
        go_roundw
        case rel => exact ⟨j + 1, by omega, by go_num, hid (.inr ⟨by omega, by rw [HT.out]; exact H2'.out⟩)⟩
        case measure => simp [intOf] <;> omega
    · obtain rfl : j = 80 := by omega
      rcases F.out with ⟨h0, _⟩ | ⟨h0, F2⟩
      · omega
      · have F3 := hid F2
        clear F F2
        go_wp2_with fail
        go_ret
        exact ⟨_, rfl, F3.out⟩
end Go.Proofs.Ytnmdhnbgikbpoaa
