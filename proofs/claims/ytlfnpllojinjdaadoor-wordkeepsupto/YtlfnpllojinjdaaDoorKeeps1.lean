import Derived.Test.YtlfnpllojinjdaaDoorAll4
import Derived.Laws.AppendOwnNone
namespace Go.Proofs.YtlfnpllojinjdaaDoor
open Go.RowKit

/-- The first t marks. -/
def mk (t : Nat) : List Int := (List.range t).map fun i => ((i : Nat) : Int)
theorem mk_succ (t : Nat) : mk (t + 1) = mk t ++ [(t : Int)] := by simp [mk, List.range_succ]
theorem mk_length (t : Nat) : (mk t).length = t := by simp [mk]
def mb (t : Nat) : List Int := (List.range t).map fun i => ((i : Nat) : Int) % 256
theorem mb_succ (t : Nat) : mb (t + 1) = mb t ++ [(t : Int) % 256] := by simp [mb, List.range_succ]
theorem mb_length (t : Nat) : (mb t).length = t := by simp [mb]
theorem At.cells {W : World} {k : IntKind} {a : Addr} {xs : List Int} (h : At W k (some a) xs) : ∀ j u, (xs.map (Value.int k))[j]? = some u → W.cell? (a.add j) = some u := by
  rcases h with rfl | ⟨b, off, hao, _, hr⟩
  · intro j u hu; simp at hu
  · intro j u hu
    obtain rfl := Option.some.inj hao
    have e1 : (⟨b, off, none⟩ : Addr).add j = ⟨b, off + j, none⟩ := by unfold Addr.add; split <;> simp_all
    have hj : j < xs.length := by
      rcases Nat.lt_or_ge j xs.length with h | h
      · exact h
      · simp [List.getElem?_eq_none (show (xs.map (Value.int k)).length ≤ j by simpa using h)] at hu
    rw [e1, hr j hj]
    simp [List.getElem?_eq_getElem hj] at hu
    simp [List.getD_eq_getElem?_getD, hj, hu]
set_option maxRecDepth 20000 in
set_option maxHeartbeats 1000000 in
theorem lent_any (W : World) (ao : Option Addr) (n cap : Nat) (xs : List Int) (hx : xs.length = n) (h1 : At W .u32 ao xs) (hnil : ao = none → cap = 0 ∧ n = 0) (hn : n ≤ 4194304) :
    Calls Tryd.prog 38 #[.slice ao n cap] W fun e W' => ∃ v, e = .returned v ∧ Holds W W' .u32 22 v (xs ++ mk 300) := by
  obtain ⟨i0, hi, hz0, hz1, hz2⟩ := info_parts Tryd.info22
  have hown0 : W.ownsRow W.heap.size 22 1 (.slice none 0 0) 0 [] := World.ownsRow_nil _ _ _ _
  have start : ∀ v w1, Holds W w1 .u32 22 v xs → Holds W w1 .u32 22 v (xs ++ mk 0) := fun v w1 h => by simpa [mk] using h
  rcases ao with _ | ad
  · obtain ⟨rfl, rfl⟩ := hnil rfl
    have hxs : xs = [] := List.eq_nil_of_length_eq_zero hx
    subst hxs
    have HH : Hid (Holds W W .u32 22 (.slice none 0 0) ([] ++ mk 0)) := Holds.start W .u32 22
    clear hnil h1 start
    go_enter Tryd.func38, Tryd.ntmps38
    go_wp2_with (first | (at_builtin; refine wpList_append_own_none rfl _ _ 32 rfl W.heap.size 22 i0 1 Tryd.underlying32 hi _ 0 [] rfl hown0 rfl ?_))
    go_wp2
    go_loopw [3, 4] (fun v i wr => ∃ t : Nat, t ≤ 300 ∧ i = .int .i64 t ∧ Holds W wr .u32 22 v (([] : List Int) ++ mk t)) (fun _ i _ => 300 - (intOf i).toNat)
    case atStart => exact ⟨0, by decide, rfl, HH.out⟩
    case round =>
      obtain ⟨t, ht, rfl, F⟩ := hrel
      by_cases hlt : t < 300
      · have ho := F.own
        have hbl := F.below
        have HV : Hid (∀ g, u3.ownBlock = some g → W.heap.size ≤ g) := fun g hg => (ho.lt g hg).1
        have hkl : (([] : List Int) ++ mk t).length = 0 + t := by simp [mk_length]
        rw [hkl] at ho
        have HO : Hid (wr.ownsRow W.heap.size 22 1 u3 (0 + t) ((([] : List Int) ++ mk t).map (Value.int .u32))) := ho
        have h63' : 0 + t + 1 ≤ maxLen := by unfold maxLen; omega
        have hby' : (0 + t + 1) * 4 ≤ 140737488355328 := by omega
        have hba : W.heap.size ≤ (wr.alloc (.cells #[.int .u32 (t : Int)] 22)).heap.size := by have := hbl.size; simp; omega
        clear F ho
        go_wp2_with (first | (at_builtin; refine wpList_append_own _ rfl _ _ 32 rfl W.heap.size 22 i0 (.int .u32 0) 1 4 Tryd.underlying32 hi hz0 hz1 hz2 rfl (by decide) u3 (0 + t) _ rfl (HO.out.alloc _) ⟨wr.heap.size, 0, none⟩ 1 1 [.int .u32 (t : Int)] rfl rfl (cell_one_new _ _ _) (ints_oneCell .u32 [(t : Int)]) h63' hby' hba ?_))
        intro v' w2 hown2 hgrow2 _
        have HH' : Hid (Holds W w2 .u32 22 v' (([] : List Int) ++ mk (t + 1))) := by
          rw [mk_succ, ← List.append_assoc]
          exact Holds.grow (hbl.alloc hbl.size _) HV.out hown2 hgrow2 (by simp [mk_length]) (by simp)
        clear hown2 hgrow2 HO h63' hby' hba
        go_wp2
        go_roundw
        case rel => exact ⟨t + 1, by omega, by go_num, HH'.out⟩
        case measure => simp [intOf]; omega
      · obtain rfl : t = 300 := by omega
        have HF : Hid _ := F
        clear F
        go_wp2
        go_ret
        exact ⟨_, rfl, HF.out⟩
  · have hc := h1.cells
    have hlen : (xs.map (Value.int .u32)).length = n * 1 := by simp [hx]
    have h63 : 0 + n ≤ maxLen := by unfold maxLen; omega
    have hby : (0 + n) * 4 ≤ 140737488355328 := by omega
    clear hnil
    go_enter Tryd.func38, Tryd.ntmps38
    go_wp2_with (first | (at_builtin; refine wpList_append_own _ rfl _ _ 32 rfl W.heap.size 22 i0 (.int .u32 0) 1 4 Tryd.underlying32 hi hz0 hz1 hz2 rfl (by decide) (.slice none 0 0) 0 [] rfl hown0 ad n cap (xs.map (Value.int .u32)) rfl hlen hc (ints_oneCell .u32 xs) h63 hby (Nat.le_refl _) ?_))
    intro v1 w1 hown1 hgrow1 _
    have HH : Hid (Holds W w1 .u32 22 v1 (xs ++ mk 0)) := start v1 w1 (Holds.grow (Below.refl _ _) (fun g hg => by cases hg) hown1 hgrow1 (by simp [hx]) (by simp))
    clear hown1 hgrow1 hc start
    go_wp2
    go_loopw [3, 4] (fun v i wr => ∃ t : Nat, t ≤ 300 ∧ i = .int .i64 t ∧ Holds W wr .u32 22 v (xs ++ mk t)) (fun _ i _ => 300 - (intOf i).toNat)
    case atStart => exact ⟨0, by decide, rfl, HH.out⟩
    case round =>
      obtain ⟨t, ht, rfl, F⟩ := hrel
      by_cases hlt : t < 300
      · have ho := F.own
        have hbl := F.below
        have HV : Hid (∀ g, u3.ownBlock = some g → W.heap.size ≤ g) := fun g hg => (ho.lt g hg).1
        have hkl : (xs ++ mk t).length = n + t := by simp [mk_length, hx]
        rw [hkl] at ho
        have HO : Hid (wr.ownsRow W.heap.size 22 1 u3 (n + t) ((xs ++ mk t).map (Value.int .u32))) := ho
        have h63' : n + t + 1 ≤ maxLen := by unfold maxLen; omega
        have hby' : (n + t + 1) * 4 ≤ 140737488355328 := by omega
        have hba : W.heap.size ≤ (wr.alloc (.cells #[.int .u32 (t : Int)] 22)).heap.size := by have := hbl.size; simp; omega
        clear F ho
        go_wp2_with (first | (at_builtin; refine wpList_append_own _ rfl _ _ 32 rfl W.heap.size 22 i0 (.int .u32 0) 1 4 Tryd.underlying32 hi hz0 hz1 hz2 rfl (by decide) u3 (n + t) _ rfl (HO.out.alloc _) ⟨wr.heap.size, 0, none⟩ 1 1 [.int .u32 (t : Int)] rfl rfl (cell_one_new _ _ _) (ints_oneCell .u32 [(t : Int)]) h63' hby' hba ?_))
        intro v' w2 hown2 hgrow2 _
        have HH' : Hid (Holds W w2 .u32 22 v' (xs ++ mk (t + 1))) := by
          rw [mk_succ, ← List.append_assoc]
          exact Holds.grow (hbl.alloc hbl.size _) HV.out hown2 hgrow2 (by simp [mk_length, hx]; try omega) (by simp)
        clear hown2 hgrow2 HO h63' hby' hba
        go_wp2
        go_roundw
        case rel => exact ⟨t + 1, by omega, by go_num, HH'.out⟩
        case measure => simp [intOf]; omega
      · obtain rfl : t = 300 := by omega
        have HF : Hid _ := F
        clear F
        go_wp2
        go_ret
        exact ⟨_, rfl, HF.out⟩
set_option maxRecDepth 20000 in
set_option maxHeartbeats 1000000 in
theorem raw_any (W : World) (ao : Option Addr) (n cap : Nat) (xs : List Int) (hx : xs.length = n) (h1 : At W .u8 ao xs) (hnil : ao = none → cap = 0 ∧ n = 0) (hn : n ≤ 4194304) :
    Calls Tryd.prog 39 #[.slice ao n cap] W fun e W' => ∃ v, e = .returned v ∧ Holds W W' .u8 5 v (xs ++ mb 300) := by
  obtain ⟨i0, hi, hz0, hz1, hz2⟩ := info_parts Tryd.info5
  have hown0 : W.ownsRow W.heap.size 5 1 (.slice none 0 0) 0 [] := World.ownsRow_nil _ _ _ _
  have start : ∀ v w1, Holds W w1 .u8 5 v xs → Holds W w1 .u8 5 v (xs ++ mb 0) := fun v w1 h => by simpa [mb] using h
  rcases ao with _ | ad
  · obtain ⟨rfl, rfl⟩ := hnil rfl
    have hxs : xs = [] := List.eq_nil_of_length_eq_zero hx
    subst hxs
    have HH : Hid (Holds W W .u8 5 (.slice none 0 0) ([] ++ mb 0)) := Holds.start W .u8 5
    clear hnil h1 start
    go_enter Tryd.func39, Tryd.ntmps39
    go_wp2_with (first | (at_builtin; refine wpList_append_own_none rfl _ _ 36 rfl W.heap.size 5 i0 1 Tryd.underlying36 hi _ 0 [] rfl hown0 rfl ?_))
    go_wp2
    go_loopw [3, 4] (fun v i wr => ∃ t : Nat, t ≤ 300 ∧ i = .int .i64 t ∧ Holds W wr .u8 5 v (([] : List Int) ++ mb t)) (fun _ i _ => 300 - (intOf i).toNat)
    case atStart => exact ⟨0, by decide, rfl, HH.out⟩
    case round =>
      obtain ⟨t, ht, rfl, F⟩ := hrel
      by_cases hlt : t < 300
      · have ho := F.own
        have hbl := F.below
        have HV : Hid (∀ g, u3.ownBlock = some g → W.heap.size ≤ g) := fun g hg => (ho.lt g hg).1
        have hkl : (([] : List Int) ++ mb t).length = 0 + t := by simp [mb_length]
        rw [hkl] at ho
        have HO : Hid (wr.ownsRow W.heap.size 5 1 u3 (0 + t) ((([] : List Int) ++ mb t).map (Value.int .u8))) := ho
        have h63' : 0 + t + 1 ≤ maxLen := by unfold maxLen; omega
        have hby' : (0 + t + 1) * 1 ≤ 140737488355328 := by omega
        have hba : W.heap.size ≤ (wr.alloc (.cells #[.int .u8 ((t : Int) % 256)] 5)).heap.size := by have := hbl.size; simp; omega
        clear F ho
        go_wp2_with (first | (at_builtin; refine wpList_append_own _ rfl _ _ 36 rfl W.heap.size 5 i0 (.int .u8 0) 1 1 Tryd.underlying36 hi hz0 hz1 hz2 rfl (by decide) u3 (0 + t) _ rfl (HO.out.alloc _) ⟨wr.heap.size, 0, none⟩ 1 1 [.int .u8 ((t : Int) % 256)] rfl rfl (cell_one_new _ _ _) (ints_oneCell .u8 [((t : Int) % 256)]) h63' hby' hba ?_))
        intro v' w2 hown2 hgrow2 _
        have HH' : Hid (Holds W w2 .u8 5 v' (([] : List Int) ++ mb (t + 1))) := by
          rw [mb_succ, ← List.append_assoc]
          exact Holds.grow (hbl.alloc hbl.size _) HV.out hown2 hgrow2 (by simp [mb_length]) (by simp)
        clear hown2 hgrow2 HO h63' hby' hba
        go_wp2
        go_roundw
        case rel => exact ⟨t + 1, by omega, by go_num, HH'.out⟩
        case measure => simp [intOf]; omega
      · obtain rfl : t = 300 := by omega
        have HF : Hid _ := F
        clear F
        go_wp2
        go_ret
        exact ⟨_, rfl, HF.out⟩
  · have hc := h1.cells
    have hlen : (xs.map (Value.int .u8)).length = n * 1 := by simp [hx]
    have h63 : 0 + n ≤ maxLen := by unfold maxLen; omega
    have hby : (0 + n) * 1 ≤ 140737488355328 := by omega
    clear hnil
    go_enter Tryd.func39, Tryd.ntmps39
    go_wp2_with (first | (at_builtin; refine wpList_append_own _ rfl _ _ 36 rfl W.heap.size 5 i0 (.int .u8 0) 1 1 Tryd.underlying36 hi hz0 hz1 hz2 rfl (by decide) (.slice none 0 0) 0 [] rfl hown0 ad n cap (xs.map (Value.int .u8)) rfl hlen hc (ints_oneCell .u8 xs) h63 hby (Nat.le_refl _) ?_))
    intro v1 w1 hown1 hgrow1 _
    have HH : Hid (Holds W w1 .u8 5 v1 (xs ++ mb 0)) := start v1 w1 (Holds.grow (Below.refl _ _) (fun g hg => by cases hg) hown1 hgrow1 (by simp [hx]) (by simp))
    clear hown1 hgrow1 hc start
    go_wp2
    go_loopw [3, 4] (fun v i wr => ∃ t : Nat, t ≤ 300 ∧ i = .int .i64 t ∧ Holds W wr .u8 5 v (xs ++ mb t)) (fun _ i _ => 300 - (intOf i).toNat)
    case atStart => exact ⟨0, by decide, rfl, HH.out⟩
    case round =>
      obtain ⟨t, ht, rfl, F⟩ := hrel
      by_cases hlt : t < 300
      · have ho := F.own
        have hbl := F.below
        have HV : Hid (∀ g, u3.ownBlock = some g → W.heap.size ≤ g) := fun g hg => (ho.lt g hg).1
        have hkl : (xs ++ mb t).length = n + t := by simp [mb_length, hx]
        rw [hkl] at ho
        have HO : Hid (wr.ownsRow W.heap.size 5 1 u3 (n + t) ((xs ++ mb t).map (Value.int .u8))) := ho
        have h63' : n + t + 1 ≤ maxLen := by unfold maxLen; omega
        have hby' : (n + t + 1) * 1 ≤ 140737488355328 := by omega
        have hba : W.heap.size ≤ (wr.alloc (.cells #[.int .u8 ((t : Int) % 256)] 5)).heap.size := by have := hbl.size; simp; omega
        clear F ho
        go_wp2_with (first | (at_builtin; refine wpList_append_own _ rfl _ _ 36 rfl W.heap.size 5 i0 (.int .u8 0) 1 1 Tryd.underlying36 hi hz0 hz1 hz2 rfl (by decide) u3 (n + t) _ rfl (HO.out.alloc _) ⟨wr.heap.size, 0, none⟩ 1 1 [.int .u8 ((t : Int) % 256)] rfl rfl (cell_one_new _ _ _) (ints_oneCell .u8 [((t : Int) % 256)]) h63' hby' hba ?_))
        intro v' w2 hown2 hgrow2 _
        have HH' : Hid (Holds W w2 .u8 5 v' (xs ++ mb (t + 1))) := by
          rw [mb_succ, ← List.append_assoc]
          exact Holds.grow (hbl.alloc hbl.size _) HV.out hown2 hgrow2 (by simp [mb_length, hx]; try omega) (by simp)
        clear hown2 hgrow2 HO h63' hby' hba
        go_wp2
        go_roundw
        case rel => exact ⟨t + 1, by omega, by go_num, HH'.out⟩
        case measure => simp [intOf]; omega
      · obtain rfl : t = 300 := by omega
        have HF : Hid _ := F
        clear F
        go_wp2
        go_ret
        exact ⟨_, rfl, HF.out⟩
end Go.Proofs.YtlfnpllojinjdaaDoor
