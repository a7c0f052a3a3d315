import Derived.Test.YtbpdmkohihgnjaaDoorP32
import Derived.Test.YtbpdmkohihgnjaaDoorP34
namespace Go.Proofs.YtbpdmkohihgnjaaDoor
open Go.RowKit
set_option maxHeartbeats 4000000
set_option maxRecDepth 100000
def WdAt (w : World) (ao : Option Addr) (ws : List L.T.Wd) : Prop := ws = [] ∨ ∃ b, ao = some ⟨b, 0, none⟩ ∧ b < w.heap.size ∧ ∀ t x, ws[t]? = some x → w.rangeAt b (t * 3) (L.wdC x)
theorem WdAt.on {W w : World} {ao : Option Addr} {ws : List L.T.Wd} (h : WdAt W ao ws) (hb : Below W.heap.size W w) : WdAt w ao ws := by
  rcases h with h | ⟨b, e, hl, hr⟩
  · exact .inl h
  · exact .inr ⟨b, e, Nat.lt_of_lt_of_le hl hb.size, fun t x hx j v hv => (hb.cell (p := ⟨b, t * 3 + j, none⟩) hl).trans (hr t x hx j v hv)⟩
theorem wds_at : ∀ (ws : List L.T.Wd) (t : Nat) (x : L.T.Wd), ws[t]? = some x → ∀ (j : Nat) (v : Value), (L.wdC x)[j]? = some v → (L.wdsC ws)[t * 3 + j]? = some v
  | [], t, x, h, _, _, _ => by simp at h
  | y :: ws, 0, x, h, j, v, hv => by
    simp only [List.getElem?_cons_zero, Option.some.injEq] at h
    subst h
    have hj := (List.getElem?_eq_some_iff.1 hv).1
    show (L.wdC y ++ L.wdsC ws)[0 * 3 + j]? = some v
    rw [Nat.zero_mul, Nat.zero_add, List.getElem?_append_left hj]
    exact hv
  | y :: ws, t + 1, x, h, j, v, hv => by
    have ih := wds_at ws t x (by simpa using h) j v hv
    show (L.wdC y ++ L.wdsC ws)[(t + 1) * 3 + j]? = some v
    have hl : (L.wdC y).length = 3 := rfl
    rw [List.getElem?_append_right (by rw [hl]; omega), hl, show (t + 1) * 3 + j - 3 = t * 3 + j by omega]
    exact ih
theorem wd_at {W w : World} {v : Value} {ws : List L.T.Wd} (h : L.HW W w v ws) : ∃ ao c, v = .slice ao ws.length c ∧ WdAt w ao ws ∧ (ws.length : Int) ≤ 9223372036854775807 := by
  obtain ⟨ao, c, rfl⟩ := L.own_form h.own
  refine ⟨ao, c, rfl, ?_⟩
  rcases h.own.2 with ⟨_, h0⟩ | ⟨g, cap, cur, hv, hB, hg, hn, hm, hsz, hx⟩
  · exact ⟨.inl (List.eq_nil_of_length_eq_zero h0), by omega⟩
  · simp only [Value.slice.injEq] at hv
    obtain ⟨rfl, _, _⟩ := hv
    refine ⟨.inr ⟨g, rfl, (Array.getElem?_eq_some_iff.1 hg).1, fun t x ht j u hu => ?_⟩, by unfold maxLen at hm; omega⟩
    have hj : j < 3 := (List.getElem?_eq_some_iff.1 hu).1
    have htl := (List.getElem?_eq_some_iff.1 ht).1
    have h1 := wds_at ws t x ht j u hu
    rw [← hx, List.getElem?_take_of_lt (by omega), Array.getElem?_toList] at h1
    simp only [World.cell?, hg]
    exact h1
theorem wdC_one (x : L.T.Wd) : (L.wdC x).all (·.oneCell') = true := rfl
theorem size165 : (Tryd.prog.info? 165).map (·.size) = some 3 := by kernel_rfl
def zword : Obj := .cells #[.string ⟨#[]⟩, .bool false, .int .i64 0] 165
attribute [-simp] Tryd.isAgg165 Tryd.zeroValue165
theorem quoted_any (W : World) (ao : Option Addr) (c : Nat) (ws : List L.T.Wd) (hw : WdAt W ao ws) (hmax : (ws.length : Int) ≤ 9223372036854775807) :
    Calls Tryd.prog 95 #[.slice ao ws.length c] W fun e W' => e = .returned (.bool (ws.any (·.quoted))) ∧ Below W.heap.size W W' := by
  have hz : ∀ w, (zeroValue 165).run Tryd.prog w = .ok (.agg #[.string ⟨#[]⟩, .bool false, .int .i64 0]) w := fun w => by rw [Tryd.zeroValue165]
  have HW0 := hid hw
  clear hw
  generalize hn : ws.length = n at *
  go_enter Tryd.func95, Tryd.ntmps95
  go_wp2_with fail
  go_loopw [7] (fun i wr => ∃ k : Nat, k ≤ n ∧ i = .int .i64 k ∧ Below W.heap.size W wr ∧ ws.any (·.quoted) = (ws.drop k).any (·.quoted)) (fun i _ => n - (intOf i).toNat)
  case atStart => exact ⟨0, Nat.zero_le _, rfl, Below.refl _ _, rfl⟩
  case round =>
    obtain ⟨k, hk, rfl, hbl, hq⟩ := hrel
    have B0 := hid hbl
    have HQ := hid hq
    have HA := hid (HW0.out.on hbl)
    clear hbl hq
    by_cases hlt : k < n
    · obtain ⟨b, rfl, hb, hra⟩ : ∃ b, ao = some ⟨b, 0, none⟩ ∧ b < wr.heap.size ∧ ∀ t x, ws[t]? = some x → wr.rangeAt b (t * 3) (L.wdC x) := by
        rcases HA.out with h | h
        · rw [h] at hn; simp at hn; omega
        · exact h
      have hRk : ws[k]? = some (ws[k]'(by omega)) := List.getElem?_eq_getElem (by omega)
      have hdr : ws.drop k = ws[k]'(by omega) :: ws.drop (k + 1) := List.drop_eq_getElem_cons (by omega)
      generalize ws[k]'(by omega) = x at *
      have HR : Hid (wr.rangeAt b (k * 3) (L.wdC x)) := hid (hra k x hRk)
      have HN := hid (show k + 1 ≤ n by omega)
      have i3 : (k : Int) < (n : Int) := by omega
      rw [hdr, List.any_cons] at HQ
      clear hra hRk hdr hk hn hlt hb HA
      go_upto_region 4 with (first | (refine wpList_load_mid rfl 165 _ rfl b (k * 3) rfl (L.wdC x) _ HR.out Tryd.underlying165 rfl size165 ?_) | (refine wpList_store_st rfl 165 _ _ rfl wr.heap.size (L.wdC x) rfl rfl (heap_alloc_new wr zword) size165 rfl (wdC_one x) ?_; intro w2 hc2 hb2 hs2; have Y2 : Hid (Below W.heap.size W w2 ∧ Cel w2 wr.heap.size 165 (L.wdC x)) := hid ⟨below_on B0.out (but_box hb2), hc2⟩; clear hc2 hb2 hs2))
      generalize wr.heap.size = g4 at *
      have c1 : w2.cell? ⟨g4, 1, none⟩ = some (.bool x.quoted) := Y2.out.2.cell 1
      clear B0 HR
      cases hq : x.quoted
      · rw [hq] at c1 HQ
        rw [Bool.false_or] at HQ
        go_wp2_with fail
        go_roundw
        case rel => exact ⟨k + 1, HN.out, by go_num, Y2.out.1, HQ.out⟩
        case measure => have := HN.out; simp [intOf]; omega
      · rw [hq] at c1 HQ
        rw [Bool.true_or] at HQ
        go_wp2_with fail
        go_ret
        exact ⟨by rw [HQ.out]; rfl, Y2.out.1⟩
    · obtain rfl : k = n := by omega
      have HF := hid (show ws.any (·.quoted) = false by rw [HQ.out, List.drop_of_length_le (by omega)]; rfl)
      clear HQ
      go_wp2_with fail
      go_ret
      exact ⟨by rw [HF.out]; rfl, B0.out⟩
theorem WdAt.text {w : World} {b : Nat} {ws : List L.T.Wd} (h : WdAt w (some ⟨b, 0, none⟩) ws) (k : Nat) (x : L.T.Wd) (hx : ws[k]? = some x) : w.cell? ⟨b, k * 3, none⟩ = some (.string ⟨x.text.toArray⟩) := by
  rcases h with h | ⟨b', e, _, hr⟩
  · rw [h] at hx; simp at hx
  · simp only [Option.some.injEq, Addr.mk.injEq] at e
    obtain ⟨rfl, _⟩ := e
    exact hr k x hx 0 _ rfl
end Go.Proofs.YtbpdmkohihgnjaaDoor
