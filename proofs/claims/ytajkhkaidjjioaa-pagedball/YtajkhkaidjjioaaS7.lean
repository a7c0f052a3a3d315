/- The document's Words 65. -/
import Derived.Test.YtajkhkaidjjioaaS1
namespace Go.Proofs.Ytajkhkaidjjioaa
open Go.RowKit
set_option maxHeartbeats 4000000
set_option maxRecDepth 100000
theorem Hl.one (W : World) (x : Int) : Hl W (W.alloc (.cells #[.int .u32 x] 27)) (.slice (some ⟨W.heap.size, 0, none⟩) 1 1) [x] :=
  ⟨⟨rfl, .inr ⟨W.heap.size, 1, #[.int .u32 x], rfl, Nat.le_refl _, heap_alloc_new _ _, Nat.le_refl _, by unfold maxLen; decide, rfl, rfl⟩⟩, below_one _ _⟩
def dws (b : Int) (E : List En) (j : Nat) : List Int := b :: (E.take j).flatMap ew
theorem dws_succ (b : Int) (E : List En) (j : Nat) (h : j < E.length) : dws b E (j + 1) = dws b E j ++ [e0 (E.getD j En.zero), e1 (E.getD j En.zero)] := by
  have e : E.take (j + 1) = E.take j ++ [E.getD j En.zero] := by
    rw [List.take_add_one, List.getD_eq_getElem?_getD]
    simp [h]
  simp [dws, e, ew]
theorem dws_len (b : Int) (E : List En) (j : Nat) (h : j ≤ E.length) : (dws b E j).length = 1 + 2 * j := by
  rw [dws, List.length_cons, flat_len, List.length_take]
  omega
theorem dws_all (b : Int) (E : List En) : dws b E E.length = wdsOf b E := by simp [dws, wdsOf]
theorem new_src2 (w : World) (x y : Int) : ∀ j u, (u32s [x, y])[j]? = some u → (w.alloc (.cells #[.int .u32 x, .int .u32 y] 27)).cell? ((⟨w.heap.size, 0, none⟩ : Addr).add j) = some u := (Cel.new w 27 (u32s [x, y])).src
theorem rwords_any (W : World) (p : Rp) (d : DS) (h : RDB W p d) :
    Calls Try.prog 65 #[ptr p.g] W fun x W' => ∃ v, x = .returned v ∧ Hl W W' v d.ws := by
  have c1 := h.c2
  have HW := hid h
  have HN : Hid (d.m.ns ≤ 64) := hid h.ok.n64
  have HE : Hid (d.E.length = d.m.ns) := hid h.ok.len
  have HR := hid (fun w (hw : RDB w p d) k hk => And.intro hw.c1 (hw.rng k hk))
  have HC := hid (fun w (hw : RDB w p d) => hw.c1)
  have HK := hid (fun w k => rencode_any w (d.at k))
  have wb : d.b % 4294967296 = d.b := by have := h.ok.b0; have := h.ok.b1; omega
  have HS0 := hid (Hl.one W d.b)
  clear h
  generalize d.m.ns = n at *
  simp only [ptr, En.v, twoV, two] at *
  go_enter Try.func65, Try.ntmps65
  go_wp2_with fail
  generalize W.alloc _ = X at *
  have HL0 : Hid (Hl W X (.slice (some ⟨W.heap.size, 0, none⟩) 1 1) (dws d.b d.E 0)) := HS0
  clear HS0 c1
  go_loopw [3, 4] (fun l i wr => ∃ j : Nat, j ≤ n ∧ i = .int .i64 (j : Int) ∧ Hid (Hl W wr l (dws d.b d.E j))) (fun _ i _ => n - (intOf i).toNat)
  case atStart => exact ⟨0, Nat.zero_le _, rfl, HL0⟩
  case round =>
    obtain ⟨j, hj, rfl, HQ⟩ := hrel
    clear HL0
    by_cases hlt : j < n
    · have q1 : (j : Int) < (n : Int) := by omega
      have HRW := hid (HW.out.on HQ.out.below)
      have c1 := HC.out _ HRW.out
      have HRR := hid (HR.out _ HRW.out j hlt).2
      have HJ := hid hlt
      have hn64 := HN.out
      have j64 : (j : Int) ≤ 64 := by omega
      have HS := hid (dws_succ d.b d.E j (by rw [HE.out]; exact hlt))
      have hll := dws_len d.b d.E j (by rw [HE.out]; exact hj)
      have hby : ((dws d.b d.E j).length + 2) * 4 ≤ 140737488355328 := by omega
      have HK2 := hid (fun w => HK.out w j)
      have hat : d.E.getD j En.zero = d.at j := rfl
      rw [hat] at HS
      clear hat
      generalize d.at j = D at *
      obtain ⟨ao, cc, hvf, _⟩ := HQ.out.form
      subst hvf
      clear hll hn64 hlt hj
      generalize dws d.b d.E j = LL at *
      generalize e0 D = a0 at *
      generalize e1 D = a1 at *
      generalize chk D = ck at *
      go_upto_region 6 with (first | (refine wpList_load_mid rfl 124 _ rfl p.ge (j * 5) (by go_simp) _ _ HRR.out underR rfl (by rw [sizeR]; rfl) ?_) | (go_at_call 97; refine (HK2.out _).mono ?_; rintro e w1 ⟨rfl, hb⟩; have HB1 := hid hb; clear hb) | (refine wpList_store_st rfl 137 _ _ rfl w1.heap.size [.int .u32 a0, .int .u32 a1] rfl rfl (Cel.new w1 137 [.int .u32 0, .int .u32 0]) sizeA rfl rfl ?_; intro w2 hc hb hs; have HC5 := hid hc; have HB2 := hid (new_below HB1.out hb); clear hc hb hs))
      have k0 := HC5.out.cell 0
      have k1 := HC5.out.cell 1
      simp only [List.getElem?_cons_zero, List.getElem?_cons_succ] at k0 k1
      generalize w1.heap.size = g5 at *
      have HQ2 := hid (HQ.out.on HB2.out)
      have HQ3 := hid (HQ2.out.on (below_one w2 (.cells #[.int .u32 a0, .int .u32 a1] 27)))
      clear c1
      go_wp2_with (at_builtin; refine wpList_append_w (W := W) rfl _ _ rfl (.slice ao LL.length cc) LL rfl HQ3.out ⟨w2.heap.size, 0, none⟩ 2 2 [a0, a1] rfl rfl (new_src2 _ a0 a1) hby ?_; intro v' w3 H3 _; obtain ⟨ao2, cc2, e9, _⟩ := H3.form; subst e9; have HN2 := hid H3; clear H3)
      go_roundw
      case measure => have := HJ.out; simp [intOf] <;> omega
      case rel => exact ⟨j + 1, HJ.out, by simp, by rw [HS.out]; have h9 := HN2.out; rw [List.length_append] at h9; exact hid h9⟩
    · have hjn : j = n := by omega
      subst hjn
      have c1 := HC.out _ (HW.out.on HQ.out.below)
      go_wp2_with fail
      go_ret
      refine ⟨_, rfl, ?_⟩
      have h9 := HQ.out
      rw [← HE.out, dws_all] at h9
      exact h9
end Go.Proofs.Ytajkhkaidjjioaa
