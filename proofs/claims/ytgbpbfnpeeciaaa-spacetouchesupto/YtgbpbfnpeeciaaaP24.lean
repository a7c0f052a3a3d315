import Derived.Test.YtgbpbfnpeeciaaaP23
import Derived.Laws.CopyOwn
namespace Go.Proofs.Ytgbpbfnpeeciaaa
open Go.RowKit
set_option maxHeartbeats 2000000
set_option maxRecDepth 100000
def MS.zall (m : MS) : Nat → MS
  | 0 => m
  | k + 1 => (m.zall k).zero true (k : Int)
theorem MS.zall_ns (m : MS) (k : Nat) : (m.zall k).ns = m.ns := by
  induction k with
  | zero => rfl
  | succ k ih => rw [MS.zall, MS.zero_ns, ih]
def DS.zed (m : MS) (n k : Nat) : DS := ⟨m.zall k, 0, List.replicate n En.zero⟩
def DS.fresh (m : MS) : DS := DS.zed m m.ns m.ns
theorem rep_at (n k : Nat) : (List.replicate n En.zero).getD k En.zero = En.zero := by
  rw [List.getD_eq_getElem?_getD, List.getElem?_replicate]
  split <;> rfl
theorem zed_ok (m : MS) (k : Nat) (h : m.ns ≤ 64) : (DS.zed m m.ns k).Ok := by
  refine ⟨by simp [DS.zed, MS.zall_ns], by simpa [DS.zed, MS.zall_ns] using h, fun j hj => ?_, fun j hj => ?_, by simp [DS.zed], by simp [DS.zed]⟩
  · rw [DS.at, DS.zed, rep_at]; exact zero_ok
  · have hj' : j < (m.zall k).ns := hj
    show ((List.replicate m.ns En.zero).getD j En.zero).o < ((m.zall k).ns : Int)
    rw [rep_at]; show (0 : Int) < _; omega
theorem wds_zero (n : Nat) : u32s (wdsOf 0 (List.replicate n En.zero)) = List.replicate (1 + 2 * n) (.int .u32 0) := by
  have hz : ew En.zero = [0, 0] := by decide
  have : ∀ n : Nat, (List.replicate n En.zero).flatMap ew = List.replicate (2 * n) 0 := fun n => by
    induction n with
    | zero => rfl
    | succ n ih => rw [List.replicate_succ, List.flatMap_cons, ih, hz, show 2 * (n + 1) = 2 * n + 1 + 1 by omega, List.replicate_succ, List.replicate_succ]; rfl
  rw [wdsOf, this, u32s, List.map_cons, List.map_replicate, show 1 + 2 * n = 2 * n + 1 by omega, List.replicate_succ]
theorem newDB_any (W : World) (f : Fp) (m : MS) (h : Mem W f m) (h64 : m.ns ≤ 64) :
    Calls Try.prog 30 #[ptr f.gm] W fun e W' => ∃ g gw, e = .returned (ptr g) ∧ DB W' ⟨g, gw, f⟩ (DS.fresh m) ∧ W.heap.size ≤ g ∧ W.heap.size ≤ gw ∧ ButL f.w W W' := by
  have HM := hid h
  have HS := hid (size_any W f m h)
  have HO := hid (zed_ok m 0 h64)
  have HWp := hid (fun w (p : Dp) (d : DS) (hw : DB w p d) (q : Int) => wipe_any w p d hw q)
  have HPg := hid (fun w (p : Dp) (d : DS) (hw : DB w p d) => pages_any w p d hw)
  have hn : (1 : Int) + 2 * (m.ns : Int) = ((1 + 2 * m.ns : Nat) : Int) := by omega
  have hz : 4 * (1 + 2 * m.ns) ≤ 281474976710656 := by omega
  have hz2 : 1 + 2 * m.ns ≤ 9223372036854775807 := by omega
  have H64 := hid h64
  have HN := hid hn
  clear h hn h64
  simp only [ptr] at HS HPg HWp ⊢
  go_enter Try.func30, Try.ntmps30
  go_upto_region 4 with (first | (go_at_call 63; refine HS.out.mono ?_; rintro e w1 ⟨rfl, hw1⟩; subst hw1) | (refine wpList_make_cel rfl _ _ 113 22 rfl (.int .u32 0) 4 under24 info32 rfl (1 + 2 * m.ns) _ _ rfl rfl HN.out HN.out hz hz2 ?_; intro w2 hc hb hs; have HC := hid hc; have HB := hid hb; clear hc hb hs))
  have HD : Hid (DB (w2.alloc (.cells #[.pointer (some ⟨f.gm, 0, none⟩), .slice (some ⟨W.heap.size, 0, none⟩) (1 + 2 * m.ns) (1 + 2 * m.ns)] 115)) ⟨w2.heap.size, W.heap.size, f⟩ (DS.zed m m.ns 0)) := hid ⟨(HM.out.on HB.out).on (below_one _ _), Cel.new w2 115 _, by
    show Cel _ _ _ (u32s (wdsOf 0 (List.replicate m.ns En.zero)))
    rw [wds_zero]
    exact HC.out.on (below_one _ _), HO.out⟩
  have HB2 := hid (below_on HB.out (below_one w2 (.cells #[.pointer (some ⟨f.gm, 0, none⟩), .slice (some ⟨W.heap.size, 0, none⟩) (1 + 2 * m.ns) (1 + 2 * m.ns)] 115)))
  have HG : Hid (W.heap.size ≤ w2.heap.size) := hid HB.out.size
  generalize w2.alloc _ = X at *
  generalize w2.heap.size = g at *
  generalize hgw : W.heap.size = gw at HD ⊢
  have HGW := hid hgw
  clear hgw HC HB HM HS HO hz hz2 HN
  go_upto_region 5 with (go_at_call 28; refine (HPg.out _ _ _ HD.out).mono ?_; rintro e w3 ⟨rfl, hw3⟩; subst hw3)
  rw [show (DS.zed m m.ns 0).m.ns = m.ns from rfl]
  have HB3 := hid (ButL.of (G := f.w) HB2.out)
  clear HB2
  go_loopw [15] (fun i wr => ∃ j : Nat, j ≤ m.ns ∧ i = .int .i64 (j : Int) ∧ Hid (DB wr ⟨g, gw, f⟩ (DS.zed m m.ns j) ∧ ButL f.w W wr)) (fun i _ => m.ns - (intOf i).toNat)
  case atStart => exact ⟨0, Nat.zero_le _, rfl, hid ⟨HD.out, HB3.out⟩⟩
  case round =>
    obtain ⟨j, hj, rfl, HQ⟩ := hrel
    clear HD HB3
    by_cases hlt : j < m.ns
    · have q1 : (j : Int) < (m.ns : Int) := by omega
      have q2 : (j : Int) ≤ 1000 := by have := H64.out; omega
      have HJ : Hid (j < m.ns) := hid hlt
      clear hlt hj
      go_wp2_with (go_at_call 64; refine (HWp.out _ _ _ HQ.out.1 (j : Int)).mono ?_; rintro e w5 ⟨rfl, hd, hb⟩; have HQ2 : Hid (DB w5 ⟨g, gw, f⟩ (DS.zed m m.ns (j + 1)) ∧ ButL f.w W w5) := hid ⟨hd, HQ.out.2.trans hb⟩; clear hb hd)
      go_roundw
      case measure => have := HJ.out; simp [intOf] <;> omega
      case rel => exact ⟨j + 1, HJ.out, by simp, HQ2⟩
    · have hjn : j = m.ns := by omega
      subst hjn
      clear hlt hj
      go_wp2_with fail
      go_ret
      exact ⟨g, gw, rfl, HQ.out.1, HG.out, by rw [HGW.out]; exact Nat.le_refl _, HQ.out.2⟩
theorem wpList_copy_all {ops : Array Oper} {rest : List Oper} {o : Oper} {a : Act} {w : World} {Q : Exit → Act → World → Prop} (hgd : o.guard = none) (d s : Operand) (ho : o.op = .call { callee := .builtin .copy, args := #[d, s], argTypes := #[113, 113] })
    (g n c c' gs off : Nat) (cur : List Value) (t : TypeId) (L : List Int) (hd : a.eval d = .slice (some ⟨g, 0, none⟩) n c) (hs : a.eval s = .slice (some ⟨gs, off, none⟩) n c') (hg : Cel w g t cur) (hcur : cur.length = n) (hL : L.length = n) (hsrc : w.rangeAt gs off (u32s L))
    (h : ∀ w', Cel w' g t (u32s L) → ButL [g] w w' → w'.heap.size = w.heap.size → wpList Try.prog ops Q rest (a.put o.dst (goInt n)) w') : wpList Try.prog ops Q (o :: rest) a w := by
  have hl : (u32s L).length = n := by rw [u32s_len, hL]
  refine wpList_copy_own hgd d s 113 113 ho 22 under24 size32 g 0 n c ⟨gs, off, none⟩ n c' hd hs cur.toArray t hg (u32s L) (by rw [hl]; show n = min n n; omega) (fun j v hv => by have := hsrc j v hv; unfold Addr.add; by_cases hj : j = 0 <;> simp_all) (by rw [hl]; simp [hcur]) (u32s_one L) ?_
  have e : List.take 0 cur.toArray.toList ++ (u32s L ++ List.drop (0 + (u32s L).length) cur.toArray.toList) = u32s L := by
    rw [List.drop_eq_nil_of_le (by rw [hl]; simp [hcur])]; simp
  rw [e, hl]
  exact h _ (hg.set _) (.setRow _ _ _ (by simp)) (by simp)
theorem words_dv (W : World) {g gm gw off n c : Nat} {L : List Int} (h : DV W g gm gw off n c L) (hn : n ≤ 1000) :
    Calls Try.prog 56 #[ptr g] W fun e W' => ∃ gn, e = .returned (.slice (some ⟨gn, 0, none⟩) n n) ∧ Cel W' gn 22 (u32s L) ∧ W.heap.size ≤ gn ∧ Below W.heap.size W W' := by
  have c1 := h.sl
  have HD := hid h
  have hz : 4 * n ≤ 281474976710656 := by omega
  have hz2 : n ≤ 9223372036854775807 := by omega
  have HL : Hid (g < W.heap.size ∧ gw < W.heap.size ∧ L.length = n) := hid ⟨h.cel.lt, h.lt, h.len⟩
  clear h hn
  simp only [ptr]
  go_enter Try.func56, Try.ntmps56
  go_upto_region 2 with (refine wpList_make_cel rfl _ _ 113 22 rfl (.int .u32 0) 4 under24 info32 rfl n _ _ rfl rfl rfl rfl hz hz2 ?_; intro w2 hc hb hs; have HC := hid hc; have HB := hid hb; clear hc hb hs)
  have HD2 := hid (HD.out.on HB.out)
  have c2 := HD2.out.sl
  clear HD
  go_wp2_with (refine wpList_copy_all rfl _ _ rfl W.heap.size n n c gw off (List.replicate n (.int .u32 0)) 22 L rfl rfl HC.out (by simp) HL.out.2.2 HD2.out.rng ?_; intro w3 hc hb hs; have HE := hid (And.intro hc (HB.out.trans (hb.below (B := W.heap.size) (by simp) HB.out.size))); clear hc hb hs)
  go_ret
  exact ⟨_, rfl, HE.out.1, Nat.le_refl _, HE.out.2⟩
theorem words_any (W : World) (p : Dp) (d : DS) (h : DB W p d) :
    Calls Try.prog 56 #[ptr p.g] W fun e W' => ∃ gn, e = .returned (.slice (some ⟨gn, 0, none⟩) (1 + 2 * d.m.ns) (1 + 2 * d.m.ns)) ∧ Cel W' gn 22 (u32s d.ws) ∧ W.heap.size ≤ gn ∧ Below W.heap.size W W' :=
  words_dv W h.dv (by have := h.ok.n64; omega)
structure NewDB (w w' : World) (p : Dp) (d : DS) : Prop where
  db : DB w' p d
  below : Below w.heap.size w w'
  new : ∀ k ∈ p.all, w.heap.size ≤ k
theorem dclone_any (W : World) (p : Dp) (d : DS) (h : DB W p d) :
    Calls Try.prog 23 #[ptr p.g] W fun e W' => ∃ p', e = .returned (ptr p'.g) ∧ NewDB W W' p' d := by
  have c0 := h.dv.mp
  have HD := hid h
  have HC := hid (clone_any W p.f d.m h.mem)
  have HW := hid (fun w (hw : DB w p d) => words_any w p d hw)
  clear h
  simp only [ptr] at c0 HC HW ⊢
  go_enter Try.func23, Try.ntmps23
  go_wp2_with (first | (go_at_call 55; refine HC.out.mono ?_; rintro e w1 ⟨f', rfl, hm⟩; have HM := hid hm; have HD1 := hid (HD.out.on hm.below); clear hm) | (go_at_call 56; refine (HW.out _ HD1.out).mono ?_; rintro e w2 ⟨gn, rfl, hc, hl, hb⟩; have HX := hid (And.intro hc (And.intro hl hb)); clear hc hl hb))
  go_ret
  refine ⟨⟨w2.heap.size, gn, f'⟩, rfl, ⟨⟨(HM.out.mem.on HX.out.2.2).on (below_one _ _), Cel.new w2 115 _, HX.out.1.on (below_one _ _), HD.out.ok⟩, below_on (below_on HM.out.below HX.out.2.2) (below_one _ _), fun k hk => ?_⟩⟩
  have s1 := HM.out.below.size
  have s2 := HX.out.2.1
  have s3 := HX.out.2.2.size
  simp only [Dp.all, List.mem_cons] at hk
  rcases hk with rfl | rfl | hk
  · omega
  · omega
  · exact HM.out.new k hk
end Go.Proofs.Ytgbpbfnpeeciaaa
