import Derived.Test.YtgbpbfnpeeciaaaGreatP19
import Derived.Test.YtgbpbfnpeeciaaaGreatP07
import Derived.Test.YtgbpbfnpeeciaaaGreatP21
import Derived.Test.YtgbpbfnpeeciaaaGreatP02
namespace Go.Proofs.YtgbpbfnpeeciaaaGreat
open Go.RowKit
set_option maxHeartbeats 4000000
set_option maxRecDepth 100000
structure NewP (W w : World) (p : Dp) (r : Rp) (d : DS) : Prop where
  own : DB w p d
  doc : RDB w r d
  bl : Below W.heap.size W w
  pn : ∀ k ∈ p.all, W.heap.size ≤ k
  rn : ∀ k ∈ r.all, W.heap.size ≤ k
  ap : ∀ k ∈ p.all, k ∉ r.all
theorem NewP.on {W w w' : World} {p : Dp} {r : Rp} {d : DS} (h : NewP W w p r d) (hb : Below w.heap.size w w') : NewP W w' p r d := ⟨h.own.on hb, h.doc.on hb, below_on h.bl hb, h.pn, h.rn, h.ap⟩
theorem NewP.back {W X w : World} {p : Dp} {r : Rp} {d : DS} (h : NewP X w p r d) (hb : Below W.heap.size W X) : NewP W w p r d := ⟨h.own, h.doc, below_on hb h.bl, fun k hk => Nat.le_trans hb.size (h.pn k hk), fun k hk => Nat.le_trans hb.size (h.rn k hk), h.ap⟩
theorem pair_new {X w1 w2 w3 w4 : World} {f : Fp} {r : Rf} {g gw : Nat} {p : Rp} {m : MS} {d : DS} (h1 : NewMem X w1 f m) (h2 : NewR w1 w2 r m) (hd : DB w3 ⟨g, gw, f⟩ d) (hg : w2.heap.size ≤ g) (hgw : w2.heap.size ≤ gw) (hb : ButL f.w w2 w3) (hn : NewD w3 w4 r p d) : NewP X w4 ⟨g, gw, f⟩ p d := by
  have s1 := h1.below.size
  have s2 := h2.below.size
  have s3 := hb.size
  have hfl : ∀ k ∈ f.all, k < w1.heap.size := h1.mem.lt
  have hrl : ∀ k ∈ r.all, k < w2.heap.size := h2.mem.lt
  have hpall : ∀ k ∈ (Dp.mk g gw f).all, k = g ∨ k = gw ∨ k ∈ f.all := fun k hk => by
    simpa only [Dp.all, List.mem_cons] using hk
  have hball : ∀ k ∈ p.all, k = p.g ∨ k = p.ge ∨ k ∈ p.r.all := fun k hk => by
    simpa only [Rp.all, List.mem_cons] using hk
  have hoff : ∀ k ∈ (Dp.mk g gw f).all, k ∉ r.all := fun k hk hm => by
    have h3 := hrl k hm
    have h4 := h2.new k hm
    rcases hpall k hk with rfl | rfl | hk
    · omega
    · omega
    · have := hfl k hk; omega
  have b1 : Below X.heap.size X w3 := (below_on h1.below h2.below).trans (hb.below (B := X.heap.size) (fun k hk => h1.new k (Fp.w_all hk)) (by omega))
  have b2 : Below X.heap.size X w4 := b1.trans (hn.but.below (B := X.heap.size) (fun k hk => by have := h2.new k hk; omega) b1.size)
  refine ⟨hd.frame hn.but hoff, hn.db, b2, fun k hk => ?_, fun k hk => ?_, fun k hk hm => ?_⟩
  · rcases hpall k hk with rfl | rfl | hk
    · omega
    · omega
    · exact h1.new k hk
  · rcases hball k hk with rfl | rfl | hk
    · have := hn.g; omega
    · have := hn.ge; omega
    · rcases hn.sub k hk with hk | hk
      · have := h2.new k hk; omega
      · omega
  · have h3 := hd.lt k hk
    rcases hball k hm with rfl | rfl | hm
    · have := hn.g; omega
    · have := hn.ge; omega
    · rcases hn.sub k hm with hm | hm
      · exact hoff k hk hm
      · omega
theorem NewP.tp {W w : World} {p : Dp} {r : Rp} {d : DS} (h : NewP W w p r d) : TP W w p r r d d [] :=
  ⟨h.own, h.doc, rfl, .of h.bl, fun _ hk => .inl hk, h.ap, by simp, by simp, by simp, by simp⟩
def sdC (p : Dp) (r : Rp) : List Value := [.pointer (some ⟨p.f.gm, 0, none⟩), .pointer (some ⟨p.g, 0, none⟩), .pointer (some ⟨r.g, 0, none⟩)]
theorem head_yes (W : World) : Calls Tryz.prog 5 #[] W fun x W' => x = .returned (.bool true) ∧ Below W.heap.size W W' := by
  have H1 : Hid (∀ w, Calls Tryz.prog 13 #[.agg #[.int .u32 20480, .bool true, .bool false]] w fun x W' => x = .returned (.tuple #[.int .u32 20483, .int .i64 0]) ∧ Below w.heap.size w W') := hid (fun w => word_any w ⟨20480, true, false⟩ (by decide) (by decide))
  have H2 : Hid (∀ w, Calls Tryz.prog 14 #[.int .u32 20482] w fun x W' => x = .returned (.tuple #[.agg #[.int .u32 0, .bool false, .bool false], .int .i64 142]) ∧ Below w.heap.size w W') := hid (fun w => parse_any w 20482 (by decide) (by decide))
  go_enter Tryz.func5, Tryz.ntmps5
  go_upto_region 2 with (go_at_call 13; refine (H1.out _).mono ?_; rintro e w1 ⟨rfl, hb1⟩; have B1 := hid hb1; clear hb1)
  go_upto_region 3 with (first | (go_at_call 14; refine (H2.out _).mono ?_; rintro e w2 ⟨rfl, hb2⟩; have B2 := hid (below_on B1.out hb2); clear hb2 B1) | (refine wpList_store_st rfl 52 _ _ rfl w2.heap.size [.int .u32 0, .bool false, .bool false] rfl rfl (Cel.new w2 52 [.int .u32 0, .bool false, .bool false]) size26 rfl rfl ?_; intro w3 hc hb hs; have B3 := hid (below_on B2.out ((below_one w2 (.cells #[.int .u32 0, .bool false, .bool false] 52)).trans (hb.below (B := w2.heap.size) (by simp) (by simp)))); clear hc hb hs B2))
  go_wp2_with fail
  go_ret
  exact ⟨rfl, B3.out⟩
theorem turned_any (W : World) (m : Mp) : Calls Tryz.prog 36 #[m.v] W fun x W' => x = .returned m.v ∧ Below W.heap.size W W' := by
  have B0 := hid (Bag.two W 31 88 [.bool m.s, .int .i64 m.p, .bool m.wr, .bool m.ex] [.bool m.s, .int .i64 m.p, .bool m.wr, .bool m.ex])
  simp only [Mp.v]
  go_enter Tryz.func36, Tryz.ntmps36
  go_wp2_with fail
  go_returns
  exact ⟨rfl, B0.out.below⟩
theorem framed_any (W : World) (p s : Nat) (h : p ≤ 1000) (h2 : s ≤ 1000) : Calls Tryz.prog 49 #[.int .i64 (p : Int), .int .i64 (s : Int)] W fun x W' => x = .returned (fr (decide (p < s)) (if p < s then (p : Int) else (p : Int) - s)) ∧ Below W.heap.size W W' := by
  have B0 := hid (below_one W (.cells #[.bool false, .int .i64 0] 67))
  have q : wrap64 ((p : Int) - s) = (p : Int) - s := by unfold wrap64; omega
  unfold fr
  by_cases hlt : p < s
  · have h1 : (p : Int) < (s : Int) := by omega
    rw [decide_eq_true hlt, if_pos hlt]
    go_enter Tryz.func49, Tryz.ntmps49
    go_wp2_with fail
    go_returns
    exact ⟨rfl, below_one _ _⟩
  · have h1 : ¬ (p : Int) < (s : Int) := by omega
    rw [decide_eq_false hlt, if_neg hlt]
    go_enter Tryz.func49, Tryz.ntmps49
    go_wp2_with fail
    go_returns
    exact ⟨rfl, below_one _ _⟩
end Go.Proofs.YtgbpbfnpeeciaaaGreat
namespace Go.Proofs.YtgbpbfnpeeciaaaGreat
open Go.RowKit
end Go.Proofs.YtgbpbfnpeeciaaaGreat
namespace Go.Proofs.YtgbpbfnpeeciaaaGreat
open Go.RowKit
end Go.Proofs.YtgbpbfnpeeciaaaGreat
namespace Go.Proofs.YtgbpbfnpeeciaaaGreat
open Go.RowKit
end Go.Proofs.YtgbpbfnpeeciaaaGreat
namespace Go.Proofs.YtgbpbfnpeeciaaaGreat
open Go.RowKit
theorem read_any (w : World) (f : Fp) (m : MS) (h : Mem w f m) (s : Bool) (p off : Int) :
    Calls Tryz.prog 108 #[ptr f.gm, fr s p, .int .i64 off] w fun x w' => x = .returned (.tuple #[.int .u32 (m.word s p off), .int .i64 (m.err s p off)]) ∧ Mem w' f (m.read s p off) ∧ ButL f.w w w' := by
  have hX := h.on (below_one w (.cells #[.bool s, .int .i64 p] 67))
  have hB := hid (below_one w (.cells #[.bool s, .int .i64 p] 67))
  have HF := hid (at_any _ f m hX s p off)
  have h1 := h.ns0
  have hlt : Hid (∀ k, m.at s p = some k → k < m.P.length) := fun k hk => MS.at_lt h1 hk
  have H := hid hX
  clear h hX h1
  unfold MS.err at HF ⊢
  unfold MS.word MS.read
  generalize hr : m.at s p = r at *
  cases r with
  | none =>
    simp only [fr, ptr, pa] at *
    go_enter Tryz.func108, Tryz.ntmps108
    go_wp2_with fail
    refine HF.out.mono ?_
    rintro x w1 ⟨rfl, hb1⟩
    have HB1 := hid (below_on hB.out hb1)
    have HM := hid (H.out.on hb1)
    clear hb1
    go_wp2_with fail
    go_ret2
    exact ⟨rfl, HM.out, .of HB1.out⟩
  | some k =>
    have hk := hlt.out k rfl
    by_cases ho : In off
    · simp only [fr, ptr, pa, if_pos ho] at *
      obtain ⟨o0, o1⟩ := ho
      go_enter Tryz.func108, Tryz.ntmps108
      go_wp2_with fail
      refine HF.out.mono ?_
      rintro x w1 ⟨rfl, hb1⟩
      have HB1 := hid (below_on hB.out hb1)
      have HM := hid (H.out.on hb1)
      have c2 := HM.out.cm
      have f2 := HM.out.cel.free 2
      have cc : (w1.setCell ⟨f.gm, 2, none⟩ (.int .i64 (wrap64 (m.c + 1)))).cell? ⟨f.b k, off.toNat, none⟩ = some (.int .u32 (wd (m.p k) off.toNat)) := (HM.out.tick 1).word k hk off.toNat (by omega)
      have HT := hid (HM.out.tick 1)
      clear hb1
      go_wp2_with fail
      go_ret2
      exact ⟨rfl, HT.out, (ButL.of HB1.out).trans (.setCell _ _ _ _ (by simp [Fp.w]))⟩
    · simp only [fr, ptr, pa, if_neg ho] at *
      clear ho
      go_enter Tryz.func108, Tryz.ntmps108
      go_wp2_with fail
      refine HF.out.mono ?_
      rintro x w1 ⟨rfl, hb1⟩
      have HB1 := hid (below_on hB.out hb1)
      have HM := hid (H.out.on hb1)
      clear hb1
      go_wp2_with fail
      go_ret2
      exact ⟨rfl, HM.out, .of HB1.out⟩
end Go.Proofs.YtgbpbfnpeeciaaaGreat
namespace Go.Proofs.YtgbpbfnpeeciaaaGreat
open Go.RowKit
end Go.Proofs.YtgbpbfnpeeciaaaGreat
