/- Lists of operations; Encode. -/
import Derived.Test.YtmomidkodjihjaaDoorMc
namespace Go.Proofs.YtmomidkodjihjaaDoor
open Go.RowKit
open H
set_option maxHeartbeats 4000000
set_option maxRecDepth 100000
/-- An operation and where its words lie. -/
structure Ov where
  o : MOp
  p : Option Addr
  c : Nat
def Ov.cs (x : Ov) : List Value := [.int .i64 x.o.k, .int .u32 x.o.a, .slice x.p x.o.ws.length x.c]
/-- A list of operations lies there. -/
structure OL (W : World) (ao : Option Addr) (l : List Ov) : Prop where
  row : l = [] ∨ ∃ b off, ao = some ⟨b, off, none⟩ ∧ b < W.heap.size ∧ ∀ i x, l[i]? = some x → W.cell? ⟨b, off + i * 3, none⟩ = some (.int .i64 x.o.k) ∧ W.cell? ⟨b, off + i * 3 + 1, none⟩ = some (.int .u32 x.o.a) ∧ W.cell? ⟨b, off + i * 3 + 2, none⟩ = some (.slice x.p x.o.ws.length x.c)
  ws : ∀ x ∈ l, At W .u32 x.p x.o.ws
theorem OL.on {W w : World} {ao : Option Addr} {l : List Ov} (h : OL W ao l) (hb : Below W.heap.size W w) : OL w ao l := by
  refine ⟨?_, fun x hx => (h.ws x hx).below hb⟩
  rcases h.row with h0 | ⟨b, off, h1, h2, h3⟩
  · exact .inl h0
  · refine .inr ⟨b, off, h1, by have := hb.size; omega, fun i x hx => ?_⟩
    obtain ⟨a1, a2, a3⟩ := h3 i x hx
    exact ⟨(hb.cell (p := ⟨b, _, none⟩) h2).trans a1, (hb.cell (p := ⟨b, _, none⟩) h2).trans a2, (hb.cell (p := ⟨b, _, none⟩) h2).trans a3⟩
/-- The words of a list. -/
def enc (l : List MOp) : List Int := l.flatMap MOp.wds
theorem enc_snoc (l : List MOp) (o : MOp) : enc (l ++ [o]) = enc l ++ o.wds := by simp [enc]
theorem enc_take_le (l : List MOp) (j : Nat) : (enc (l.take j)).length ≤ (enc l).length := by
  have e : enc l = enc (l.take j) ++ enc (l.drop j) := by
    unfold enc
    rw [← List.flatMap_append, List.take_append_drop]
  rw [e, List.length_append]
  omega
theorem wds_len (o : MOp) (h : o.Ok) : 2 ≤ o.wds.length ∧ o.wds.length ≤ 1026 := by
  obtain ⟨_, _, h3⟩ := h
  unfold MOp.wds
  simp only [List.length_cons, h3]
  unfold pgN
  split <;> omega
def encR (l : List MOp) (e : Ending) (W W' : World) : Prop :=
  (∃ o ∈ l, ¬ o.Ok) ∧ e = .returned (.tuple #[.slice none 0 0, .int .i64 150]) ∨
  (∀ o ∈ l, o.Ok) ∧ 262144 < (enc l).length ∧ e = .returned (.tuple #[.slice none 0 0, .int .i64 2]) ∨
  (∀ o ∈ l, o.Ok) ∧ (enc l).length ≤ 262144 ∧ ∃ v, e = .returned (.tuple #[v, .int .i64 0]) ∧ Holds W W' .u32 24 v (enc l)
/-- What Encode has laid behind j of them. -/
structure EncJ (W wr : World) (l : List Ov) (j : Nat) (v : Value) (L : List Int) : Prop where
  hold : Holds W wr .u32 24 v L
  ok : ∀ i x, i < j → l[i]? = some x → x.o.Ok
  len : L.length ≤ 263170
  is : L = enc ((l.take j).map Ov.o) ∨ 262144 < L.length ∧ 262144 < (enc ((l.take j).map Ov.o)).length
theorem EncJ.start (W : World) (l : List Ov) : EncJ W W l 0 (.slice none 0 0) [] := ⟨Holds.start _ _ _, fun i x h => by omega, by simp, .inl (by simp [enc])⟩
theorem take_snoc_map (l : List Ov) (j : Nat) (x : Ov) (h : l[j]? = some x) : (l.take (j + 1)).map Ov.o = (l.take j).map Ov.o ++ [x.o] := by
  rw [List.take_add_one, h]
  simp
theorem EncJ.skip {W wr w : World} {l : List Ov} {j : Nat} {v : Value} {L : List Int} (h : EncJ W wr l j v L) (x : Ov) (hx : l[j]? = some x) (ho : x.o.Ok) (hL : 262144 < L.length) (hw : Holds W w .u32 24 v L) : EncJ W w l (j + 1) v L := by
  refine ⟨hw, fun i y hi hy => ?_, h.len, .inr ⟨hL, ?_⟩⟩
  · by_cases e : i = j
    · subst e; rw [hx] at hy; cases hy; exact ho
    · exact h.ok i y (by omega) hy
  · rw [take_snoc_map l j x hx, enc_snoc, List.length_append]
    rcases h.is with e | ⟨_, e⟩
    · rw [← e]; omega
    · omega
theorem EncJ.more {W wr w : World} {l : List Ov} {j : Nat} {v v' : Value} {L : List Int} (h : EncJ W wr l j v L) (x : Ov) (hx : l[j]? = some x) (ho : x.o.Ok) (hL : L.length ≤ 262144) (hw : Holds W w .u32 24 v' (L ++ x.o.wds)) : EncJ W w l (j + 1) v' (L ++ x.o.wds) := by
  have hl := wds_len x.o ho
  refine ⟨hw, fun i y hi hy => ?_, by rw [List.length_append]; omega, ?_⟩
  · by_cases e : i = j
    · subst e; rw [hx] at hy; cases hy; exact ho
    · exact h.ok i y (by omega) hy
  · rw [take_snoc_map l j x hx, enc_snoc]
    rcases h.is with e | ⟨e, _⟩
    · rw [← e]; exact .inl rfl
    · omega
theorem holds_on {V W w : World} {v : Value} {L : List Int} (H : Holds V W .u32 24 v L) (hb : Below W.heap.size W w) : Holds V w .u32 24 v L := ⟨ownsRow_below H.own hb, below_on H.below hb⟩
theorem OL.at {W : World} {ao : Option Addr} {l : List Ov} (h : OL W ao l) {j : Nat} {x : Ov} (hx : l[j]? = some x) : ∃ b off, ao = some ⟨b, off, none⟩ ∧ ∀ w, Below W.heap.size W w → w.cell? ⟨b, off + j * 3, none⟩ = some (.int .i64 x.o.k) ∧ w.cell? ⟨b, off + j * 3 + 1, none⟩ = some (.int .u32 x.o.a) ∧ w.cell? ⟨b, off + j * 3 + 2, none⟩ = some (.slice x.p x.o.ws.length x.c) := by
  rcases h.row with h0 | ⟨b, off, h1, h2, h3⟩
  · rw [h0] at hx; simp at hx
  · refine ⟨b, off, h1, fun w hb => ?_⟩
    obtain ⟨a1, a2, a3⟩ := h3 j x hx
    exact ⟨(hb.cell (p := ⟨b, _, none⟩) h2).trans a1, (hb.cell (p := ⟨b, _, none⟩) h2).trans a2, (hb.cell (p := ⟨b, _, none⟩) h2).trans a3⟩
theorem encode_any (W : World) (ao : Option Addr) (n c : Nat) (l : List Ov) (hn : l.length = n) (h : OL W ao l) (hm : n ≤ 4611686018427387904) :
    Calls Tryd.prog 10 #[.slice ao n c] W fun e W' => Below W.heap.size W W' ∧ encR (l.map Ov.o) e W W' := by
  have HO := hid h
  have HN := hid hn
  have q0 : (n : Int) ≤ 4611686018427387904 := by omega
  clear h hm hn
  go_enter Tryd.func10, Tryd.ntmps10
  go_wp2_with fail
  go_loopw [4, 11] (fun v i wr => ∃ (j : Nat) (L : List Int), j ≤ n ∧ i = .int .i64 (j : Int) ∧ Hid (EncJ W wr l j v L)) (fun _ i _ => n - (intOf i).toNat)
  case atStart => exact ⟨0, [], Nat.zero_le _, rfl, hid (EncJ.start W l)⟩
  case round =>
    obtain ⟨j, L, hj, rfl, HQ⟩ := hrel
    by_cases hlt : j < n
    · obtain ⟨x, hx⟩ : ∃ x, l[j]? = some x := ⟨l[j]'(by rw [HN.out]; exact hlt), List.getElem?_eq_getElem _⟩
      obtain ⟨b, off, rfl, hc⟩ := HO.out.at hx
      obtain ⟨c0, c1, c2⟩ := hc wr HQ.out.hold.below
      have HX := hid hx
      have HJ := hid hlt
      have q1 : (j : Int) < (n : Int) := by omega
      have q2 : (0 : Int) ≤ (j : Int) := by omega
      have HOp := hid (fun w => opOf_any w x.o.k x.o.a x.p x.o.ws.length x.c)
      have HBx : Hid (Below wr.heap.size wr (wr.alloc (.cells #[.int .i64 x.o.k, .int .u32 x.o.a, .slice x.p x.o.ws.length x.c] 43))) := hid (below_one _ _)
      have HMem : Hid (x ∈ l) := hid (List.mem_of_getElem? hx)
      have HI := hid (okk_iff x.o)
      have HA := hid (HO.out.ws x HMem.out)
      obtain ⟨av, cv, hv, _⟩ := HQ.out.hold.at'
      subst hv
      clear hx hlt hc hj
      obtain ⟨⟨xk, xa, xw⟩, xp, xc⟩ := x
      simp only at HOp HBx c0 c1 c2 HI HA
      cases ho : okk xk xw.length
      · rw [ho] at HOp HI
        simp only [Bool.false_eq_true, if_false] at HOp
        clear ho
        go_wp2_with (go_at_call 38; refine (HOp.out _).mono ?_; rintro e w1 ⟨rfl, hb⟩; have HC := hid (below_on HBx.out hb); clear hb)
        go_ret2
        refine ⟨below_on HQ.out.hold.below HC.out, .inl ⟨⟨_, List.mem_map_of_mem HMem.out, ?_⟩, rfl⟩⟩
        exact fun hk => absurd (HI.out.2 hk) (by decide)
      · rw [ho] at HOp HI
        simp only [if_true] at HOp
        have hok : (⟨xk, xa, xw⟩ : MOp).Ok := HI.out.1 rfl
        by_cases hL : L.length ≤ 262144
        · have HLy := hid (fun w (hw : Holds W w .u32 24 (.slice av L.length cv) L) => lay_any W w _ L hw (by omega) ⟨xk, xa, xw⟩ hok xp xc HA.out)
          have hLi : (L.length : Int) ≤ 262144 := by omega
          have HK := hid hok
          have HLl := hid hL
          clear ho hok hL
          simp only at HLy
          generalize ivk xk xa xp xw.length xc = iv at *
          go_wp2_with (first | (go_at_call 38; refine (HOp.out _).mono ?_; rintro e w1 ⟨rfl, hb⟩; have HC := hid (below_on HBx.out hb); clear hb) | (go_at_call 39; refine (HLy.out _ (holds_on HQ.out.hold HC.out)).mono ?_; rintro e w2 ⟨v2, rfl, h2⟩; have H2 := hid h2; clear h2))
          go_roundw
          case measure => have := HJ.out; simp [intOf] <;> omega
          case rel => exact ⟨j + 1, _, HJ.out, by simp, hid (HQ.out.more _ HX.out HK.out HLl.out H2.out)⟩
        · have hLi : ¬ ((L.length : Int) ≤ 262144) := by omega
          have HK := hid hok
          have HLl := hid (show 262144 < L.length by omega)
          clear ho hok hL
          generalize ivk xk xa xp xw.length xc = iv at *
          go_wp2_with (first | (go_at_call 38; refine (HOp.out _).mono ?_; rintro e w1 ⟨rfl, hb⟩; have HC := hid (below_on HBx.out hb); clear hb))
          go_roundw
          case measure => have := HJ.out; simp [intOf] <;> omega
          case rel => exact ⟨j + 1, _, HJ.out, by simp, hid (HQ.out.skip _ HX.out HK.out HLl.out (holds_on HQ.out.hold HC.out))⟩
    · obtain rfl : j = n := by omega
      have HF : Hid ((∀ o ∈ l.map Ov.o, o.Ok) ∧ (L = enc (l.map Ov.o) ∨ 262144 < L.length ∧ 262144 < (enc (l.map Ov.o)).length)) := hid (by
        refine ⟨fun o ho => ?_, ?_⟩
        · obtain ⟨x, hx, rfl⟩ := List.mem_map.1 ho
          obtain ⟨i, hi⟩ := List.mem_iff_getElem?.1 hx
          exact HQ.out.ok i x (by rw [← HN.out]; exact (List.getElem?_eq_some_iff.1 hi).1) hi
        · have := HQ.out.is
          rwa [← HN.out, List.take_length] at this)
      obtain ⟨av, cv, hv, _⟩ := HQ.out.hold.at'
      subst hv
      clear hj hlt
      by_cases hL : L.length ≤ 262144
      · have hLi : (L.length : Int) ≤ 262144 := by omega
        have HLl := hid hL
        clear hL
        go_wp2_with fail
        go_ret2
        refine ⟨HQ.out.hold.below, .inr (.inr ?_)⟩
        rcases HF.out.2 with e | ⟨e, _⟩
        · exact ⟨HF.out.1, by rw [← e]; exact HLl.out, _, rfl, by rw [← e]; exact HQ.out.hold⟩
        · have := HLl.out; omega
      · have hLi : (262144 : Int) < (L.length : Int) := by omega
        have HLl := hid (show 262144 < L.length by omega)
        clear hL
        go_wp2_with fail
        go_ret2
        refine ⟨HQ.out.hold.below, .inr (.inl ?_)⟩
        rcases HF.out.2 with e | ⟨_, e⟩
        · exact ⟨HF.out.1, by rw [← e]; exact HLl.out, rfl⟩
        · exact ⟨HF.out.1, e, rfl⟩
end Go.Proofs.YtmomidkodjihjaaDoor
