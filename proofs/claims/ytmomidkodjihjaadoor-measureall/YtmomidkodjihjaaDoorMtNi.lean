/- Collide. Encode, Measure, Decode, Collide: one answer for both. -/
import Derived.Test.YtmomidkodjihjaaDoorMs
import Derived.Test.YtmomidkodjihjaaDoorNc
import Derived.Test.YtmomidkodjihjaaDoorNd
namespace Go.Proofs.YtmomidkodjihjaaDoor
open Go.RowKit
open H
set_option maxHeartbeats 4000000
set_option maxRecDepth 100000
theorem co_arg (W : World) (hT : Tab W) (h2 : 1 < W.heap.size) (ao bo : Option Addr) (n c m d N M : Nat) (E F : List Int) (hN : E.length = N) (hM : F.length = M) (lN : N ≤ 262144) (lM : M ≤ 262144) (HA : EncOk W ao n c N E) (HB : EncOk W bo m d M F) (h : E = F ∨ sumW E ≠ sumW F) :
    Calls Tryd.prog 46 #[.slice ao n c, .slice bo m d, .func (.func 20) #[] #[]] W fun e W' => e = .returned (.tuple #[.agg nil2.toArray, .int .i64 1]) ∧ Below W.heap.size W W' := by
  refine (co_two W hT h2 ao bo n c m d N M E F hN hM lN lM HA HB).mono ?_
  rintro e w (⟨_, h1⟩ | ⟨⟨h1, h3⟩, _⟩)
  · exact h1
  · rcases h with h | h
    · exact absurd h h1
    · exact absurd h3 h
theorem co_pair (W : World) (hT : Tab W) (h2 : 1 < W.heap.size) (ao bo : Option Addr) (n c m d N M : Nat) (E F : List Int) (hN : E.length = N) (hM : F.length = M) (lN : N ≤ 262144) (lM : M ≤ 262144) (HA : EncOk W ao n c N E) (HB : EncOk W bo m d M F) (h : E ≠ F ∧ sumW E = sumW F) :
    Calls Tryd.prog 46 #[.slice ao n c, .slice bo m d, .func (.func 20) #[] #[]] W fun e W' => ∃ p cp q cq, e = .returned (.tuple #[.agg #[.slice p N cp, .slice q M cq], .int .i64 0]) ∧ Holds W W' .u32 24 (.slice p N cp) E ∧ Holds W W' .u32 24 (.slice q M cq) F := by
  refine (co_two W hT h2 ao bo n c m d N M E F hN hM lN lM HA HB).mono ?_
  rintro e w (⟨h1, _⟩ | ⟨_, h1⟩)
  · rcases h1 with h1 | h1
    · exact absurd h1 h.1
    · exact absurd h.2 h1
  · exact h1
theorem EncOk.on {W w : World} {ao : Option Addr} {n c N : Nat} {E : List Int} (h : EncOk W ao n c N E) (hw : Below W.heap.size W w) : EncOk w ao n c N E := fun w' hw' => h w' (below_on hw hw')
theorem EncNo.on {W w : World} {ao : Option Addr} {n c : Nat} {er : Int} (h : EncNo W ao n c er) (hw : Below W.heap.size W w) : EncNo w ao n c er := fun w' hw' => h w' (below_on hw hw')
/-- Collide, where nothing is told. -/
theorem col_no (W : World) (ao bo : Option Addr) (n c m d : Nat) (er : Int) (H : ∀ w, Below W.heap.size W w → Calls Tryd.prog 46 #[.slice ao n c, .slice bo m d, .func (.func 20) #[] #[]] w fun e W' => e = .returned (.tuple #[.agg nil2.toArray, .int .i64 er]) ∧ Below w.heap.size w W') :
    Calls Tryd.prog 21 #[.slice ao n c, .slice bo m d] W fun e W' => e = .returned (.tuple #[.agg nil2.toArray, .int .i64 er]) ∧ Below W.heap.size W W' := by
  have B1 := hid (below_one W (.cells #[.slice none 0 0, .slice none 0 0] 52))
  have C1 : Hid (Cel (W.alloc (.cells #[.slice none 0 0, .slice none 0 0] 52)) W.heap.size 52 nil2) := hid (heap_alloc_new _ _)
  have HE := hid H
  clear H
  go_enter Tryd.func21, Tryd.ntmps21
  go_wp2_with (first | (go_at_call 46; refine (HE.out _ B1.out).mono ?_; rintro e w1 ⟨rfl, hb⟩; have B2 := hid (below_on B1.out hb); have C2 := hid (C1.out.on hb); clear hb) | (revert C2; intro C2; refine wpList_store_st rfl 52 _ _ rfl W.heap.size nil2 rfl rfl C2.out size52 rfl rfl ?_; intro w3 hc3 hb3 hs3; have X3 := hid (And.intro (B2.out.trans (hb3.below (Nat.le_refl _) B2.out.size)) hc3); clear hc3 hb3 hs3 C2))
  refine ret_pair rfl rfl W.heap.size nil2 rfl X3.out.2 Tryd.underlying52 rfl size52 ⟨rfl, X3.out.1⟩
theorem col_arg (W : World) (hT : Tab W) (h2 : 1 < W.heap.size) (ao bo : Option Addr) (n c m d N M : Nat) (E F : List Int) (hN : E.length = N) (hM : F.length = M) (lN : N ≤ 262144) (lM : M ≤ 262144) (HA : EncOk W ao n c N E) (HB : EncOk W bo m d M F) (h : E = F ∨ sumW E ≠ sumW F) :
    Calls Tryd.prog 21 #[.slice ao n c, .slice bo m d] W fun e W' => e = .returned (.tuple #[.agg nil2.toArray, .int .i64 1]) ∧ Below W.heap.size W W' :=
  col_no W ao bo n c m d 1 (fun w hw => co_arg w (hT.below hw h2) (by have := hw.size; omega) ao bo n c m d N M E F hN hM lN lM (HA.on hw) (HB.on hw) h)
theorem col_pair (W : World) (hT : Tab W) (h2 : 1 < W.heap.size) (ao bo : Option Addr) (n c m d N M : Nat) (E F : List Int) (hN : E.length = N) (hM : F.length = M) (lN : N ≤ 262144) (lM : M ≤ 262144) (HA : EncOk W ao n c N E) (HB : EncOk W bo m d M F) (h : E ≠ F ∧ sumW E = sumW F) :
    Calls Tryd.prog 21 #[.slice ao n c, .slice bo m d] W fun e W' => ∃ p cp q cq, e = .returned (.tuple #[.agg #[.slice p N cp, .slice q M cq], .int .i64 0]) ∧ Holds W W' .u32 24 (.slice p N cp) E ∧ Holds W W' .u32 24 (.slice q M cq) F := by
  have B1 := hid (below_one W (.cells #[.slice none 0 0, .slice none 0 0] 52))
  have C1 : Hid (Cel (W.alloc (.cells #[.slice none 0 0, .slice none 0 0] 52)) W.heap.size 52 nil2) := hid (heap_alloc_new _ _)
  have HE := hid (fun w (hw : Below W.heap.size W w) => co_pair w (hT.below hw h2) (by have := hw.size; omega) ao bo n c m d N M E F hN hM lN lM (HA.on hw) (HB.on hw) h)
  clear HA HB hT h2 hN hM lN lM h
  go_enter Tryd.func21, Tryd.ntmps21
  go_wp2_with (first | (go_at_call 46; refine (HE.out _ B1.out).mono ?_; rintro e w1 ⟨p1, c1, p2, c2, rfl, h1, h2⟩; have B2 := hid (And.intro (holds_base h1 B1.out) (holds_base h2 B1.out)); have C2 := hid (C1.out.on h1.below); clear h1 h2) | (revert C2; intro C2; refine wpList_store_st rfl 52 _ _ rfl W.heap.size [.slice p1 N c1, .slice p2 M c2] rfl rfl C2.out size52 rfl rfl ?_; intro w7 hc7 hb7 hs7; have X7 : Hid (Holds W w7 .u32 24 (.slice p1 N c1) E ∧ Holds W w7 .u32 24 (.slice p2 M c2) F ∧ Cel w7 W.heap.size 52 [.slice p1 N c1, .slice p2 M c2]) := hid ⟨holds_but B2.out.1 hb7 (Nat.le_refl _) (fun e => cel_ty B2.out.1.own C2.out (by decide) _ e rfl), holds_but B2.out.2 hb7 (Nat.le_refl _) (fun e => cel_ty B2.out.2.own C2.out (by decide) _ e rfl), hc7⟩; clear hc7 hb7 hs7 C2))
  refine ret_pair rfl rfl W.heap.size [.slice p1 N c1, .slice p2 M c2] rfl X7.out.2.2 Tryd.underlying52 rfl size52 ⟨p1, c1, p2, c2, rfl, X7.out.1, X7.out.2.1⟩
end Go.Proofs.YtmomidkodjihjaaDoor
namespace Go.Proofs.YtmomidkodjihjaaDoor
open Go.RowKit
open H
set_option maxHeartbeats 4000000
set_option maxRecDepth 100000
open Classical in
/-- Encode: its words, and its error. -/
noncomputable def encV (l : List MOp) : List Int × Int := if ∀ o ∈ l, o.Ok then (if (enc l).length ≤ 262144 then (enc l, 0) else ([], 2)) else ([], 150)
noncomputable def meaV (l : List MOp) : List Int × Int := if (encV l).2 = 0 then (sumW (enc l), 0) else (List.replicate 8 0, (encV l).2)
open Classical in
noncomputable def decV (ws : List Int) : List MOp × Int := if 262144 < ws.length then ([], 2) else if h : ∃ l : List MOp, (∀ o ∈ l, o.Ok) ∧ enc l = ws then (h.choose, 0) else ([], 150)
noncomputable def colV (a b : List MOp) : List Int × List Int × Int := if (encV a).2 = 0 then (if (encV b).2 = 0 then (if enc a = enc b ∨ sumW (enc a) ≠ sumW (enc b) then ([], [], 1) else (enc a, enc b, 0)) else ([], [], (encV b).2)) else ([], [], (encV a).2)
theorem enc_case (l : List MOp) : (∃ o ∈ l, ¬ o.Ok) ∧ encV l = ([], 150) ∨ ((∀ o ∈ l, o.Ok) ∧ 262144 < (enc l).length) ∧ encV l = ([], 2) ∨ ((∀ o ∈ l, o.Ok) ∧ (enc l).length ≤ 262144) ∧ encV l = (enc l, 0) := by
  by_cases h : ∀ o ∈ l, o.Ok
  · by_cases h1 : (enc l).length ≤ 262144
    · exact .inr (.inr ⟨⟨h, h1⟩, by unfold encV; rw [if_pos h, if_pos h1]⟩)
    · exact .inr (.inl ⟨⟨h, by omega⟩, by unfold encV; rw [if_pos h, if_neg h1]⟩)
  · refine .inl ⟨?_, by unfold encV; rw [if_neg h]⟩
    by_cases h2 : ∃ o ∈ l, ¬ o.Ok
    · exact h2
    · exact absurd (fun o ho => Classical.byContradiction (fun hn => h2 ⟨o, ho, hn⟩)) h
theorem encV_len (l : List MOp) : (encV l).1.length ≤ 262144 := by
  rcases enc_case l with ⟨_, h⟩ | ⟨_, h⟩ | ⟨h1, h⟩ <;> rw [h]
  · simp
  · simp
  · exact h1.2
theorem meaV_len (l : List MOp) : (meaV l).1.length = 8 := by
  unfold meaV
  split
  · exact sumW_length _
  · simp
theorem colV_len (a b : List MOp) : (colV a b).1.length ≤ 262144 ∧ (colV a b).2.1.length ≤ 262144 := by
  unfold colV
  split
  · rename_i h1
    split
    · rename_i h2
      split
      · simp
      · constructor
        · rcases enc_case a with ⟨_, h⟩ | ⟨_, h⟩ | ⟨h3, h⟩
          · rw [h] at h1; simp at h1
          · rw [h] at h1; simp at h1
          · exact h3.2
        · rcases enc_case b with ⟨_, h⟩ | ⟨_, h⟩ | ⟨h3, h⟩
          · rw [h] at h2; simp at h2
          · rw [h] at h2; simp at h2
          · exact h3.2
    · simp
  · simp
theorem decV_yes {l : List MOp} {ws : List Int} (hl : ws.length ≤ 262144) (h : ∀ o ∈ l, o.Ok) (he : enc l = ws) : decV ws = (l, 0) := by
  have hx : ∃ l : List MOp, (∀ o ∈ l, o.Ok) ∧ enc l = ws := ⟨l, h, he⟩
  unfold decV
  rw [if_neg (by omega), dif_pos hx]
  have := hx.choose_spec
  rw [enc_inj this.1 h (this.2.trans he.symm)]
theorem decV_no {ws : List Int} (hl : ws.length ≤ 262144) (h : ∀ l : List MOp, (∀ o ∈ l, o.Ok) → enc l ≠ ws) : decV ws = ([], 150) := by
  unfold decV
  rw [if_neg (by omega), dif_neg (fun ⟨l, h1, h2⟩ => h l h1 h2)]
theorem decV_long {ws : List Int} (hl : 262144 < ws.length) : decV ws = ([], 2) := by
  unfold decV
  rw [if_pos hl]
theorem encode_v (W : World) (ao : Option Addr) (n c : Nat) (l : List Ov) (hn : l.length = n) (h : OL W ao l) (hm : n ≤ 4611686018427387904) :
    Calls Tryd.prog 10 #[.slice ao n c] W fun e W' => ∃ p cp, e = .returned (.tuple #[.slice p (encV (l.map Ov.o)).1.length cp, .int .i64 (encV (l.map Ov.o)).2]) ∧ At W' .u32 p (encV (l.map Ov.o)).1 ∧ Below W.heap.size W W' := by
  rcases enc_case (l.map Ov.o) with ⟨h1, h0⟩ | ⟨h1, h0⟩ | ⟨h1, h0⟩ <;> rw [h0]
  · refine (encode_bad W ao n c l hn h hm h1).mono ?_
    rintro e w ⟨rfl, hb⟩
    exact ⟨none, 0, rfl, .inl rfl, hb⟩
  · refine (encode_long W ao n c l hn h hm h1.1 h1.2).mono ?_
    rintro e w ⟨rfl, hb⟩
    exact ⟨none, 0, rfl, .inl rfl, hb⟩
  · refine (encode_ok W ao n c l hn h hm h1.1 h1.2).mono ?_
    rintro e w ⟨p, cp, rfl, hh⟩
    exact ⟨p, cp, rfl, (holds_at' hh).1, hh.below⟩
theorem encNo_of {W : World} {ao : Option Addr} {n c : Nat} {l : List Ov} (hn : l.length = n) (h : OL W ao l) (hm : n ≤ 4611686018427387904) (h0 : ¬ (encV (l.map Ov.o)).2 = 0) : EncNo W ao n c (encV (l.map Ov.o)).2 := fun w hw => by
  rcases enc_case (l.map Ov.o) with ⟨h1, he⟩ | ⟨h1, he⟩ | ⟨h1, he⟩
  · rw [he]; exact encode_bad w ao n c l hn (h.on hw) hm h1
  · rw [he]; exact encode_long w ao n c l hn (h.on hw) hm h1.1 h1.2
  · rw [he] at h0; exact absurd rfl h0
theorem encOk_of {W : World} {ao : Option Addr} {n c : Nat} {l : List Ov} (hn : l.length = n) (h : OL W ao l) (hm : n ≤ 4611686018427387904) (h0 : (encV (l.map Ov.o)).2 = 0) : EncOk W ao n c (enc (l.map Ov.o)).length (enc (l.map Ov.o)) := fun w hw => by
  rcases enc_case (l.map Ov.o) with ⟨h1, he⟩ | ⟨h1, he⟩ | ⟨h1, he⟩
  · rw [he] at h0; simp at h0
  · rw [he] at h0; simp at h0
  · exact encode_ok w ao n c l hn (h.on hw) hm h1.1 h1.2
theorem measure_v (W : World) (hT : Tab W) (h2 : 1 < W.heap.size) (ao : Option Addr) (n c : Nat) (l : List Ov) (hn : l.length = n) (h : OL W ao l) (hm : n ≤ 4611686018427387904) :
    Calls Tryd.prog 17 #[.slice ao n c] W fun e W' => e = .returned (.tuple #[Ag (meaV (l.map Ov.o)).1, .int .i64 (meaV (l.map Ov.o)).2]) ∧ Below W.heap.size W W' := by
  by_cases h0 : (encV (l.map Ov.o)).2 = 0
  · have e1 : meaV (l.map Ov.o) = (sumW (enc (l.map Ov.o)), 0) := by unfold meaV; rw [if_pos h0]
    rw [e1]
    rcases enc_case (l.map Ov.o) with ⟨h1, he⟩ | ⟨h1, he⟩ | ⟨h1, he⟩
    · rw [he] at h0; simp at h0
    · rw [he] at h0; simp at h0
    · exact measure_ok W hT h2 ao n c l hn h hm h1.1 h1.2
  · have e1 : meaV (l.map Ov.o) = (List.replicate 8 0, (encV (l.map Ov.o)).2) := by unfold meaV; rw [if_neg h0]
    rw [e1]
    exact measure_err W ao n c _ (by simpa using h0) (encNo_of hn h hm h0)
theorem decode_v (W : World) (ao : Option Addr) (n c : Nat) (ws : List Int) (hn : ws.length = n) (hw : Wds ws) (h : At W .u32 ao ws) (hc : n ≤ c) (hm : n ≤ 4611686018427387904) :
    Calls Tryd.prog 8 #[.slice ao n c] W fun e W' => ∃ p cp lo, e = .returned (.tuple #[.slice p lo.length cp, .int .i64 (decV ws).2]) ∧ HO W W' (.slice p lo.length cp) lo ∧ lo.map Ov.o = (decV ws).1 := by
  refine (decode_any W ao n c ws hn hw h hc hm).mono ?_
  rintro e w ⟨hb, ⟨h1, rfl⟩ | ⟨h1, h3, rfl⟩ | ⟨h1, v, l, rfl, h3, h4, h5⟩⟩
  · rw [decV_long h1]
    exact ⟨none, 0, [], rfl, (HO.start W).on hb, rfl⟩
  · rw [decV_no h1 h3]
    exact ⟨none, 0, [], rfl, (HO.start W).on hb, rfl⟩
  · rw [decV_yes h1 h4 h5]
    obtain ⟨p, cp, rfl, _, _⟩ := h3.ol
    exact ⟨p, cp, l, rfl, h3, rfl⟩
theorem collide_v (W : World) (hT : Tab W) (h2 : 1 < W.heap.size) (ao bo : Option Addr) (n c m d : Nat) (l k : List Ov) (hn : l.length = n) (h : OL W ao l) (hm : n ≤ 4611686018427387904) (hn' : k.length = m) (h' : OL W bo k) (hm' : m ≤ 4611686018427387904) :
    Calls Tryd.prog 21 #[.slice ao n c, .slice bo m d] W fun e W' => ∃ p cp q cq, e = .returned (.tuple #[.agg #[.slice p (colV (l.map Ov.o) (k.map Ov.o)).1.length cp, .slice q (colV (l.map Ov.o) (k.map Ov.o)).2.1.length cq], .int .i64 (colV (l.map Ov.o) (k.map Ov.o)).2.2]) ∧ At W' .u32 p (colV (l.map Ov.o) (k.map Ov.o)).1 ∧ At W' .u32 q (colV (l.map Ov.o) (k.map Ov.o)).2.1 ∧ Below W.heap.size W W' := by
  by_cases h0 : (encV (l.map Ov.o)).2 = 0
  · by_cases h1 : (encV (k.map Ov.o)).2 = 0
    · have e0 : colV (l.map Ov.o) (k.map Ov.o) = (if enc (l.map Ov.o) = enc (k.map Ov.o) ∨ sumW (enc (l.map Ov.o)) ≠ sumW (enc (k.map Ov.o)) then ([], [], 1) else (enc (l.map Ov.o), enc (k.map Ov.o), 0)) := by unfold colV; rw [if_pos h0, if_pos h1]
      have hkl : (∀ o ∈ l.map Ov.o, o.Ok) ∧ (enc (l.map Ov.o)).length ≤ 262144 := by
        rcases enc_case (l.map Ov.o) with ⟨g1, he⟩ | ⟨g1, he⟩ | ⟨g1, he⟩
        · rw [he] at h0; simp at h0
        · rw [he] at h0; simp at h0
        · exact g1
      have hkk : (∀ o ∈ k.map Ov.o, o.Ok) ∧ (enc (k.map Ov.o)).length ≤ 262144 := by
        rcases enc_case (k.map Ov.o) with ⟨g1, he⟩ | ⟨g1, he⟩ | ⟨g1, he⟩
        · rw [he] at h1; simp at h1
        · rw [he] at h1; simp at h1
        · exact g1
      by_cases hc : enc (l.map Ov.o) = enc (k.map Ov.o) ∨ sumW (enc (l.map Ov.o)) ≠ sumW (enc (k.map Ov.o))
      · rw [e0, if_pos hc]
        refine (col_arg W hT h2 ao bo n c m d _ _ _ _ rfl rfl hkl.2 hkk.2 (encOk_of hn h hm h0) (encOk_of hn' h' hm' h1) hc).mono ?_
        rintro e w ⟨rfl, hb⟩
        exact ⟨none, 0, none, 0, rfl, .inl rfl, .inl rfl, hb⟩
      · rw [e0, if_neg hc]
        refine (col_pair W hT h2 ao bo n c m d _ _ _ _ rfl rfl hkl.2 hkk.2 (encOk_of hn h hm h0) (encOk_of hn' h' hm' h1) ⟨fun e => hc (.inl e), Classical.byContradiction (fun e => hc (.inr e))⟩).mono ?_
        rintro e w ⟨p, cp, q, cq, rfl, ha, hb⟩
        exact ⟨p, cp, q, cq, rfl, (holds_at' ha).1, (holds_at' hb).1, ha.below⟩
    · have e0 : colV (l.map Ov.o) (k.map Ov.o) = ([], [], (encV (k.map Ov.o)).2) := by unfold colV; rw [if_pos h0, if_neg h1]
      rw [e0]
      refine (col_no W ao bo n c m d _ (fun w hw => co_e2 w ao bo n c m d _ _ (encOk_of hn (h.on hw) hm h0) _ (by simpa using h1) (encNo_of hn' (h'.on hw) hm' h1))).mono ?_
      rintro e w ⟨rfl, hb⟩
      exact ⟨none, 0, none, 0, rfl, .inl rfl, .inl rfl, hb⟩
  · have e0 : colV (l.map Ov.o) (k.map Ov.o) = ([], [], (encV (l.map Ov.o)).2) := by unfold colV; rw [if_neg h0]
    rw [e0]
    refine (col_no W ao bo n c m d _ (fun w hw => co_e1 w ao bo n c m d _ (by simpa using h0) (encNo_of hn (h.on hw) hm h0))).mono ?_
    rintro e w ⟨rfl, hb⟩
    exact ⟨none, 0, none, 0, rfl, .inl rfl, .inl rfl, hb⟩
theorem rencode_v (W : World) (ao : Option Addr) (n c : Nat) (l : List Ov) (hn : l.length = n) (h : OL W ao l) (hm : n ≤ 4611686018427387904) :
    Calls Tryd.prog 30 #[.slice ao n c] W fun e W' => ∃ p cp, e = .returned (.tuple #[.slice p (encV (l.map Ov.o)).1.length cp, .int .i64 (encV (l.map Ov.o)).2]) ∧ At W' .u32 p (encV (l.map Ov.o)).1 ∧ Below W.heap.size W W' := by
  rcases enc_case (l.map Ov.o) with ⟨h1, h0⟩ | ⟨h1, h0⟩ | ⟨h1, h0⟩ <;> rw [h0]
  · refine (rencode_bad W ao n c l hn h hm h1).mono ?_
    rintro e w ⟨rfl, hb⟩
    exact ⟨none, 0, rfl, .inl rfl, hb⟩
  · refine (rencode_long W ao n c l hn h hm h1.1 h1.2).mono ?_
    rintro e w ⟨rfl, hb⟩
    exact ⟨none, 0, rfl, .inl rfl, hb⟩
  · refine (rencode_ok W ao n c l hn h hm h1.1 h1.2).mono ?_
    rintro e w ⟨p, cp, rfl, hh⟩
    exact ⟨p, cp, rfl, (holds_at' hh).1, hh.below⟩
theorem rencNo_of {W : World} {ao : Option Addr} {n c : Nat} {l : List Ov} (hn : l.length = n) (h : OL W ao l) (hm : n ≤ 4611686018427387904) (h0 : ¬ (encV (l.map Ov.o)).2 = 0) : REncNo W ao n c (encV (l.map Ov.o)).2 := fun w hw => by
  rcases enc_case (l.map Ov.o) with ⟨h1, he⟩ | ⟨h1, he⟩ | ⟨h1, he⟩
  · rw [he]; exact rencode_bad w ao n c l hn (h.on hw) hm h1
  · rw [he]; exact rencode_long w ao n c l hn (h.on hw) hm h1.1 h1.2
  · rw [he] at h0; exact absurd rfl h0
theorem rencOk_of {W : World} {ao : Option Addr} {n c : Nat} {l : List Ov} (hn : l.length = n) (h : OL W ao l) (hm : n ≤ 4611686018427387904) (h0 : (encV (l.map Ov.o)).2 = 0) : REncOk W ao n c (enc (l.map Ov.o)).length (enc (l.map Ov.o)) := fun w hw => by
  rcases enc_case (l.map Ov.o) with ⟨h1, he⟩ | ⟨h1, he⟩ | ⟨h1, he⟩
  · rw [he] at h0; simp at h0
  · rw [he] at h0; simp at h0
  · exact rencode_ok w ao n c l hn (h.on hw) hm h1.1 h1.2
theorem rmeasure_v (W : World) (hT : TabR W) (h2 : 1 < W.heap.size) (ao : Option Addr) (n c : Nat) (l : List Ov) (hn : l.length = n) (h : OL W ao l) (hm : n ≤ 4611686018427387904) (hwE : (∀ o ∈ l.map Ov.o, o.Ok) → Wds (enc (l.map Ov.o))) :
    Calls Tryd.prog 32 #[.slice ao n c] W fun e W' => e = .returned (.tuple #[Ag (meaV (l.map Ov.o)).1, .int .i64 (meaV (l.map Ov.o)).2]) ∧ Below W.heap.size W W' := by
  by_cases h0 : (encV (l.map Ov.o)).2 = 0
  · have e1 : meaV (l.map Ov.o) = (sumW (enc (l.map Ov.o)), 0) := by unfold meaV; rw [if_pos h0]
    rw [e1]
    rcases enc_case (l.map Ov.o) with ⟨h1, he⟩ | ⟨h1, he⟩ | ⟨h1, he⟩
    · rw [he] at h0; simp at h0
    · rw [he] at h0; simp at h0
    · exact rmeasure_ok W hT h2 ao n c l hn h hm h1.1 h1.2 (hwE h1.1)
  · have e1 : meaV (l.map Ov.o) = (List.replicate 8 0, (encV (l.map Ov.o)).2) := by unfold meaV; rw [if_neg h0]
    rw [e1]
    exact rmeasure_err W ao n c _ (by simpa using h0) (rencNo_of hn h hm h0)
theorem rdecode_v (W : World) (ao : Option Addr) (n c : Nat) (ws : List Int) (hn : ws.length = n) (hw : Wds ws) (h : At W .u32 ao ws) (hc : n ≤ c) (hm : n ≤ 4611686018427387904) :
    Calls Tryd.prog 33 #[.slice ao n c] W fun e W' => ∃ p cp lo, e = .returned (.tuple #[.slice p lo.length cp, .int .i64 (decV ws).2]) ∧ HR W W' (.slice p lo.length cp) lo ∧ lo.map Ov.o = (decV ws).1 := by
  refine (rdecode_any W ao n c ws hn hw h hc hm).mono ?_
  rintro e w ⟨hb, ⟨h1, rfl⟩ | ⟨h1, h3, rfl⟩ | ⟨h1, v, l, rfl, h3, h4, h5⟩⟩
  · rw [decV_long h1]
    exact ⟨none, 0, [], rfl, (HR.start W).on hb, rfl⟩
  · rw [decV_no h1 h3]
    exact ⟨none, 0, [], rfl, (HR.start W).on hb, rfl⟩
  · rw [decV_yes h1 h4 h5]
    obtain ⟨p, cp, rfl, _, _⟩ := h3.ol
    exact ⟨p, cp, l, rfl, h3, rfl⟩
theorem rcollide_v (W : World) (hT : TabR W) (h2 : 1 < W.heap.size) (ao bo : Option Addr) (n c m d : Nat) (l k : List Ov) (hn : l.length = n) (h : OL W ao l) (hm : n ≤ 4611686018427387904) (hn' : k.length = m) (h' : OL W bo k) (hm' : m ≤ 4611686018427387904) (wE : (∀ o ∈ l.map Ov.o, o.Ok) → Wds (enc (l.map Ov.o))) (wF : (∀ o ∈ k.map Ov.o, o.Ok) → Wds (enc (k.map Ov.o))) :
    Calls Tryd.prog 34 #[.slice ao n c, .slice bo m d] W fun e W' => ∃ p cp q cq, e = .returned (.tuple #[.agg #[.slice p (colV (l.map Ov.o) (k.map Ov.o)).1.length cp, .slice q (colV (l.map Ov.o) (k.map Ov.o)).2.1.length cq], .int .i64 (colV (l.map Ov.o) (k.map Ov.o)).2.2]) ∧ At W' .u32 p (colV (l.map Ov.o) (k.map Ov.o)).1 ∧ At W' .u32 q (colV (l.map Ov.o) (k.map Ov.o)).2.1 ∧ Below W.heap.size W W' := by
  by_cases h0 : (encV (l.map Ov.o)).2 = 0
  · by_cases h1 : (encV (k.map Ov.o)).2 = 0
    · have e0 : colV (l.map Ov.o) (k.map Ov.o) = (if enc (l.map Ov.o) = enc (k.map Ov.o) ∨ sumW (enc (l.map Ov.o)) ≠ sumW (enc (k.map Ov.o)) then ([], [], 1) else (enc (l.map Ov.o), enc (k.map Ov.o), 0)) := by unfold colV; rw [if_pos h0, if_pos h1]
      have hkl : (∀ o ∈ l.map Ov.o, o.Ok) ∧ (enc (l.map Ov.o)).length ≤ 262144 := by
        rcases enc_case (l.map Ov.o) with ⟨g1, he⟩ | ⟨g1, he⟩ | ⟨g1, he⟩
        · rw [he] at h0; simp at h0
        · rw [he] at h0; simp at h0
        · exact g1
      have hkk : (∀ o ∈ k.map Ov.o, o.Ok) ∧ (enc (k.map Ov.o)).length ≤ 262144 := by
        rcases enc_case (k.map Ov.o) with ⟨g1, he⟩ | ⟨g1, he⟩ | ⟨g1, he⟩
        · rw [he] at h1; simp at h1
        · rw [he] at h1; simp at h1
        · exact g1
      refine (rco_two W hT h2 ao bo n c m d _ _ _ _ rfl rfl hkl.2 hkk.2 (wE hkl.1) (wF hkk.1) (rencOk_of hn h hm h0) (rencOk_of hn' h' hm' h1)).mono ?_
      rintro e w (⟨hc, rfl, hb⟩ | ⟨hc, p, cp, q, cq, rfl, ha, hb⟩)
      · rw [e0, if_pos hc]
        exact ⟨none, 0, none, 0, rfl, .inl rfl, .inl rfl, hb⟩
      · rw [e0, if_neg (fun h => h.elim (fun h => hc.1 h) (fun h => h hc.2))]
        exact ⟨p, cp, q, cq, rfl, (holds_at' ha).1, (holds_at' hb).1, ha.below⟩
    · have e0 : colV (l.map Ov.o) (k.map Ov.o) = ([], [], (encV (k.map Ov.o)).2) := by unfold colV; rw [if_pos h0, if_neg h1]
      rw [e0]
      refine (rco_e2 W ao bo n c m d _ _ (rencOk_of hn h hm h0) _ (by simpa using h1) (rencNo_of hn' h' hm' h1)).mono ?_
      rintro e w ⟨rfl, hb⟩
      exact ⟨none, 0, none, 0, rfl, .inl rfl, .inl rfl, hb⟩
  · have e0 : colV (l.map Ov.o) (k.map Ov.o) = ([], [], (encV (l.map Ov.o)).2) := by unfold colV; rw [if_neg h0]
    rw [e0]
    refine (rco_e1 W ao bo n c m d _ (by simpa using h0) (rencNo_of hn h hm h0)).mono ?_
    rintro e w ⟨rfl, hb⟩
    exact ⟨none, 0, none, 0, rfl, .inl rfl, .inl rfl, hb⟩
end Go.Proofs.YtmomidkodjihjaaDoor
