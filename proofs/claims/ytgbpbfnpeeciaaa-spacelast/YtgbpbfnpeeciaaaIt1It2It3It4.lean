/- entries' closure 76. entries' closure 77. entries 71 and 72; what stays, by the kinds of blocks. What stays: blocks as objects. -/
import Derived.Test.YtgbpbfnpeeciaaaIt0
import Derived.Test.YtgbpbfnpeeciaaaLp
namespace Go.Proofs.Ytgbpbfnpeeciaaa
open Go.RowKit Go.Shelf
set_option maxHeartbeats 8000000
set_option maxRecDepth 100000
/-- The five boxes of entries. -/
structure EB (W : World) (bw bm bt bp bf : Nat) (gm : Nat) (t : Int) (words : Nat) (fp ff : Nat) : Prop where
  w : W.cell? ⟨bw, 0, none⟩ = some (.int .i64 (words : Int))
  m : W.cell? ⟨bm, 0, none⟩ = some (.pointer (some ⟨gm, 0, none⟩))
  t : W.cell? ⟨bt, 0, none⟩ = some (.int .i64 t)
  p : W.cell? ⟨bp, 0, none⟩ = some (.func (.func fp) #[] #[])
  f : W.cell? ⟨bf, 0, none⟩ = some (.func (.func ff) #[] #[])
theorem ent1_in (n l bw bm bt bp bf : Nat) (f : Fp) (m : MS) (hU : m.U) (t : Int) (words : Nat) (hw : words ≤ 1024) (J : Nat → Int → World → Prop)
    (hJ : ∀ k c W, J k c W → Mem W f (m.wc c) ∧ EB W bw bm bt bp bf f.gm t words 51 47)
    (hS : ∀ (k : Nat) c W W', k < words → J k c W → Mem W' f ((m.wc c).read true t (k : Int)) → ButL f.w W W' →
      if m.f1E t (k : Int) = 0 then YieldAt .wide (n - 1) Try.prog l #[.int .i64 (k : Int), .int .i64 (m.f1 t (k : Int))] W' (fun e W'' => e = .returned (.bool true) ∧ ∃ c', J (k + 1) c' W'') else J (k + 1) ((m.wc c).read true t (k : Int)).c W')
    (W : World) (c0 : Int) (h0 : J 0 c0 W) :
    CallsIn .wide n Try.prog 100 #[.func (.yield l) #[] #[], .pointer (some ⟨bw, 0, none⟩), .pointer (some ⟨bm, 0, none⟩), .pointer (some ⟨bt, 0, none⟩), .pointer (some ⟨bp, 0, none⟩), .pointer (some ⟨bf, 0, none⟩)] W fun e W' => (∃ v, e = .returned v) ∧ ∃ c, J words c W' := by
  have wq : (words : Int) ≤ 1024 := by omega
  have w0 := (hJ 0 c0 W h0).2.w
  refine callsIn_of_wp Try.func100 rfl trivial ?_ rfl
  simp only [Try.ntmps100, List.size_toArray, List.length_cons, List.length_nil, Nat.reduceAdd, Nat.reduceSub, Array.replicate_succ, Array.replicate_zero, List.push_toArray, List.append_toArray, List.nil_append, List.cons_append]
  gi_wp2
  clear w0
  gi_loopw [11] (fun p wr => ∃ (k : Nat) (c : Int), k ≤ words ∧ p = .int .i64 (k : Int) ∧ Hid (J k c wr)) (fun p _ => words - (intOf p).toNat)
  case atStart => exact ⟨0, c0, Nat.zero_le _, rfl, hid h0⟩
  case round =>
    obtain ⟨k, c, hk, rfl, HQ⟩ := hrel
    by_cases hlt : k < words
    · have q1 : (k : Int) < (words : Int) := by omega
      have q2 : (k : Int) ≤ 1024 := by omega
      obtain ⟨hm, hb⟩ := hJ k c _ HQ.out
      obtain ⟨e1, e2, e3, e4, e5⟩ := hb
      have HF : Hid (Calls Try.prog 50 #[ptr f.gm, .int .i64 t, .int .i64 (k : Int), fnV 51, fnV 47] wr fun x w' => x = .returned (.tuple #[.int .i64 (m.f1 t (k : Int)), .int .i64 (m.f1E t (k : Int))]) ∧ Mem w' f ((m.wc c).read true t (k : Int)) ∧ ButL f.w wr w') := hid (follow1_any _ f (m.wc c) hm hU t (k : Int))
      unfold fnV ptr at HF
      have HSk := hid (fun w1 (h1 : Mem w1 f ((m.wc c).read true t (k : Int))) (h2 : ButL f.w wr w1) => hS k c wr w1 hlt HQ.out h1 h2)
      clear hm
      generalize m.f1E t (k : Int) = e at *
      generalize m.f1 t (k : Int) = p at *
      gi_wp2
      refine ⟨trivial, (fun h => by cases h), CallsIn.mono (callsIn_wide.2 HF.out) ?_⟩
      rintro x w1 ⟨rfl, hm1, hb1⟩
      have HS1 := hid (HSk.out w1 hm1 hb1)
      clear hm1 hb1 HF HSk e1 e2 e3 e4 e5
      by_cases he : e = 0
      · subst he
        rw [if_pos rfl] at HS1
        obtain ⟨fn, tmps, assign, body, hy, hR⟩ := HS1.out
        have HR := hid hR
        clear hR
        gi_wp2
        refine ⟨(fun h => by cases h), RoundIn.mono HR.out ?_⟩
        rintro x w2 ⟨rfl, c', hJ2⟩
        have HJ2 := hid hJ2
        clear hJ2 HR hy
        gi_wp2
        go_roundw
        case rel => exact ⟨k + 1, c', by omega, by simp, HJ2⟩
        case measure => simp [intOf] <;> omega
      · rw [if_neg he] at HS1
        have heb : (e == 0) = false := by simp [he]
        gi_wp2
        refine ⟨(fun _ h => by cases h), ?_⟩
        gi_wp2
        go_roundw
        case rel => exact ⟨k + 1, _, by omega, by simp, HS1⟩
        case measure => simp [intOf] <;> omega
    · have hkw : k = words := by omega
      subst hkw
      gi_wp2
      go_end0
      exact ⟨⟨_, rfl⟩, c, HQ.out⟩
end Go.Proofs.Ytgbpbfnpeeciaaa
namespace Go.Proofs.Ytgbpbfnpeeciaaa
open Go.RowKit Go.Shelf
set_option maxHeartbeats 8000000
set_option maxRecDepth 100000
theorem ent2_in (n l bw bm bt bp bf : Nat) (f : Fp) (m : MS) (hU : m.U) (t : Int) (words : Nat) (hw : words ≤ 1024) (J : Nat → Int → World → Prop)
    (hJ : ∀ k c W, J k c W → Mem W f (m.wc c) ∧ EB W bw bm bt bp bf f.gm t words 53 54)
    (hS : ∀ (k : Nat) c W W', k < words → J k c W → Mem W' f ((m.wc c).read true t (k : Int)) → ButL f.w W W' →
      if m.f2E t (k : Int) = 0 then YieldAt .wide (n - 1) Try.prog l #[.int .i64 (k : Int), (m.f2 t (k : Int)).v] W' (fun e W'' => e = .returned (.bool true) ∧ ∃ c', J (k + 1) c' W'') else J (k + 1) ((m.wc c).read true t (k : Int)).c W')
    (W : World) (c0 : Int) (h0 : J 0 c0 W) :
    CallsIn .wide n Try.prog 101 #[.func (.yield l) #[] #[], .pointer (some ⟨bw, 0, none⟩), .pointer (some ⟨bm, 0, none⟩), .pointer (some ⟨bt, 0, none⟩), .pointer (some ⟨bp, 0, none⟩), .pointer (some ⟨bf, 0, none⟩)] W fun e W' => (∃ v, e = .returned v) ∧ ∃ c, J words c W' := by
  have wq : (words : Int) ≤ 1024 := by omega
  have w0 := (hJ 0 c0 W h0).2.w
  refine callsIn_of_wp Try.func101 rfl trivial ?_ rfl
  simp only [Try.ntmps101, List.size_toArray, List.length_cons, List.length_nil, Nat.reduceAdd, Nat.reduceSub, Array.replicate_succ, Array.replicate_zero, List.push_toArray, List.append_toArray, List.nil_append, List.cons_append]
  gi_wp2
  clear w0
  gi_loopw [11] (fun p wr => ∃ (k : Nat) (c : Int), k ≤ words ∧ p = .int .i64 (k : Int) ∧ Hid (J k c wr)) (fun p _ => words - (intOf p).toNat)
  case atStart => exact ⟨0, c0, Nat.zero_le _, rfl, hid h0⟩
  case round =>
    obtain ⟨k, c, hk, rfl, HQ⟩ := hrel
    by_cases hlt : k < words
    · have q1 : (k : Int) < (words : Int) := by omega
      have q2 : (k : Int) ≤ 1024 := by omega
      obtain ⟨hm, hb⟩ := hJ k c _ HQ.out
      obtain ⟨e1, e2, e3, e4, e5⟩ := hb
      have HF : Hid (Calls Try.prog 52 #[ptr f.gm, .int .i64 t, .int .i64 (k : Int), fnV 53, fnV 54] wr fun x w' => x = .returned (.tuple #[(m.f2 t (k : Int)).v, .int .i64 (m.f2E t (k : Int))]) ∧ Rd wr w' f ((m.wc c).read true t (k : Int))) := hid (follow2_any _ f (m.wc c) hm hU t (k : Int))
      unfold fnV ptr at HF
      have HSk := hid (fun w1 (h1 : Mem w1 f ((m.wc c).read true t (k : Int))) (h2 : ButL f.w wr w1) => hS k c wr w1 hlt HQ.out h1 h2)
      clear hm
      generalize m.f2E t (k : Int) = e at *
      generalize m.f2 t (k : Int) = p at *
      unfold Mp.v at *
      gi_wp2
      refine ⟨trivial, (fun h => by cases h), CallsIn.mono (callsIn_wide.2 HF.out) ?_⟩
      rintro x w1 ⟨rfl, hr1⟩
      have HS1 := hid (HSk.out _ (hr1.mem.on (below_one w1 (.cells #[.bool p.s, .int .i64 p.p, .bool p.wr, .bool p.ex] 49))) (hr1.but.on (below_one w1 (.cells #[.bool p.s, .int .i64 p.p, .bool p.wr, .bool p.ex] 49))))
      clear hr1 HF HSk e1 e2 e3 e4 e5
      by_cases he : e = 0
      · subst he
        rw [if_pos rfl] at HS1
        obtain ⟨fn, tmps, assign, body, hy, hR⟩ := HS1.out
        have HR := hid hR
        clear hR
        gi_wp2
        refine ⟨(fun h => by cases h), RoundIn.mono HR.out ?_⟩
        rintro x w2 ⟨rfl, c', hJ2⟩
        have HJ2 := hid hJ2
        clear hJ2 HR hy
        gi_wp2
        go_roundw
        case rel => exact ⟨k + 1, c', by omega, by simp, HJ2⟩
        case measure => simp [intOf] <;> omega
      · rw [if_neg he] at HS1
        have heb : (e == 0) = false := by simp [he]
        gi_wp2
        refine ⟨(fun _ h => by cases h), ?_⟩
        gi_wp2
        go_roundw
        case rel => exact ⟨k + 1, _, by omega, by simp, HS1⟩
        case measure => simp [intOf] <;> omega
    · have hkw : k = words := by omega
      subst hkw
      gi_wp2
      go_end0
      exact ⟨⟨_, rfl⟩, c, HQ.out⟩
end Go.Proofs.Ytgbpbfnpeeciaaa
namespace Go.Proofs.Ytgbpbfnpeeciaaa
open Go.RowKit Go.Shelf
set_option maxHeartbeats 8000000
set_option maxRecDepth 100000
/-- An object at a block. -/
def Ob (W : World) (k : Nat) (o : Obj) : Prop := W.heap[k]? = some o
theorem Ob.lt {W : World} {k : Nat} {o : Obj} (h : Ob W k o) : k < W.heap.size := (Array.getElem?_eq_some_iff.1 h).1
theorem Ob.on {W W' : World} {k : Nat} {o : Obj} (h : Ob W k o) (hb : Below W.heap.size W W') : Ob W' k o := (hb.block k h.lt).trans h
def box (v : Value) (t : TypeId) : Obj := .cells #[v] t (0, 0)
theorem Ob.cell {W : World} {k : Nat} {v : Value} {t : TypeId} (h : Ob W k (box v t)) : W.cell? ⟨k, 0, none⟩ = some v := by
  rw [cell_of_row W k 0 _ t (0, 0) h]; rfl
/-- Five boxes, new. -/
structure FB (W W' : World) (bw bm bt bp bf : Nat) (gm : Nat) (t : Int) (words : Nat) (fp ff : Nat) (tp tf : TypeId) : Prop where
  w : Ob W' bw (box (.int .i64 (words : Int)) 3)
  m : Ob W' bm (box (.pointer (some ⟨gm, 0, none⟩)) 65)
  t : Ob W' bt (box (.int .i64 t) 3)
  p : Ob W' bp (box (.func (.func fp) #[] #[]) tp)
  f : Ob W' bf (box (.func (.func ff) #[] #[]) tf)
  lo : W.heap.size ≤ bw ∧ W.heap.size ≤ bm ∧ W.heap.size ≤ bt ∧ W.heap.size ≤ bp ∧ W.heap.size ≤ bf
  below : Below W.heap.size W W'
theorem FB.eb {W W' : World} {bw bm bt bp bf gm : Nat} {t : Int} {words fp ff : Nat} {tp tf : TypeId} (h : FB W W' bw bm bt bp bf gm t words fp ff tp tf) : EB W' bw bm bt bp bf gm t words fp ff := ⟨h.w.cell, h.m.cell, h.t.cell, h.p.cell, h.f.cell⟩
theorem five (W : World) (gm : Nat) (t : Int) (words fp ff : Nat) (tp tf : TypeId) :
    FB W (((((W.alloc (.cells #[.pointer (some ⟨gm, 0, none⟩)] 65)).alloc (.cells #[.int .i64 t] 3)).alloc (.cells #[.int .i64 (words : Int)] 3)).alloc (.cells #[.func (.func fp) #[] #[]] tp)).alloc (.cells #[.func (.func ff) #[] #[]] tf)) (W.heap.size + 1 + 1) W.heap.size (W.heap.size + 1) (W.heap.size + 1 + 1 + 1) (W.heap.size + 1 + 1 + 1 + 1) gm t words fp ff tp tf := by
  have h0 : ∀ (w : World) (o : Obj), Ob (w.alloc o) w.heap.size o := fun w o => heap_alloc_new _ _
  have hs : ∀ (w : World) (o : Obj), (w.alloc o).heap.size = w.heap.size + 1 := fun w o => World.size_alloc _ _
  have hb : ∀ (w : World) (o : Obj), Below w.heap.size w (w.alloc o) := below_one
  have a0 := h0 W (.cells #[.pointer (some ⟨gm, 0, none⟩)] 65)
  generalize e1 : W.alloc (.cells #[.pointer (some ⟨gm, 0, none⟩)] 65) = w1 at *
  have s1 : w1.heap.size = W.heap.size + 1 := by rw [← e1]; exact hs _ _
  have b1 : Below W.heap.size W w1 := by rw [← e1]; exact hb _ _
  have a1 := h0 w1 (.cells #[.int .i64 t] 3)
  generalize e2 : w1.alloc (.cells #[.int .i64 t] 3) = w2 at *
  have s2 : w2.heap.size = w1.heap.size + 1 := by rw [← e2]; exact hs _ _
  have b2 : Below w1.heap.size w1 w2 := by rw [← e2]; exact hb _ _
  have a2 := h0 w2 (.cells #[.int .i64 (words : Int)] 3)
  generalize e3 : w2.alloc (.cells #[.int .i64 (words : Int)] 3) = w3 at *
  have s3 : w3.heap.size = w2.heap.size + 1 := by rw [← e3]; exact hs _ _
  have b3 : Below w2.heap.size w2 w3 := by rw [← e3]; exact hb _ _
  have a3 := h0 w3 (.cells #[.func (.func fp) #[] #[]] tp)
  generalize e4 : w3.alloc (.cells #[.func (.func fp) #[] #[]] tp) = w4 at *
  have s4 : w4.heap.size = w3.heap.size + 1 := by rw [← e4]; exact hs _ _
  have b4 : Below w3.heap.size w3 w4 := by rw [← e4]; exact hb _ _
  have a4 := h0 w4 (.cells #[.func (.func ff) #[] #[]] tf)
  generalize e5 : w4.alloc (.cells #[.func (.func ff) #[] #[]] tf) = w5 at *
  have b5 : Below w4.heap.size w4 w5 := by rw [← e5]; exact hb _ _
  rw [s1] at a1
  rw [s2, s1] at a2
  rw [s3, s2, s1] at a3
  rw [s4, s3, s2, s1] at a4
  exact ⟨((a2.on b4).on b5), (((a0.on b2).on b3).on b4).on b5, ((a1.on b3).on b4).on b5, a3.on b5, a4, ⟨by omega, by omega, by omega, by omega, by omega⟩, below_on (below_on (below_on (below_on b1 b2) b3) b4) b5⟩
theorem entries1_any (W : World) (gm : Nat) (t : Int) :
    Calls Try.prog 85 #[.pointer (some ⟨gm, 0, none⟩), .int .i64 t, .int .i64 256, .func (.func 51) #[] #[], .func (.func 47) #[] #[]] W fun x W' => ∃ bw bm bt bp bf, x = .returned (.func (.func 100) #[] #[.pointer (some ⟨bw, 0, none⟩), .pointer (some ⟨bm, 0, none⟩), .pointer (some ⟨bt, 0, none⟩), .pointer (some ⟨bp, 0, none⟩), .pointer (some ⟨bf, 0, none⟩)]) ∧ FB W W' bw bm bt bp bf gm t 256 51 47 119 109 := by
  have H := hid (five W gm t 256 51 47 119 109)
  go_enter Try.func85, Try.ntmps85
  go_wp2_with fail
  go_ret
  exact ⟨_, _, _, _, _, rfl, H.out⟩
theorem entries2_any (W : World) (gm : Nat) (t : Int) :
    Calls Try.prog 86 #[.pointer (some ⟨gm, 0, none⟩), .int .i64 t, .int .i64 1024, .func (.func 53) #[] #[], .func (.func 54) #[] #[]] W fun x W' => ∃ bw bm bt bp bf, x = .returned (.func (.func 101) #[] #[.pointer (some ⟨bw, 0, none⟩), .pointer (some ⟨bm, 0, none⟩), .pointer (some ⟨bt, 0, none⟩), .pointer (some ⟨bp, 0, none⟩), .pointer (some ⟨bf, 0, none⟩)]) ∧ FB W W' bw bm bt bp bf gm t 1024 53 54 121 122 := by
  have H := hid (five W gm t 1024 53 54 121 122)
  go_enter Try.func86, Try.ntmps86
  go_wp2_with fail
  go_ret
  exact ⟨_, _, _, _, _, rfl, H.out⟩
end Go.Proofs.Ytgbpbfnpeeciaaa
namespace Go.Proofs.Ytgbpbfnpeeciaaa
open Go.RowKit Go.Shelf
def notL : Obj → Bool
  | .cells _ t _ => t != 55
  | _ => true
/-- What a step of the iterators' own leaves: cells that are none of the memory's, and all below. -/
structure St (B : Nat) (f : Fp) (W W' : World) : Prop where
  os : W'.os = W.os
  tape : W'.tape = W.tape
  output : W'.output = W.output
  size : W.heap.size ≤ W'.heap.size
  low : ∀ k, k < B → k ∉ f.w → k < W.heap.size → W'.heap[k]? = W.heap[k]?
  cel : ∀ k cs t z, k ∉ f.w → W.heap[k]? = some (.cells cs t z) → W'.heap[k]? = W.heap[k]?
theorem St.refl (B : Nat) (f : Fp) (W : World) : St B f W W := ⟨rfl, rfl, rfl, Nat.le_refl _, fun _ _ _ _ => rfl, fun _ _ _ _ _ _ => rfl⟩
theorem St.trans {B : Nat} {f : Fp} {a b c : World} (h : St B f a b) (h' : St B f b c) : St B f a c :=
  ⟨h'.os.trans h.os, h'.tape.trans h.tape, h'.output.trans h.output, Nat.le_trans h.size h'.size, fun k hk hf hl => (h'.low k hk hf (by have := h.size; omega)).trans (h.low k hk hf hl),
   fun k cs t z hf hc => (h'.cel k cs t z hf ((h.cel k cs t z hf hc).trans hc)).trans (h.cel k cs t z hf hc)⟩
theorem St.of {B : Nat} {f : Fp} {W W' : World} (h : ButL f.w W W') : St B f W W' :=
  ⟨h.os, h.tape, h.output, h.size, fun k _ hf hl => h.block k hl hf, fun k _ _ _ hf hc => h.block k (Array.getElem?_eq_some_iff.1 hc).1 hf⟩
theorem St.on {B : Nat} {f : Fp} {a W W' : World} (h : St B f a W) (hb : Below W.heap.size W W') : St B f a W' := h.trans (.of (.of hb))
theorem putObj_but (W : World) (k : Nat) (o : Obj) : ButL [k] W (W.putObj k o) :=
  ⟨rfl, rfl, rfl, by simp [World.putObj], fun j _ hj => World.putObj_heap_other (by rw [List.mem_singleton] at hj; exact hj)⟩
theorem St.put {B : Nat} {f : Fp} {a W : World} (h : St B f a W) {k : Nat} (hk : B ≤ k) {o : Obj} (ho : Ob W k o) (hn : o.isCells = false) (o' : Obj) : St B f a (W.putObj k o') := by
  have hp := putObj_but W k o'
  refine h.trans ⟨hp.os, hp.tape, hp.output, hp.size, fun j hj _ hl => hp.block j hl (by rw [List.mem_singleton]; omega), fun j cs t z _ hc => hp.block j (Array.getElem?_eq_some_iff.1 hc).1 ?_⟩
  rw [List.mem_singleton]
  rintro rfl
  rw [show W.heap[j]? = some o from ho] at hc
  cases hc
  cases hn
/-- What a round of List's keeps of the blocks from B on. -/
structure Kq (B : Nat) (W W' : World) : Prop where
  size : W.heap.size ≤ W'.heap.size
  keep : ∀ k o, B ≤ k → Ob W k o → notL o = true → Ob W' k o
theorem Kq.refl (B : Nat) (W : World) : Kq B W W := ⟨Nat.le_refl _, fun _ _ _ h _ => h⟩
/-- Several objects. -/
def Obs (W : World) (l : List (Nat × Obj)) : Prop := ∀ p ∈ l, Ob W p.1 p.2
def Okl (B : Nat) (f : Fp) (l : List (Nat × Obj)) : Prop := ∀ p ∈ l, B ≤ p.1 ∧ notL p.2 = true ∧ p.1 ∉ f.w
theorem Obs.on {W W' : World} {l : List (Nat × Obj)} (h : Obs W l) (hb : Below W.heap.size W W') : Obs W' l := fun p hp => (h p hp).on hb
theorem Obs.but {W W' : World} {l : List (Nat × Obj)} {G : List Nat} (h : Obs W l) (hb : ButL G W W') (hG : ∀ p ∈ l, p.1 ∉ G) : Obs W' l := fun p hp => (hb.block p.1 (h p hp).lt (hG p hp)).trans (h p hp)
theorem Obs.mem {W W' : World} {l : List (Nat × Obj)} {B : Nat} {f : Fp} (h : Obs W l) (hb : ButL f.w W W') (hl : Okl B f l) : Obs W' l := h.but hb (fun p hp => (hl p hp).2.2)
theorem Obs.kq {W W' : World} {l : List (Nat × Obj)} {B : Nat} {f : Fp} (h : Obs W l) (hk : Kq B W W') (hl : Okl B f l) : Obs W' l := fun p hp => hk.keep _ _ (hl p hp).1 (h p hp) (hl p hp).2.1
theorem Obs.put {W : World} {l : List (Nat × Obj)} (h : Obs W l) {k : Nat} (o' : Obj) (hk : ∀ p ∈ l, p.1 ≠ k) : Obs (W.putObj k o') l := h.but (putObj_but W k o') (fun p hp => by rw [List.mem_singleton]; exact hk p hp)
theorem Ob.put {W : World} {k : Nat} {o : Obj} (h : Ob W k o) (o' : Obj) : Ob (W.putObj k o') k o' := World.putObj_heap_same h.lt
theorem Ob.ne {W : World} {j k : Nat} {o o' : Obj} (h : Ob W j o) (h' : Ob W k o') (hn : o.isCells ≠ o'.isCells) : j ≠ k := by
  rintro rfl
  unfold Ob at h h'
  rw [h] at h'
  cases h'
  exact hn rfl
theorem Mem.ob {W : World} {f : Fp} {m : MS} (h : Mem W f m) {k : Nat} {o : Obj} (ho : Ob W k o) (hn : o.isCells = false) : k ∉ f.all := by
  intro hk
  have hc : ∃ cs t, Cel W k t cs := by
    simp only [Fp.all, List.mem_cons] at hk
    rcases hk with rfl | rfl | rfl | hk
    · exact ⟨_, _, h.cel⟩
    · exact ⟨_, _, h.sec⟩
    · exact ⟨_, _, h.ins⟩
    · obtain ⟨i, hi, rfl⟩ := List.mem_iff_getElem.1 hk
      have hi' : i < m.P.length := by rw [← h.len]; exact hi
      have := h.pg i hi'
      unfold Fp.b at this
      rw [List.getD_eq_getElem?_getD, List.getElem?_eq_getElem hi] at this
      exact ⟨_, _, this⟩
  obtain ⟨cs, t, hc⟩ := hc
  unfold Cel at hc
  rw [show W.heap[k]? = some o from ho] at hc
  cases hc
  cases hn
theorem Mem.putO {W : World} {f : Fp} {m : MS} (h : Mem W f m) {k : Nat} {o : Obj} (ho : Ob W k o) (hn : o.isCells = false) (o' : Obj) : Mem (W.putObj k o') f m :=
  h.frame (putObj_but W k o') (fun j hj hm => by rw [List.mem_singleton] at hm; subst hm; exact h.ob ho hn hj)
theorem yield_any {P : Program} {l : Nat} {args : Array Value} {W : World} {R : Ending → World → Prop} {a b : Nat} (h : YieldAt .wide a P l args W R) : YieldAt .wide b P l args W R := by
  obtain ⟨fn, tmps, assign, body, hy, hr⟩ := h
  exact ⟨fn, tmps, assign, body, hy, hr.1, fun c cs _ => hr.2 c cs (room_wide _)⟩
/-- What one first-level entry leads to, up to the j-th word; the whole list. -/
def MS.inn (m : MS) (i p : Int) : Nat → List (Int × Mp)
  | 0 => []
  | j + 1 => m.inn i p j ++ (if m.f2E p (j : Int) = 0 then [(jW i (j : Int) 0, m.f2 p (j : Int))] else [])
def MS.lst (m : MS) (l1 : Int) : Nat → List (Int × Mp)
  | 0 => []
  | i + 1 => m.lst l1 i ++ (if m.f1E l1 (i : Int) = 0 then m.inn (i : Int) (m.f1 l1 (i : Int)) 1024 else [])
/-- The meter. -/
def MS.cn2 (m : MS) (p : Int) (c : Int) : Nat → Int
  | 0 => c
  | j + 1 => ((m.wc (m.cn2 p c j)).read true p (j : Int)).c
def MS.cn1 (m : MS) (l1 : Int) (c : Int) : Nat → Int
  | 0 => c
  | i + 1 => if m.f1E l1 (i : Int) = 0 then m.cn2 (m.f1 l1 (i : Int)) ((m.wc (m.cn1 l1 c i)).read true l1 (i : Int)).c 1024 else ((m.wc (m.cn1 l1 c i)).read true l1 (i : Int)).c
theorem MS.wc_read (m : MS) (c : Int) (s : Bool) (p o : Int) : (m.wc c).read s p o = m.wc ((m.wc c).read s p o).c := by
  rw [MS.read_eq]
  split <;> rfl
end Go.Proofs.Ytgbpbfnpeeciaaa
