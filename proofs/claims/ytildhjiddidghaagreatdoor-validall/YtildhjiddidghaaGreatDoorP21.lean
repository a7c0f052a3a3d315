import Derived.Test.YtildhjiddidghaaGreatDoorP20
import Derived.RangeFuncNested
import Derived.RangeFuncLeaves
import Derived.RangeFuncBound
import Derived.RangeFuncCalls
import Derived.Shelf.Abstract
import Derived.Shelf.RegionOpen
import Derived.OwnWalkIn
import Derived.TacticsInMore
import Derived.LoopNIn
import Derived.LoopIn
namespace Go.Proofs.YtildhjiddidghaaGreatDoor
open Go.RowKit
set_option maxHeartbeats 2000000
set_option maxRecDepth 100000
structure WL (W : World) (ao : Option Addr) (n : Nat) (L : List Int) : Prop where
  len : L.length = n
  rg : ∀ x ∈ L, 0 ≤ x ∧ x < 4294967296
  at_ : 0 < n → ∃ g off, ao = some ⟨g, off, none⟩ ∧ W.rangeAt g off (u32s L) ∧ g < W.heap.size
theorem sizeD : (Tryz.prog.info? 85).map (·.size) = some 2 := by kernel_rfl
structure LD (W w : World) (f : Fp) (m : MS) (g gw off n c : Nat) (L : List Int) : Prop where
  mem : Mem w f m
  dv : DV w g f.gm gw off n c L
  below : Below W.heap.size W w
theorem LD.on {W w w' : World} {f : Fp} {m : MS} {g gw off n c : Nat} {L : List Int} (h : LD W w f m g gw off n c L) (hb : Below w.heap.size w w') : LD W w' f m g gw off n c L := ⟨h.mem.on hb, h.dv.on hb, below_on h.below hb⟩
theorem load_any (W : World) (f : Fp) (m : MS) (hm : Mem W f m) (h64 : m.ns ≤ 64) (ao : Option Addr) (n c : Nat) (L : List Int) (h : WL W ao n L) :
    Calls Tryz.prog 83 #[ptr f.gm, .slice ao n c] W fun e W' => (ldok m.ns L = false ∧ e = .returned (.tuple #[.pointer none, .int .i64 110]) ∧ Below W.heap.size W W') ∨
      (ldok m.ns L = true ∧ ∃ g gw, e = .returned (.tuple #[ptr g, .int .i64 0]) ∧ DB W' ⟨g, gw, f⟩ (DS.load m L) ∧ W.heap.size ≤ g ∧ W.heap.size ≤ gw ∧ Below W.heap.size W W') := by
  have HS := hid (fun w (hw : Mem w f m) => size_any w f m hw)
  have HM := hid hm
  by_cases hn : n = 1 + 2 * m.ns
  · obtain ⟨gw, off, rfl, hrg, hlt⟩ := h.at_ (by omega)
    have y0 : W.cell? ⟨gw, off, none⟩ = some (.int .u32 (wd L 0)) := by
      have := hrg 0 (.int .u32 (wd L 0)) (by rw [u32s, List.getElem?_map, wd_at (by rw [h.len]; omega)]; rfl)
      exact this
    have n0 : (0 : Int) < (n : Int) := by omega
    have hni : (n : Int) = 1 + 2 * (m.ns : Int) := by omega
    by_cases hb : wd L 0 ≤ 64
    · have HDV := hid (fun (W1 : World) (g : Nat) (hb : Below W.heap.size W W1) (hc : Cel W1 g 85 [ptr f.gm, .slice (some ⟨gw, off, none⟩) n c]) => (⟨hm.on hb, ⟨hc, fun j v hv => by
        have := hrg j v hv
        unfold World.cell? at this ⊢
        rw [hb.block gw hlt]
        exact this, h.len, by have := hb.size; omega⟩, hb⟩ : LD W W1 f m g gw off n c L))
      have HSo := hid (fun w g (hw : LD W w f m g gw off n c L) (k : Nat) (hk : k < m.ns) => sound_any w f m hw.mem hw.dv h.rg k (by omega) (by omega))
      have HPg := hid (fun w g (hw : LD W w f m g gw off n c L) => pages_dv hw.mem hw.dv)
      have HWd := hid (fun w g (hw : LD W w f m g gw off n c L) => words_dv w hw.dv (by omega))
      have HR : Hid (L.length = 1 + 2 * m.ns ∧ wd L 0 ≤ 64 ∧ (∀ x ∈ L, 0 ≤ x ∧ x < 4294967296) ∧ n = 1 + 2 * m.ns ∧ m.ns ≤ 64) := hid ⟨h.len.trans hn, hb, h.rg, hn, h64⟩
      have HNI := hid hni
      clear hm h h64 hrg hlt hn
      simp only [ptr] at HS HPg HWd HSo HDV ⊢
      go_enter Tryz.func83, Tryz.ntmps83
      go_upto_region 4 with (first | (go_at_call 61; refine (HS.out _ HM.out).mono ?_; rintro e w1 ⟨rfl, hw1⟩; subst hw1; rw [← HNI.out]) | (refine wpList_store_st rfl 85 _ _ rfl W.heap.size [.pointer (some ⟨f.gm, 0, none⟩), .slice (some ⟨gw, off, none⟩) n c] rfl rfl (Cel.new W 85 [.pointer none, .slice none 0 0]) sizeD rfl rfl ?_; intro w2 hc hb hs; have HL := hid (HDV.out w2 _ ((below_one W (.cells #[.pointer none, .slice none 0 0] 85)).trans (hb.below (by simp) (by simp))) hc); clear hc hb hs))
      clear HS HM HDV y0
      have HG : Hid (W.heap.size ≤ W.heap.size) := hid (Nat.le_refl _)
      generalize hg : W.heap.size = g6 at HL ⊢
      have HG6 := hid hg
      clear hg
      go_upto_region 5 with (go_at_call 15; refine (HPg.out _ _ HL.out).mono ?_; rintro e w3 ⟨rfl, hw3⟩; subst hw3)
      go_loopw [27] (fun i wr => ∃ j : Nat, j ≤ m.ns ∧ i = .int .i64 (j : Int) ∧ Hid (LD W wr f m g6 gw off n c L ∧ ∀ k, k < j → ldS m.ns L k = true)) (fun i _ => m.ns - (intOf i).toNat)
      case atStart => exact ⟨0, Nat.zero_le _, rfl, hid ⟨HL.out, by intro k hk; omega⟩⟩
      case round =>
        obtain ⟨j, hj, rfl, HQ⟩ := hrel
        clear HL
        by_cases hlt : j < m.ns
        · have q1 : (j : Int) < (m.ns : Int) := by omega
          have q2 : (j : Int) ≤ 1000 := by have := HR.out.2.2.2.2; omega
          have HJ : Hid (j < m.ns) := hid hlt
          clear hlt hj
          have HSj := hid (HSo.out wr g6 HQ.out.1 j HJ.out)
          cases hs : ldS m.ns L j
          · rw [hs] at HSj
            have HN : Hid (ldok m.ns L = false) := hid (by
              cases hh : ldok m.ns L
              · rfl
              · have := ((ldok_iff _ _).1 hh).2.2 j HJ.out; rw [hs] at this; exact this.symm)
            clear hs
            go_wp2_with (go_at_call 122; refine HSj.out.mono ?_; rintro e w5 ⟨rfl, hb⟩; have HQ2 := hid (HQ.out.1.on hb); clear hb)
            go_ret2
            exact .inl ⟨HN.out, rfl, HQ2.out.below⟩
          · rw [hs] at HSj
            have HS1 := hid hs
            clear hs
            go_wp2_with (go_at_call 122; refine HSj.out.mono ?_; rintro e w5 ⟨rfl, hb⟩; have HQ2 := hid (HQ.out.1.on hb); clear hb)
            go_roundw
            case measure => have := HJ.out; simp [intOf] <;> omega
            case rel => exact ⟨j + 1, HJ.out, by simp, hid ⟨HQ2.out, fun k hk => by
              by_cases e : k = j
              · rw [e]; exact HS1.out
              · exact HQ.out.2 k (by omega)⟩⟩
        · have hjn : j = m.ns := by omega
          subst hjn
          clear hlt hj
          have HOk : Hid (ldok m.ns L = true) := hid ((ldok_iff _ _).2 ⟨HR.out.1, HR.out.2.1, HQ.out.2⟩)
          go_wp2_with (go_at_call 46; refine (HWd.out _ _ HQ.out.1).mono ?_; rintro e w5 ⟨gn, rfl, hc, hl, hb⟩; have HE := hid (And.intro hc (And.intro hl hb)); have HQ2 := hid (HQ.out.1.on hb); clear hc hl hb)
          go_ret2
          refine .inr ⟨HOk.out, w5.heap.size, gn, rfl, ⟨HQ2.out.mem.on (below_one _ _), ?_, ?_, load_ok HOk.out HR.out.2.2.2.2 HR.out.2.2.1⟩, HQ2.out.below.size, Nat.le_trans HQ.out.1.below.size HE.out.2.1, below_on HQ2.out.below (below_one _ _)⟩
          · show Cel _ w5.heap.size 85 [.pointer (some ⟨f.gm, 0, none⟩), .slice (some ⟨gn, 0, none⟩) (1 + 2 * m.ns) (1 + 2 * m.ns)]
            rw [← HR.out.2.2.2.1]
            exact Cel.new w5 85 _
          · rw [load_ws HOk.out]
            exact HE.out.1.on (below_one _ _)
    · have hb' : (64 : Int) < wd L 0 := by omega
      have HN : Hid (ldok m.ns L = false) := hid (by
        cases hh : ldok m.ns L
        · rfl
        · exact absurd ((ldok_iff _ _).1 hh).2.1 hb)
      have HNI := hid hni
      clear hm h h64 hrg hlt hn hb
      simp only [ptr] at HS ⊢
      go_enter Tryz.func83, Tryz.ntmps83
      go_wp2_with (go_at_call 61; refine (HS.out _ HM.out).mono ?_; rintro e w1 ⟨rfl, hw1⟩; subst hw1; rw [← HNI.out])
      go_ret2
      exact .inl ⟨HN.out, rfl, Below.refl _ _⟩
  · have HN : Hid (ldok m.ns L = false) := hid (by
      cases hh : ldok m.ns L
      · rfl
      · exact absurd (h.len.symm.trans ((ldok_iff _ _).1 hh).1) hn)
    have hni : ((n : Int) != 1 + 2 * (m.ns : Int)) = true := by
      rw [bne_iff_ne]; omega
    clear hm h h64 hn
    simp only [ptr] at HS ⊢
    go_enter Tryz.func83, Tryz.ntmps83
    go_wp2_with (go_at_call 61; refine (HS.out _ HM.out).mono ?_; rintro e w1 ⟨rfl, hw1⟩; subst hw1)
    go_ret2
    exact .inl ⟨HN.out, rfl, Below.refl _ _⟩
end Go.Proofs.YtildhjiddidghaaGreatDoor
namespace Go.Proofs.YtildhjiddidghaaGreatDoor
open Go.RowKit
theorem yield_of {F : Fence} {n : Nat} {P : Program} {l : Nat} {r : Loop} {args : Array Value} {W : World} {R : Ending → World → Prop} (hF : F.fn r.fn) (hl : W.heap[l]? = some (.loop r)) (hst : r.state = .ready) (hp : r.pending = none) (hs : args.size = r.params.size)
    (h : r.assign.wpIn (F.inRound l) n P (Exit.then (fun a₁ w₁ => w₁.heap[l]? = some (.loop r) ∧ r.body.wpIn (F.inRound l) n P (fun e _ w₃ => e = .normal ∧ w₃.heap[l]? = some (.loop { r with state := .busy }) ∧ R (.returned (.bool true)) (w₃.putObj l (.loop r))) a₁ (w₁.putObj l (.loop { r with state := .busy }))) (fun _ _ _ => False))
      { tmps := (r.params.zip args).foldl (fun t (p, v) => t.setIfInBounds p v) r.tmps, defers := [] } W) : YieldAt F n P l args W R := by
  have hrr : ({ ({ r with state := .busy } : Loop) with state := .ready, pending := none } : Loop) = r := by
    cases r
    simp only at hst hp
    subst hst hp
    rfl
  refine ⟨r.fn, _, r.assign, r.body, run_yield hl hs, roundIn_of_wpIn hF (wpIn_mono h ?_)⟩
  rintro e a1 w1 hq
  cases e with
  | normal =>
    obtain ⟨h1, hb⟩ := hq
    refine ⟨_, run_beginRound h1 hst, wpIn_mono hb ?_⟩
    rintro e2 a3 w3 ⟨rfl, h3, hR⟩
    have he := run_endRound (P := P) none h3
    simp only [Option.isNone_none, if_true] at he
    rw [hrr] at he
    exact ⟨_, _, he, hR⟩
  | exit id => exact hq.elim
  | goto t => exact hq.elim
  | ret => exact hq.elim
  | panic c => exact hq.elim
  | outgrown => exact hq.elim
def recOf (fn : FuncId) (tmps : Array Value) (ps : Array Tmp) (assign body : Code) (D : Nat) : Loop := { state := .ready, pending := none, fn := fn, tmps := tmps, params := ps, assign := assign, body := body, defers := D }

theorem range_out {F : Fence} {n : Nat} {P : Program} {g : Operand} {ps : Array Tmp} {assign body : Code} {Q : Exit → Act → World → Prop} {a : Act} {w : World} (hro : F.round = none) (hd : F.depth = none) {gf : Nat} {lb : Array Value} (hg : a.eval g = .func (.func gf) #[] lb) (hF : F.fn gf) (eg : ∀ args w, (callFunc gf args).run P w = .ok (.enter gf args) w)
    (h : ∀ fn, F.fn fn → CallsIn F (n - 1) P gf (#[.func (.yield (w.heap.size + 1)) #[] #[]] ++ lb) ((w.alloc (.deferred (some []))).alloc (.loop (recOf fn a.tmps ps assign body w.heap.size))) fun e W2 => (∃ v, e = .returned v) ∧ W2.heap[w.heap.size + 1]? = some (.loop (recOf fn a.tmps ps assign body w.heap.size)) ∧
      Q .normal { a with defers := { target := .collected w.heap.size, args := #[] } :: a.defers } (W2.putObj (w.heap.size + 1) (.loop { recOf fn a.tmps ps assign body w.heap.size with state := .exhausted }))) :
    (Code.rangeFunc g ps assign body).wpIn F n P Q a w := by
  refine wpIn_rangeFunc ?_
  intro fn hfn
  rw [hro]
  have hh := h fn hfn
  obtain ⟨W1, hW1⟩ : ∃ W1, (w.alloc (.deferred (some []))).alloc (.loop (recOf fn a.tmps ps assign body w.heap.size)) = W1 := ⟨_, rfl⟩
  rw [hW1] at hh
  refine ⟨w.heap.size + 1, [{ target := .collected w.heap.size, args := #[] }], W1, { target := .fn (.func gf) lb, args := #[.func (.yield (w.heap.size + 1)) #[] #[]] }, W1, gf,
    #[.func (.yield (w.heap.size + 1)) #[] #[]] ++ lb, W1, ?_, ?_, ?_, ?_, ?_, ?_⟩
  · rw [← hW1]; exact run_enterLoop_outer _ _ _ _ _
  · simp only [resolve, hg]
    simp [go_sem]
  · intro f' hf'; simp [Target.leads] at hf'; subst hf'; exact hF
  · simp [invoke, go_sem, eg]
  · intro hh; rw [hd] at hh; cases hh
  · refine CallsIn.mono hh ?_
    rintro e W2 ⟨⟨v, rfl⟩, hl, hq⟩
    exact ⟨none, _, run_endLoop hl (by simp [recOf]), hq⟩

def Ob (W : World) (k : Nat) (o : Obj) : Prop := W.heap[k]? = some o
theorem Ob.lt {W : World} {k : Nat} {o : Obj} (h : Ob W k o) : k < W.heap.size := (Array.getElem?_eq_some_iff.1 h).1
theorem Ob.on {W W' : World} {k : Nat} {o : Obj} (h : Ob W k o) (hb : Below W.heap.size W W') : Ob W' k o := (hb.block k h.lt).trans h
theorem Ob.but {W W' : World} {k : Nat} {o : Obj} {G : List Nat} (h : Ob W k o) (hb : ButL G W W') (hk : k ∉ G) : Ob W' k o := (hb.block k h.lt hk).trans h
def box (v : Value) (t : TypeId) : Obj := .cells #[v] t (0, 0)
theorem Ob.cell {W : World} {k : Nat} {v : Value} {t : TypeId} (h : Ob W k (box v t)) : W.cell? ⟨k, 0, none⟩ = some v := by
  rw [cell_of_row W k 0 _ t (0, 0) h]; rfl
theorem Ob.free {W : World} {k : Nat} {v : Value} {t : TypeId} (h : Ob W k (box v t)) : W.frozen? ⟨k, 0, none⟩ = false := frozen_of_row W k 0 _ t h
theorem putObj_but (W : World) (k : Nat) (o : Obj) : ButL [k] W (W.putObj k o) :=
  ⟨rfl, rfl, rfl, by simp [World.putObj], fun j _ hj => World.putObj_heap_other (by rw [List.mem_singleton] at hj; exact hj)⟩
theorem Ob.put {W : World} {k : Nat} {o : Obj} (h : Ob W k o) (o' : Obj) : Ob (W.putObj k o') k o' := World.putObj_heap_same h.lt
theorem Ob.ne {W : World} {j k : Nat} {o o' : Obj} (h : Ob W j o) (h' : Ob W k o') (hn : o.isCells ≠ o'.isCells) : j ≠ k := by
  rintro rfl
  unfold Ob at h h'
  rw [h] at h'
  cases h'
  exact hn rfl
def busyOf (r : Loop) : Loop := { r with state := .busy }
theorem yield_b {n l : Nat} {r : Loop} {args : Array Value} {W : World} {R : Ending → World → Prop} (hl : Ob W l (.loop r)) (hst : r.state = .ready) (hp : r.pending = none) (hs : args.size = r.params.size)
    (h : r.assign.wpIn (Fence.wide.inRound l) n Tryz.prog (Exit.then (fun a₁ w₁ => Ob w₁ l (.loop r) ∧ r.body.wpIn (Fence.wide.inRound l) n Tryz.prog (fun e _ w₃ => e = .normal ∧ Ob w₃ l (.loop (busyOf r)) ∧ R (.returned (.bool true)) (w₃.putObj l (.loop r))) a₁ (w₁.putObj l (.loop (busyOf r)))) (fun _ _ _ => False))
      { tmps := (r.params.zip args).foldl (fun t (p, v) => t.setIfInBounds p v) r.tmps, defers := [] } W) : YieldAt .wide n Tryz.prog l args W R := yield_of trivial hl hst hp hs h
end Go.Proofs.YtildhjiddidghaaGreatDoor
namespace Go.Proofs.YtildhjiddidghaaGreatDoor
open Go.RowKit
set_option maxHeartbeats 2000000
set_option maxRecDepth 100000
def cntN (f : Nat → Bool) : Nat → Nat
  | 0 => 0
  | k + 1 => cntN f k + (if f k = true then 1 else 0)
def lstN (f : Nat → Bool) : Nat → List Nat
  | 0 => []
  | k + 1 => lstN f k ++ (if f k = true then [k] else [])
def isF (x : En) : Bool := x.t == 0
def isO (s : Int) (k : Int) (x : En) : Bool := k != s && (x.o == s && x.t != 0)
def DS.free (d : DS) : Nat := cntN (fun k => isF (d.at k)) d.m.ns
def DS.owned (d : DS) (s : Int) : List Nat := if (d.ent s).t = 1 then lstN (fun k => isO s (k : Int) (d.at k)) d.m.ns else []
theorem isOf_any (W : World) (s : Int) : Calls Tryz.prog 89 #[.int .i64 s] W fun e W' => ∃ bs, e = .returned (.func (.func 125) #[] #[.pointer (some ⟨bs, 0, none⟩)]) ∧ Ob W' bs (box (.int .i64 s) 3) ∧ W.heap.size ≤ bs ∧ Below W.heap.size W W' := by
  have H : Hid (Ob (W.alloc (.cells #[.int .i64 s] 3)) W.heap.size (box (.int .i64 s) 3)) := hid (heap_alloc_new _ _)
  go_enter Tryz.func89, Tryz.ntmps89
  go_wp2_with fail
  go_ret
  exact ⟨_, rfl, H.out, Nat.le_refl _, below_one _ _⟩
theorem isOf1_any (W : World) (k : Int) (x : En) (bs : Nat) (s : Int) (hs : Ob W bs (box (.int .i64 s) 3)) : Calls Tryz.prog 125 #[.int .i64 k, x.v, .pointer (some ⟨bs, 0, none⟩)] W fun e W' => e = .returned (.bool (isO s k x)) ∧ Below W.heap.size W W' := by
  have HC := hid (Cel.new W 92 x.cs)
  have HB := hid (below_one W (.cells x.cs.toArray 92))
  have cs := (hs.on HB.out).cell
  clear hs
  obtain ⟨t, o, r, st, e⟩ := x
  simp only [En.v, En.cs, isO] at *
  generalize hR : (k != s && (o == s && t != 0)) = R
  have HR := hid hR
  clear hR
  by_cases h1 : k = s
  · subst h1
    have e1 : R = false := by rw [← HR.out]; simp
    subst e1
    clear HR
    go_enter Tryz.func125, Tryz.ntmps125
    go_upto_region 1 with fail
    generalize W.alloc _ = X at *
    go_wp2_with fail
    go_ret
    exact ⟨rfl, HB.out⟩
  · have h1' : (k != s) = true := by simpa using h1
    by_cases h2 : o = s
    · subst h2
      by_cases h3 : t = 0
      · subst h3
        have e1 : R = false := by rw [← HR.out]; simp
        subst e1
        clear HR h1
        go_enter Tryz.func125, Tryz.ntmps125
        go_upto_region 1 with fail
        generalize W.alloc _ = X at *
        have c0 := HC.out.cell 0
        have c1 := HC.out.cell 1
        simp only [List.getElem?_cons_zero, List.getElem?_cons_succ] at c0 c1
        go_wp2_with fail
        go_ret
        exact ⟨rfl, HB.out⟩
      · have e1 : R = true := by rw [← HR.out]; simp [h1, h3]
        have h3' : (t != 0) = true := by simpa using h3
        subst e1
        clear HR h1 h3
        go_enter Tryz.func125, Tryz.ntmps125
        go_upto_region 1 with fail
        generalize W.alloc _ = X at *
        have c0 := HC.out.cell 0
        have c1 := HC.out.cell 1
        simp only [List.getElem?_cons_zero, List.getElem?_cons_succ] at c0 c1
        go_wp2_with fail
        go_ret
        exact ⟨rfl, HB.out⟩
    · have e1 : R = false := by rw [← HR.out]; simp [h2]
      have h2' : (o == s) = false := by simpa using h2
      subst e1
      clear HR h1 h2
      go_enter Tryz.func125, Tryz.ntmps125
      go_upto_region 1 with fail
      generalize W.alloc _ = X at *
      have c0 := HC.out.cell 0
      have c1 := HC.out.cell 1
      simp only [List.getElem?_cons_zero, List.getElem?_cons_succ] at c0 c1
      go_wp2_with fail
      go_ret
      exact ⟨rfl, HB.out⟩
theorem pagesf_any (W : World) (g : Nat) (fv : Nat) (cap : Array Value) : Calls Tryz.prog 88 #[.pointer (some ⟨g, 0, none⟩), .func (.func fv) #[] cap] W fun x W' => ∃ bd bs, x = .returned (.func (.func 124) #[] #[.pointer (some ⟨bd, 0, none⟩), .pointer (some ⟨bs, 0, none⟩)]) ∧ Ob W' bd (box (.pointer (some ⟨g, 0, none⟩)) 31) ∧ Ob W' bs (box (.func (.func fv) #[] cap) 147) ∧ W.heap.size ≤ bd ∧ W.heap.size ≤ bs ∧ Below W.heap.size W W' := by
  have h1 : Ob (W.alloc (.cells #[.pointer (some ⟨g, 0, none⟩)] 31)) W.heap.size (box (.pointer (some ⟨g, 0, none⟩)) 31) := heap_alloc_new _ _
  have h2 := heap_alloc_new (W.alloc (.cells #[.pointer (some ⟨g, 0, none⟩)] 31)) (.cells #[.func (.func fv) #[] cap] 147)
  rw [World.size_alloc] at h2
  have H := hid (And.intro (h1.on (below_one _ (.cells #[.func (.func fv) #[] cap] 147))) h2)
  clear h1 h2
  go_enter Tryz.func88, Tryz.ntmps88
  go_wp2_with fail
  go_ret
  exact ⟨_, _, rfl, H.out.1, H.out.2, Nat.le_refl _, Nat.le_succ _, below_on (below_one _ _) (below_one _ _)⟩
end Go.Proofs.YtildhjiddidghaaGreatDoor
namespace Go.Proofs.YtildhjiddidghaaGreatDoor
open Go.RowKit Go.Shelf
set_option maxHeartbeats 2000000
set_option maxRecDepth 100000
theorem pagesO_in (n l bd bs : Nat) (p : Dp) (d : DS) (pred : Nat → Bool) (bo : Nat) (J : Nat → World → Prop)
    (hJ : ∀ k W, J k W → DB W p d ∧ W.cell? ⟨bd, 0, none⟩ = some (.pointer (some ⟨p.g, 0, none⟩)) ∧ W.cell? ⟨bs, 0, none⟩ = some (.func (.func 125) #[] #[.pointer (some ⟨bo, 0, none⟩)]))
    (hOn : ∀ k W W', J k W → Below W.heap.size W W' → J k W')
    (hSo : ∀ k W, k < d.m.ns → J k W → Calls Tryz.prog 125 #[.int .i64 (k : Int), (d.at k).v, .pointer (some ⟨bo, 0, none⟩)] W fun e W' => e = .returned (.bool (pred k)) ∧ Below W.heap.size W W')
    (hY : ∀ k W, k < d.m.ns → pred k = true → J k W → YieldAt .wide (n - 1) Tryz.prog l #[.int .i64 (k : Int)] W (fun e W' => e = .returned (.bool true) ∧ J (k + 1) W'))
    (hN : ∀ k W, k < d.m.ns → pred k = false → J k W → J (k + 1) W)
    (W : World) (h0 : J 0 W) :
    CallsIn .wide n Tryz.prog 124 #[.func (.yield l) #[] #[], .pointer (some ⟨bd, 0, none⟩), .pointer (some ⟨bs, 0, none⟩)] W fun e W' => (∃ v, e = .returned v) ∧ J d.m.ns W' := by
  have n64 := (hJ 0 W h0).1.ok.n64
  have w0 := (hJ 0 W h0).2.1
  have HP : Hid (Calls Tryz.prog 15 #[.pointer (some ⟨p.g, 0, none⟩)] W fun x W' => x = .returned (.int .i64 (d.m.ns : Int)) ∧ W = W') := hid (pages_any W p d (hJ 0 W h0).1)
  refine callsIn_of_wp Tryz.func124 rfl trivial ?_ rfl
  simp only [Tryz.ntmps124, List.size_toArray, List.length_cons, List.length_nil, Nat.reduceAdd, Nat.reduceSub, Array.replicate_succ, Array.replicate_zero, List.push_toArray, List.append_toArray, List.nil_append, List.cons_append]
  gi_wp2
  refine ⟨trivial, (fun h => by cases h), CallsIn.mono (callsIn_wide.2 HP.out) ?_⟩
  rintro x w1 ⟨rfl, hw1⟩
  subst hw1
  clear HP
  gi_wp2
  clear w0
  gi_loopw [7] (fun q wr => ∃ k : Nat, k ≤ d.m.ns ∧ q = .int .i64 (k : Int) ∧ Hid (J k wr)) (fun q _ => d.m.ns - (intOf q).toNat)
  case atStart => exact ⟨0, Nat.zero_le _, rfl, hid h0⟩
  case round =>
    obtain ⟨k, hk, rfl, HQ⟩ := hrel
    by_cases hlt : k < d.m.ns
    · have q1 : (k : Int) < (d.m.ns : Int) := by omega
      have q2 : (k : Int) ≤ 1024 := by omega
      have HK : Hid (k < d.m.ns) := hid hlt
      clear hlt hk n64
      have HA : Hid (∀ w1, J k w1 → Calls Tryz.prog 74 #[.pointer (some ⟨p.g, 0, none⟩), .int .i64 (k : Int)] w1 fun x w' => x = .returned (.agg (d.at k).cs.toArray) ∧ Below w1.heap.size w1 w') := hid (fun w1 h1 => dat_any w1 p d (hJ k w1 h1).1 k HK.out)
      have HSo : Hid (∀ w1, J k w1 → Calls Tryz.prog 125 #[.int .i64 (k : Int), .agg (d.at k).cs.toArray, .pointer (some ⟨bo, 0, none⟩)] w1 fun e W' => e = .returned (.bool (pred k)) ∧ Below w1.heap.size w1 W') := hid (fun w1 h1 => hSo k w1 HK.out h1)
      have HJ := hid (hJ k)
      have HOn := hid (hOn k)
      have HYk := hid (fun w1 (hp : pred k = true) (h1 : J k w1) => hY k w1 HK.out hp h1)
      have HNk := hid (fun w1 (hp : pred k = false) (h1 : J k w1) => hN k w1 HK.out hp h1)
      generalize (d.at k).cs.toArray = EV at *
      cases hp : pred k
      · rw [hp] at HSo
        clear HYk
        gi_wp2
        refine wpIn_region_any (by kernel_rfl) ?_
        change wpAnyIn _ _ _ _ _ _ _ _ _ (World.drew _)
        have HQ1 := hid (HOn.out _ _ HQ.out (Below.refl _ _).drew)
        have y1 := (HJ.out _ HQ1.out).2.1
        have y2 := (HJ.out _ HQ1.out).2.2
        refine wpAnyIn_take (i := 1) (oi := ⟨some 11, .move (.tmp 4), 3, "owned.go:32", #[], none⟩) (v := .int .i64 (k : Int)) rfl rfl (by kernel_rfl) (by kernel_rfl) (by kernel_rfl) (fun _ _ _ h => h) ⟨Or.inl ⟨by rfl, by intro w; go_simp⟩, fun _ => rfl⟩ ?_
        try simp only [Act.put, List.setIfInBounds_toArray, List.set_cons_zero, List.set_cons_succ]
        refine wpAnyIn_take (i := 3) (oi := ⟨some 13, .move (.tmp 4), 3, "owned.go:32", #[], none⟩) (v := .int .i64 (k : Int)) rfl rfl (by kernel_rfl) (by kernel_rfl) (by kernel_rfl) (fun _ _ _ h => h) ⟨Or.inl ⟨by rfl, by intro w; go_simp⟩, fun _ => rfl⟩ ?_
        try simp only [Act.put, List.setIfInBounds_toArray, List.set_cons_zero, List.set_cons_succ]
        refine wpAnyIn_ready (rs := [0, 2]) (by kernel_rfl) (by simp) (AllReadyIn.cons (o := ⟨some 10, .load 147 (.tmp 2), 147, "owned.go:32", #[], none⟩) rfl (fun K hK => ?_) (AllReadyIn.cons (o := ⟨some 12, .load 31 (.tmp 1), 31, "owned.go:32", #[], none⟩) rfl (fun K hK => ?_) AllReadyIn.nil))
        · go_simp
          (try (refine hK _ _ ?_; clear hK K))
          try simp only [Act.put, List.setIfInBounds_toArray, List.set_cons_zero, List.set_cons_succ]
          refine wpAnyIn_ready (rs := [2]) (by kernel_rfl) (by simp) (AllReadyIn.cons (o := ⟨some 12, .load 31 (.tmp 1), 31, "owned.go:32", #[], none⟩) rfl (fun K hK => ?_) AllReadyIn.nil)
          go_simp
          (try (refine hK _ _ ?_; clear hK K))
          try simp only [Act.put, List.setIfInBounds_toArray, List.set_cons_zero, List.set_cons_succ]
          refine wpAnyIn_ready (rs := [4]) (by kernel_rfl) (by simp) (AllReadyIn.cons (o := ⟨some 14, .call { callee := .value (.func 74), args := #[.tmp 12, .tmp 13], argTypes := #[31, 3] }, 92, "owned.go:32", #[⟨2, .data⟩, ⟨3, .data⟩], none⟩) rfl (fun K hK => ?_) AllReadyIn.nil)
          go_simp
          gi_wp2
          refine ⟨trivial, (fun h => by cases h), CallsIn.mono (callsIn_wide.2 (HA.out _ HQ1.out)) ?_⟩
          rintro x w2 ⟨rfl, hb⟩
          have HQ2 := hid (HOn.out _ _ HQ1.out hb)
          clear hb
          have z2 := (HJ.out _ HQ2.out).2.2
          clear y1 y2
          gi_wp2
          (try (refine hK _ _ ?_; clear hK K))
          try simp only [Act.put, List.setIfInBounds_toArray, List.set_cons_zero, List.set_cons_succ]
          refine wpAnyIn_ready (rs := [5]) (by kernel_rfl) (by simp) (AllReadyIn.cons (o := ⟨some 15, .call { callee := .value (.tmp 10), args := #[.tmp 11, .tmp 14], argTypes := #[3, 92] }, 4, "owned.go:32", #[⟨0, .data⟩, ⟨1, .data⟩, ⟨4, .data⟩, ⟨4, .chain⟩], none⟩) rfl (fun K hK => ?_) AllReadyIn.nil)
          go_simp
          gi_wp2
          refine ⟨trivial, (fun h => by cases h), CallsIn.mono (callsIn_wide.2 (HSo.out _ HQ2.out)) ?_⟩
          rintro x w3 ⟨rfl, hb⟩
          have HQ3 := hid (HOn.out _ _ HQ2.out hb)
          clear hb z2
          gi_wp2
          (try (refine hK _ _ ?_; clear hK K))
          try simp only [Act.put, List.setIfInBounds_toArray, List.set_cons_zero, List.set_cons_succ]
          refine wpAnyIn_take (i := 6) (oi := ⟨some 16, .move (.tmp 15), 4, "owned.go:32", #[⟨5, .data⟩, ⟨5, .chain⟩], none⟩) (v := .bool false) rfl rfl (by kernel_rfl) (by kernel_rfl) (by kernel_rfl) (fun _ _ _ h => h) ⟨Or.inl ⟨by rfl, by intro w; go_simp⟩, fun _ => rfl⟩ ?_
          try simp only [Act.put, List.setIfInBounds_toArray, List.set_cons_zero, List.set_cons_succ]
          refine wpAnyIn_take (i := 7) (oi := ⟨some 17, .move (.tmp 0), 50, "owned.go:32", #[⟨6, .guard⟩], some (6, true)⟩) (v := undef) rfl rfl (by kernel_rfl) (by kernel_rfl) (by kernel_rfl) (fun _ _ _ h => h) ⟨Or.inr ⟨by rfl, rfl⟩, fun _ => rfl⟩ ?_
          try simp only [Act.put, List.setIfInBounds_toArray, List.set_cons_zero, List.set_cons_succ]
          refine wpAnyIn_take (i := 8) (oi := ⟨some 18, .move (.tmp 4), 3, "owned.go:32", #[⟨6, .guard⟩], some (6, true)⟩) (v := undef) rfl rfl (by kernel_rfl) (by kernel_rfl) (by kernel_rfl) (fun _ _ _ h => h) ⟨Or.inr ⟨by rfl, rfl⟩, fun _ => rfl⟩ ?_
          try simp only [Act.put, List.setIfInBounds_toArray, List.set_cons_zero, List.set_cons_succ]
          refine wpAnyIn_ready (rs := [9]) (by kernel_rfl) (by simp) (AllReadyIn.cons (o := ⟨some 19, .call { callee := .value (.tmp 17), args := #[.tmp 18], argTypes := #[3] }, 4, "owned.go:32", #[⟨7, .data⟩, ⟨8, .data⟩, ⟨6, .chain⟩, ⟨6, .guard⟩], some (6, true)⟩) rfl (fun K hK => ?_) AllReadyIn.nil)
          refine Eq.mpr (if_neg (by intro h; exact absurd (show false = true from h) (by decide))) ?_
          refine ⟨fun f hf => trivial, ?_⟩
          (try (refine hK _ _ ?_; clear hK K))
          try simp only [Act.put, List.setIfInBounds_toArray, List.set_cons_zero, List.set_cons_succ]
          refine wpAnyIn_take (i := 10) (oi := ⟨some 20, .unOp .not 4 (.tmp 19), 4, "owned.go:32", #[⟨9, .data⟩, ⟨6, .guard⟩], some (6, true)⟩) (v := undef) rfl rfl (by kernel_rfl) (by kernel_rfl) (by kernel_rfl) (fun _ _ _ h => h) ⟨Or.inr ⟨by rfl, rfl⟩, fun _ => rfl⟩ ?_
          try simp only [Act.put, List.setIfInBounds_toArray, List.set_cons_zero, List.set_cons_succ]
          refine wpAnyIn_take (i := 11) (oi := ⟨some 21, .pick (.tmp 16) (.tmp 20) (.const (.bool false)), 4, "owned.go:32", #[⟨6, .data⟩, ⟨10, .data⟩], none⟩) (v := .bool false) rfl rfl (by kernel_rfl) (by kernel_rfl) (by kernel_rfl) (fun _ _ _ h => h) ⟨Or.inl ⟨by rfl, by intro w; go_simp⟩, fun _ => rfl⟩ ?_
          try simp only [Act.put, List.setIfInBounds_toArray, List.set_cons_zero, List.set_cons_succ]
          have HQ4 := hid (HNk.out _ hp HQ3.out)
          refine wpAnyIn_done (by kernel_rfl) ?_ _
          gi_wp2
          go_roundw
          case rel => exact ⟨k + 1, HK.out, by simp, HQ4⟩
          case measure => have := HK.out; simp [intOf] <;> omega
        · go_simp
          (try (refine hK _ _ ?_; clear hK K))
          try simp only [Act.put, List.setIfInBounds_toArray, List.set_cons_zero, List.set_cons_succ]
          refine wpAnyIn_ready (rs := [0, 4]) (by kernel_rfl) (by simp) (AllReadyIn.cons (o := ⟨some 10, .load 147 (.tmp 2), 147, "owned.go:32", #[], none⟩) rfl (fun K hK => ?_) (AllReadyIn.cons (o := ⟨some 14, .call { callee := .value (.func 74), args := #[.tmp 12, .tmp 13], argTypes := #[31, 3] }, 92, "owned.go:32", #[⟨2, .data⟩, ⟨3, .data⟩], none⟩) rfl (fun K hK => ?_) AllReadyIn.nil))
          · go_simp
            (try (refine hK _ _ ?_; clear hK K))
            try simp only [Act.put, List.setIfInBounds_toArray, List.set_cons_zero, List.set_cons_succ]
            refine wpAnyIn_ready (rs := [4]) (by kernel_rfl) (by simp) (AllReadyIn.cons (o := ⟨some 14, .call { callee := .value (.func 74), args := #[.tmp 12, .tmp 13], argTypes := #[31, 3] }, 92, "owned.go:32", #[⟨2, .data⟩, ⟨3, .data⟩], none⟩) rfl (fun K hK => ?_) AllReadyIn.nil)
            go_simp
            gi_wp2
            refine ⟨trivial, (fun h => by cases h), CallsIn.mono (callsIn_wide.2 (HA.out _ HQ1.out)) ?_⟩
            rintro x w2 ⟨rfl, hb⟩
            have HQ2 := hid (HOn.out _ _ HQ1.out hb)
            clear hb
            have z2 := (HJ.out _ HQ2.out).2.2
            clear y1 y2
            gi_wp2
            (try (refine hK _ _ ?_; clear hK K))
            try simp only [Act.put, List.setIfInBounds_toArray, List.set_cons_zero, List.set_cons_succ]
            refine wpAnyIn_ready (rs := [5]) (by kernel_rfl) (by simp) (AllReadyIn.cons (o := ⟨some 15, .call { callee := .value (.tmp 10), args := #[.tmp 11, .tmp 14], argTypes := #[3, 92] }, 4, "owned.go:32", #[⟨0, .data⟩, ⟨1, .data⟩, ⟨4, .data⟩, ⟨4, .chain⟩], none⟩) rfl (fun K hK => ?_) AllReadyIn.nil)
            go_simp
            gi_wp2
            refine ⟨trivial, (fun h => by cases h), CallsIn.mono (callsIn_wide.2 (HSo.out _ HQ2.out)) ?_⟩
            rintro x w3 ⟨rfl, hb⟩
            have HQ3 := hid (HOn.out _ _ HQ2.out hb)
            clear hb z2
            gi_wp2
            (try (refine hK _ _ ?_; clear hK K))
            try simp only [Act.put, List.setIfInBounds_toArray, List.set_cons_zero, List.set_cons_succ]
            refine wpAnyIn_take (i := 6) (oi := ⟨some 16, .move (.tmp 15), 4, "owned.go:32", #[⟨5, .data⟩, ⟨5, .chain⟩], none⟩) (v := .bool false) rfl rfl (by kernel_rfl) (by kernel_rfl) (by kernel_rfl) (fun _ _ _ h => h) ⟨Or.inl ⟨by rfl, by intro w; go_simp⟩, fun _ => rfl⟩ ?_
            try simp only [Act.put, List.setIfInBounds_toArray, List.set_cons_zero, List.set_cons_succ]
            refine wpAnyIn_take (i := 7) (oi := ⟨some 17, .move (.tmp 0), 50, "owned.go:32", #[⟨6, .guard⟩], some (6, true)⟩) (v := undef) rfl rfl (by kernel_rfl) (by kernel_rfl) (by kernel_rfl) (fun _ _ _ h => h) ⟨Or.inr ⟨by rfl, rfl⟩, fun _ => rfl⟩ ?_
            try simp only [Act.put, List.setIfInBounds_toArray, List.set_cons_zero, List.set_cons_succ]
            refine wpAnyIn_take (i := 8) (oi := ⟨some 18, .move (.tmp 4), 3, "owned.go:32", #[⟨6, .guard⟩], some (6, true)⟩) (v := undef) rfl rfl (by kernel_rfl) (by kernel_rfl) (by kernel_rfl) (fun _ _ _ h => h) ⟨Or.inr ⟨by rfl, rfl⟩, fun _ => rfl⟩ ?_
            try simp only [Act.put, List.setIfInBounds_toArray, List.set_cons_zero, List.set_cons_succ]
            refine wpAnyIn_ready (rs := [9]) (by kernel_rfl) (by simp) (AllReadyIn.cons (o := ⟨some 19, .call { callee := .value (.tmp 17), args := #[.tmp 18], argTypes := #[3] }, 4, "owned.go:32", #[⟨7, .data⟩, ⟨8, .data⟩, ⟨6, .chain⟩, ⟨6, .guard⟩], some (6, true)⟩) rfl (fun K hK => ?_) AllReadyIn.nil)
            refine Eq.mpr (if_neg (by intro h; exact absurd (show false = true from h) (by decide))) ?_
            refine ⟨fun f hf => trivial, ?_⟩
            (try (refine hK _ _ ?_; clear hK K))
            try simp only [Act.put, List.setIfInBounds_toArray, List.set_cons_zero, List.set_cons_succ]
            refine wpAnyIn_take (i := 10) (oi := ⟨some 20, .unOp .not 4 (.tmp 19), 4, "owned.go:32", #[⟨9, .data⟩, ⟨6, .guard⟩], some (6, true)⟩) (v := undef) rfl rfl (by kernel_rfl) (by kernel_rfl) (by kernel_rfl) (fun _ _ _ h => h) ⟨Or.inr ⟨by rfl, rfl⟩, fun _ => rfl⟩ ?_
            try simp only [Act.put, List.setIfInBounds_toArray, List.set_cons_zero, List.set_cons_succ]
            refine wpAnyIn_take (i := 11) (oi := ⟨some 21, .pick (.tmp 16) (.tmp 20) (.const (.bool false)), 4, "owned.go:32", #[⟨6, .data⟩, ⟨10, .data⟩], none⟩) (v := .bool false) rfl rfl (by kernel_rfl) (by kernel_rfl) (by kernel_rfl) (fun _ _ _ h => h) ⟨Or.inl ⟨by rfl, by intro w; go_simp⟩, fun _ => rfl⟩ ?_
            try simp only [Act.put, List.setIfInBounds_toArray, List.set_cons_zero, List.set_cons_succ]
            have HQ4 := hid (HNk.out _ hp HQ3.out)
            refine wpAnyIn_done (by kernel_rfl) ?_ _
            gi_wp2
            go_roundw
            case rel => exact ⟨k + 1, HK.out, by simp, HQ4⟩
            case measure => have := HK.out; simp [intOf] <;> omega
          · skip
            go_simp
            gi_wp2
            refine ⟨trivial, (fun h => by cases h), CallsIn.mono (callsIn_wide.2 (HA.out _ HQ1.out)) ?_⟩
            rintro x w2 ⟨rfl, hb⟩
            have HQ2 := hid (HOn.out _ _ HQ1.out hb)
            clear hb
            have z2 := (HJ.out _ HQ2.out).2.2
            clear y1 y2
            gi_wp2
            (try (refine hK _ _ ?_; clear hK K))
            try simp only [Act.put, List.setIfInBounds_toArray, List.set_cons_zero, List.set_cons_succ]
            refine wpAnyIn_ready (rs := [0]) (by kernel_rfl) (by simp) (AllReadyIn.cons (o := ⟨some 10, .load 147 (.tmp 2), 147, "owned.go:32", #[], none⟩) rfl (fun K hK => ?_) AllReadyIn.nil)
            go_simp
            (try (refine hK _ _ ?_; clear hK K))
            try simp only [Act.put, List.setIfInBounds_toArray, List.set_cons_zero, List.set_cons_succ]
            refine wpAnyIn_ready (rs := [5]) (by kernel_rfl) (by simp) (AllReadyIn.cons (o := ⟨some 15, .call { callee := .value (.tmp 10), args := #[.tmp 11, .tmp 14], argTypes := #[3, 92] }, 4, "owned.go:32", #[⟨0, .data⟩, ⟨1, .data⟩, ⟨4, .data⟩, ⟨4, .chain⟩], none⟩) rfl (fun K hK => ?_) AllReadyIn.nil)
            go_simp
            gi_wp2
            refine ⟨trivial, (fun h => by cases h), CallsIn.mono (callsIn_wide.2 (HSo.out _ HQ2.out)) ?_⟩
            rintro x w3 ⟨rfl, hb⟩
            have HQ3 := hid (HOn.out _ _ HQ2.out hb)
            clear hb z2
            gi_wp2
            (try (refine hK _ _ ?_; clear hK K))
            try simp only [Act.put, List.setIfInBounds_toArray, List.set_cons_zero, List.set_cons_succ]
            refine wpAnyIn_take (i := 6) (oi := ⟨some 16, .move (.tmp 15), 4, "owned.go:32", #[⟨5, .data⟩, ⟨5, .chain⟩], none⟩) (v := .bool false) rfl rfl (by kernel_rfl) (by kernel_rfl) (by kernel_rfl) (fun _ _ _ h => h) ⟨Or.inl ⟨by rfl, by intro w; go_simp⟩, fun _ => rfl⟩ ?_
            try simp only [Act.put, List.setIfInBounds_toArray, List.set_cons_zero, List.set_cons_succ]
            refine wpAnyIn_take (i := 7) (oi := ⟨some 17, .move (.tmp 0), 50, "owned.go:32", #[⟨6, .guard⟩], some (6, true)⟩) (v := undef) rfl rfl (by kernel_rfl) (by kernel_rfl) (by kernel_rfl) (fun _ _ _ h => h) ⟨Or.inr ⟨by rfl, rfl⟩, fun _ => rfl⟩ ?_
            try simp only [Act.put, List.setIfInBounds_toArray, List.set_cons_zero, List.set_cons_succ]
            refine wpAnyIn_take (i := 8) (oi := ⟨some 18, .move (.tmp 4), 3, "owned.go:32", #[⟨6, .guard⟩], some (6, true)⟩) (v := undef) rfl rfl (by kernel_rfl) (by kernel_rfl) (by kernel_rfl) (fun _ _ _ h => h) ⟨Or.inr ⟨by rfl, rfl⟩, fun _ => rfl⟩ ?_
            try simp only [Act.put, List.setIfInBounds_toArray, List.set_cons_zero, List.set_cons_succ]
            refine wpAnyIn_ready (rs := [9]) (by kernel_rfl) (by simp) (AllReadyIn.cons (o := ⟨some 19, .call { callee := .value (.tmp 17), args := #[.tmp 18], argTypes := #[3] }, 4, "owned.go:32", #[⟨7, .data⟩, ⟨8, .data⟩, ⟨6, .chain⟩, ⟨6, .guard⟩], some (6, true)⟩) rfl (fun K hK => ?_) AllReadyIn.nil)
            refine Eq.mpr (if_neg (by intro h; exact absurd (show false = true from h) (by decide))) ?_
            refine ⟨fun f hf => trivial, ?_⟩
            (try (refine hK _ _ ?_; clear hK K))
            try simp only [Act.put, List.setIfInBounds_toArray, List.set_cons_zero, List.set_cons_succ]
            refine wpAnyIn_take (i := 10) (oi := ⟨some 20, .unOp .not 4 (.tmp 19), 4, "owned.go:32", #[⟨9, .data⟩, ⟨6, .guard⟩], some (6, true)⟩) (v := undef) rfl rfl (by kernel_rfl) (by kernel_rfl) (by kernel_rfl) (fun _ _ _ h => h) ⟨Or.inr ⟨by rfl, rfl⟩, fun _ => rfl⟩ ?_
            try simp only [Act.put, List.setIfInBounds_toArray, List.set_cons_zero, List.set_cons_succ]
            refine wpAnyIn_take (i := 11) (oi := ⟨some 21, .pick (.tmp 16) (.tmp 20) (.const (.bool false)), 4, "owned.go:32", #[⟨6, .data⟩, ⟨10, .data⟩], none⟩) (v := .bool false) rfl rfl (by kernel_rfl) (by kernel_rfl) (by kernel_rfl) (fun _ _ _ h => h) ⟨Or.inl ⟨by rfl, by intro w; go_simp⟩, fun _ => rfl⟩ ?_
            try simp only [Act.put, List.setIfInBounds_toArray, List.set_cons_zero, List.set_cons_succ]
            have HQ4 := hid (HNk.out _ hp HQ3.out)
            refine wpAnyIn_done (by kernel_rfl) ?_ _
            gi_wp2
            go_roundw
            case rel => exact ⟨k + 1, HK.out, by simp, HQ4⟩
            case measure => have := HK.out; simp [intOf] <;> omega
      · rw [hp] at HSo
        clear HNk
        gi_wp2
        refine wpIn_region_any (by kernel_rfl) ?_
        change wpAnyIn _ _ _ _ _ _ _ _ _ (World.drew _)
        have HQ1 := hid (HOn.out _ _ HQ.out (Below.refl _ _).drew)
        have y1 := (HJ.out _ HQ1.out).2.1
        have y2 := (HJ.out _ HQ1.out).2.2
        refine wpAnyIn_take (i := 1) (oi := ⟨some 11, .move (.tmp 4), 3, "owned.go:32", #[], none⟩) (v := .int .i64 (k : Int)) rfl rfl (by kernel_rfl) (by kernel_rfl) (by kernel_rfl) (fun _ _ _ h => h) ⟨Or.inl ⟨by rfl, by intro w; go_simp⟩, fun _ => rfl⟩ ?_
        try simp only [Act.put, List.setIfInBounds_toArray, List.set_cons_zero, List.set_cons_succ]
        refine wpAnyIn_take (i := 3) (oi := ⟨some 13, .move (.tmp 4), 3, "owned.go:32", #[], none⟩) (v := .int .i64 (k : Int)) rfl rfl (by kernel_rfl) (by kernel_rfl) (by kernel_rfl) (fun _ _ _ h => h) ⟨Or.inl ⟨by rfl, by intro w; go_simp⟩, fun _ => rfl⟩ ?_
        try simp only [Act.put, List.setIfInBounds_toArray, List.set_cons_zero, List.set_cons_succ]
        refine wpAnyIn_ready (rs := [0, 2]) (by kernel_rfl) (by simp) (AllReadyIn.cons (o := ⟨some 10, .load 147 (.tmp 2), 147, "owned.go:32", #[], none⟩) rfl (fun K hK => ?_) (AllReadyIn.cons (o := ⟨some 12, .load 31 (.tmp 1), 31, "owned.go:32", #[], none⟩) rfl (fun K hK => ?_) AllReadyIn.nil))
        · go_simp
          (try (refine hK _ _ ?_; clear hK K))
          try simp only [Act.put, List.setIfInBounds_toArray, List.set_cons_zero, List.set_cons_succ]
          refine wpAnyIn_ready (rs := [2]) (by kernel_rfl) (by simp) (AllReadyIn.cons (o := ⟨some 12, .load 31 (.tmp 1), 31, "owned.go:32", #[], none⟩) rfl (fun K hK => ?_) AllReadyIn.nil)
          go_simp
          (try (refine hK _ _ ?_; clear hK K))
          try simp only [Act.put, List.setIfInBounds_toArray, List.set_cons_zero, List.set_cons_succ]
          refine wpAnyIn_ready (rs := [4]) (by kernel_rfl) (by simp) (AllReadyIn.cons (o := ⟨some 14, .call { callee := .value (.func 74), args := #[.tmp 12, .tmp 13], argTypes := #[31, 3] }, 92, "owned.go:32", #[⟨2, .data⟩, ⟨3, .data⟩], none⟩) rfl (fun K hK => ?_) AllReadyIn.nil)
          go_simp
          gi_wp2
          refine ⟨trivial, (fun h => by cases h), CallsIn.mono (callsIn_wide.2 (HA.out _ HQ1.out)) ?_⟩
          rintro x w2 ⟨rfl, hb⟩
          have HQ2 := hid (HOn.out _ _ HQ1.out hb)
          clear hb
          have z2 := (HJ.out _ HQ2.out).2.2
          clear y1 y2
          gi_wp2
          (try (refine hK _ _ ?_; clear hK K))
          try simp only [Act.put, List.setIfInBounds_toArray, List.set_cons_zero, List.set_cons_succ]
          refine wpAnyIn_ready (rs := [5]) (by kernel_rfl) (by simp) (AllReadyIn.cons (o := ⟨some 15, .call { callee := .value (.tmp 10), args := #[.tmp 11, .tmp 14], argTypes := #[3, 92] }, 4, "owned.go:32", #[⟨0, .data⟩, ⟨1, .data⟩, ⟨4, .data⟩, ⟨4, .chain⟩], none⟩) rfl (fun K hK => ?_) AllReadyIn.nil)
          go_simp
          gi_wp2
          refine ⟨trivial, (fun h => by cases h), CallsIn.mono (callsIn_wide.2 (HSo.out _ HQ2.out)) ?_⟩
          rintro x w3 ⟨rfl, hb⟩
          have HQ3 := hid (HOn.out _ _ HQ2.out hb)
          clear hb z2
          gi_wp2
          (try (refine hK _ _ ?_; clear hK K))
          try simp only [Act.put, List.setIfInBounds_toArray, List.set_cons_zero, List.set_cons_succ]
          refine wpAnyIn_take (i := 6) (oi := ⟨some 16, .move (.tmp 15), 4, "owned.go:32", #[⟨5, .data⟩, ⟨5, .chain⟩], none⟩) (v := .bool true) rfl rfl (by kernel_rfl) (by kernel_rfl) (by kernel_rfl) (fun _ _ _ h => h) ⟨Or.inl ⟨by rfl, by intro w; go_simp⟩, fun _ => rfl⟩ ?_
          try simp only [Act.put, List.setIfInBounds_toArray, List.set_cons_zero, List.set_cons_succ]
          refine wpAnyIn_take (i := 7) (oi := ⟨some 17, .move (.tmp 0), 50, "owned.go:32", #[⟨6, .guard⟩], some (6, true)⟩) (v := .func (.yield l) #[] #[]) rfl rfl (by kernel_rfl) (by kernel_rfl) (by kernel_rfl) (fun _ _ _ h => h) ⟨Or.inl ⟨by rfl, by intro w; go_simp⟩, fun _ => rfl⟩ ?_
          try simp only [Act.put, List.setIfInBounds_toArray, List.set_cons_zero, List.set_cons_succ]
          refine wpAnyIn_take (i := 8) (oi := ⟨some 18, .move (.tmp 4), 3, "owned.go:32", #[⟨6, .guard⟩], some (6, true)⟩) (v := .int .i64 (k : Int)) rfl rfl (by kernel_rfl) (by kernel_rfl) (by kernel_rfl) (fun _ _ _ h => h) ⟨Or.inl ⟨by rfl, by intro w; go_simp⟩, fun _ => rfl⟩ ?_
          try simp only [Act.put, List.setIfInBounds_toArray, List.set_cons_zero, List.set_cons_succ]
          refine wpAnyIn_ready (rs := [9]) (by kernel_rfl) (by simp) (AllReadyIn.cons (o := ⟨some 19, .call { callee := .value (.tmp 17), args := #[.tmp 18], argTypes := #[3] }, 4, "owned.go:32", #[⟨7, .data⟩, ⟨8, .data⟩, ⟨6, .chain⟩, ⟨6, .guard⟩], some (6, true)⟩) rfl (fun K hK => ?_) AllReadyIn.nil)
          obtain ⟨fn, tmps, assign, body, hy, hR⟩ := HYk.out _ hp HQ3.out
          have HR := hid hR
          clear hR
          go_simp
          gi_wp2
          refine ⟨(fun h => by cases h), RoundIn.mono HR.out ?_⟩
          rintro x w4 ⟨rfl, hJ4⟩
          have HQ4 := hid hJ4
          clear hJ4 HR hy
          gi_wp2
          (try (refine hK _ _ ?_; clear hK K))
          try simp only [Act.put, List.setIfInBounds_toArray, List.set_cons_zero, List.set_cons_succ]
          refine wpAnyIn_take (i := 10) (oi := ⟨some 20, .unOp .not 4 (.tmp 19), 4, "owned.go:32", #[⟨9, .data⟩, ⟨6, .guard⟩], some (6, true)⟩) (v := .bool false) rfl rfl (by kernel_rfl) (by kernel_rfl) (by kernel_rfl) (fun _ _ _ h => h) ⟨Or.inl ⟨by rfl, by intro w; go_simp⟩, fun _ => rfl⟩ ?_
          try simp only [Act.put, List.setIfInBounds_toArray, List.set_cons_zero, List.set_cons_succ]
          refine wpAnyIn_take (i := 11) (oi := ⟨some 21, .pick (.tmp 16) (.tmp 20) (.const (.bool false)), 4, "owned.go:32", #[⟨6, .data⟩, ⟨10, .data⟩], none⟩) (v := .bool false) rfl rfl (by kernel_rfl) (by kernel_rfl) (by kernel_rfl) (fun _ _ _ h => h) ⟨Or.inl ⟨by rfl, by intro w; go_simp⟩, fun _ => rfl⟩ ?_
          try simp only [Act.put, List.setIfInBounds_toArray, List.set_cons_zero, List.set_cons_succ]
          refine wpAnyIn_done (by kernel_rfl) ?_ _
          gi_wp2
          go_roundw
          case rel => exact ⟨k + 1, HK.out, by simp, HQ4⟩
          case measure => have := HK.out; simp [intOf] <;> omega
        · go_simp
          (try (refine hK _ _ ?_; clear hK K))
          try simp only [Act.put, List.setIfInBounds_toArray, List.set_cons_zero, List.set_cons_succ]
          refine wpAnyIn_ready (rs := [0, 4]) (by kernel_rfl) (by simp) (AllReadyIn.cons (o := ⟨some 10, .load 147 (.tmp 2), 147, "owned.go:32", #[], none⟩) rfl (fun K hK => ?_) (AllReadyIn.cons (o := ⟨some 14, .call { callee := .value (.func 74), args := #[.tmp 12, .tmp 13], argTypes := #[31, 3] }, 92, "owned.go:32", #[⟨2, .data⟩, ⟨3, .data⟩], none⟩) rfl (fun K hK => ?_) AllReadyIn.nil))
          · go_simp
            (try (refine hK _ _ ?_; clear hK K))
            try simp only [Act.put, List.setIfInBounds_toArray, List.set_cons_zero, List.set_cons_succ]
            refine wpAnyIn_ready (rs := [4]) (by kernel_rfl) (by simp) (AllReadyIn.cons (o := ⟨some 14, .call { callee := .value (.func 74), args := #[.tmp 12, .tmp 13], argTypes := #[31, 3] }, 92, "owned.go:32", #[⟨2, .data⟩, ⟨3, .data⟩], none⟩) rfl (fun K hK => ?_) AllReadyIn.nil)
            go_simp
            gi_wp2
            refine ⟨trivial, (fun h => by cases h), CallsIn.mono (callsIn_wide.2 (HA.out _ HQ1.out)) ?_⟩
            rintro x w2 ⟨rfl, hb⟩
            have HQ2 := hid (HOn.out _ _ HQ1.out hb)
            clear hb
            have z2 := (HJ.out _ HQ2.out).2.2
            clear y1 y2
            gi_wp2
            (try (refine hK _ _ ?_; clear hK K))
            try simp only [Act.put, List.setIfInBounds_toArray, List.set_cons_zero, List.set_cons_succ]
            refine wpAnyIn_ready (rs := [5]) (by kernel_rfl) (by simp) (AllReadyIn.cons (o := ⟨some 15, .call { callee := .value (.tmp 10), args := #[.tmp 11, .tmp 14], argTypes := #[3, 92] }, 4, "owned.go:32", #[⟨0, .data⟩, ⟨1, .data⟩, ⟨4, .data⟩, ⟨4, .chain⟩], none⟩) rfl (fun K hK => ?_) AllReadyIn.nil)
            go_simp
            gi_wp2
            refine ⟨trivial, (fun h => by cases h), CallsIn.mono (callsIn_wide.2 (HSo.out _ HQ2.out)) ?_⟩
            rintro x w3 ⟨rfl, hb⟩
            have HQ3 := hid (HOn.out _ _ HQ2.out hb)
            clear hb z2
            gi_wp2
            (try (refine hK _ _ ?_; clear hK K))
            try simp only [Act.put, List.setIfInBounds_toArray, List.set_cons_zero, List.set_cons_succ]
            refine wpAnyIn_take (i := 6) (oi := ⟨some 16, .move (.tmp 15), 4, "owned.go:32", #[⟨5, .data⟩, ⟨5, .chain⟩], none⟩) (v := .bool true) rfl rfl (by kernel_rfl) (by kernel_rfl) (by kernel_rfl) (fun _ _ _ h => h) ⟨Or.inl ⟨by rfl, by intro w; go_simp⟩, fun _ => rfl⟩ ?_
            try simp only [Act.put, List.setIfInBounds_toArray, List.set_cons_zero, List.set_cons_succ]
            refine wpAnyIn_take (i := 7) (oi := ⟨some 17, .move (.tmp 0), 50, "owned.go:32", #[⟨6, .guard⟩], some (6, true)⟩) (v := .func (.yield l) #[] #[]) rfl rfl (by kernel_rfl) (by kernel_rfl) (by kernel_rfl) (fun _ _ _ h => h) ⟨Or.inl ⟨by rfl, by intro w; go_simp⟩, fun _ => rfl⟩ ?_
            try simp only [Act.put, List.setIfInBounds_toArray, List.set_cons_zero, List.set_cons_succ]
            refine wpAnyIn_take (i := 8) (oi := ⟨some 18, .move (.tmp 4), 3, "owned.go:32", #[⟨6, .guard⟩], some (6, true)⟩) (v := .int .i64 (k : Int)) rfl rfl (by kernel_rfl) (by kernel_rfl) (by kernel_rfl) (fun _ _ _ h => h) ⟨Or.inl ⟨by rfl, by intro w; go_simp⟩, fun _ => rfl⟩ ?_
            try simp only [Act.put, List.setIfInBounds_toArray, List.set_cons_zero, List.set_cons_succ]
            refine wpAnyIn_ready (rs := [9]) (by kernel_rfl) (by simp) (AllReadyIn.cons (o := ⟨some 19, .call { callee := .value (.tmp 17), args := #[.tmp 18], argTypes := #[3] }, 4, "owned.go:32", #[⟨7, .data⟩, ⟨8, .data⟩, ⟨6, .chain⟩, ⟨6, .guard⟩], some (6, true)⟩) rfl (fun K hK => ?_) AllReadyIn.nil)
            obtain ⟨fn, tmps, assign, body, hy, hR⟩ := HYk.out _ hp HQ3.out
            have HR := hid hR
            clear hR
            go_simp
            gi_wp2
            refine ⟨(fun h => by cases h), RoundIn.mono HR.out ?_⟩
            rintro x w4 ⟨rfl, hJ4⟩
            have HQ4 := hid hJ4
            clear hJ4 HR hy
            gi_wp2
            (try (refine hK _ _ ?_; clear hK K))
            try simp only [Act.put, List.setIfInBounds_toArray, List.set_cons_zero, List.set_cons_succ]
            refine wpAnyIn_take (i := 10) (oi := ⟨some 20, .unOp .not 4 (.tmp 19), 4, "owned.go:32", #[⟨9, .data⟩, ⟨6, .guard⟩], some (6, true)⟩) (v := .bool false) rfl rfl (by kernel_rfl) (by kernel_rfl) (by kernel_rfl) (fun _ _ _ h => h) ⟨Or.inl ⟨by rfl, by intro w; go_simp⟩, fun _ => rfl⟩ ?_
            try simp only [Act.put, List.setIfInBounds_toArray, List.set_cons_zero, List.set_cons_succ]
            refine wpAnyIn_take (i := 11) (oi := ⟨some 21, .pick (.tmp 16) (.tmp 20) (.const (.bool false)), 4, "owned.go:32", #[⟨6, .data⟩, ⟨10, .data⟩], none⟩) (v := .bool false) rfl rfl (by kernel_rfl) (by kernel_rfl) (by kernel_rfl) (fun _ _ _ h => h) ⟨Or.inl ⟨by rfl, by intro w; go_simp⟩, fun _ => rfl⟩ ?_
            try simp only [Act.put, List.setIfInBounds_toArray, List.set_cons_zero, List.set_cons_succ]
            refine wpAnyIn_done (by kernel_rfl) ?_ _
            gi_wp2
            go_roundw
            case rel => exact ⟨k + 1, HK.out, by simp, HQ4⟩
            case measure => have := HK.out; simp [intOf] <;> omega
          · skip
            go_simp
            gi_wp2
            refine ⟨trivial, (fun h => by cases h), CallsIn.mono (callsIn_wide.2 (HA.out _ HQ1.out)) ?_⟩
            rintro x w2 ⟨rfl, hb⟩
            have HQ2 := hid (HOn.out _ _ HQ1.out hb)
            clear hb
            have z2 := (HJ.out _ HQ2.out).2.2
            clear y1 y2
            gi_wp2
            (try (refine hK _ _ ?_; clear hK K))
            try simp only [Act.put, List.setIfInBounds_toArray, List.set_cons_zero, List.set_cons_succ]
            refine wpAnyIn_ready (rs := [0]) (by kernel_rfl) (by simp) (AllReadyIn.cons (o := ⟨some 10, .load 147 (.tmp 2), 147, "owned.go:32", #[], none⟩) rfl (fun K hK => ?_) AllReadyIn.nil)
            go_simp
            (try (refine hK _ _ ?_; clear hK K))
            try simp only [Act.put, List.setIfInBounds_toArray, List.set_cons_zero, List.set_cons_succ]
            refine wpAnyIn_ready (rs := [5]) (by kernel_rfl) (by simp) (AllReadyIn.cons (o := ⟨some 15, .call { callee := .value (.tmp 10), args := #[.tmp 11, .tmp 14], argTypes := #[3, 92] }, 4, "owned.go:32", #[⟨0, .data⟩, ⟨1, .data⟩, ⟨4, .data⟩, ⟨4, .chain⟩], none⟩) rfl (fun K hK => ?_) AllReadyIn.nil)
            go_simp
            gi_wp2
            refine ⟨trivial, (fun h => by cases h), CallsIn.mono (callsIn_wide.2 (HSo.out _ HQ2.out)) ?_⟩
            rintro x w3 ⟨rfl, hb⟩
            have HQ3 := hid (HOn.out _ _ HQ2.out hb)
            clear hb z2
            gi_wp2
            (try (refine hK _ _ ?_; clear hK K))
            try simp only [Act.put, List.setIfInBounds_toArray, List.set_cons_zero, List.set_cons_succ]
            refine wpAnyIn_take (i := 6) (oi := ⟨some 16, .move (.tmp 15), 4, "owned.go:32", #[⟨5, .data⟩, ⟨5, .chain⟩], none⟩) (v := .bool true) rfl rfl (by kernel_rfl) (by kernel_rfl) (by kernel_rfl) (fun _ _ _ h => h) ⟨Or.inl ⟨by rfl, by intro w; go_simp⟩, fun _ => rfl⟩ ?_
            try simp only [Act.put, List.setIfInBounds_toArray, List.set_cons_zero, List.set_cons_succ]
            refine wpAnyIn_take (i := 7) (oi := ⟨some 17, .move (.tmp 0), 50, "owned.go:32", #[⟨6, .guard⟩], some (6, true)⟩) (v := .func (.yield l) #[] #[]) rfl rfl (by kernel_rfl) (by kernel_rfl) (by kernel_rfl) (fun _ _ _ h => h) ⟨Or.inl ⟨by rfl, by intro w; go_simp⟩, fun _ => rfl⟩ ?_
            try simp only [Act.put, List.setIfInBounds_toArray, List.set_cons_zero, List.set_cons_succ]
            refine wpAnyIn_take (i := 8) (oi := ⟨some 18, .move (.tmp 4), 3, "owned.go:32", #[⟨6, .guard⟩], some (6, true)⟩) (v := .int .i64 (k : Int)) rfl rfl (by kernel_rfl) (by kernel_rfl) (by kernel_rfl) (fun _ _ _ h => h) ⟨Or.inl ⟨by rfl, by intro w; go_simp⟩, fun _ => rfl⟩ ?_
            try simp only [Act.put, List.setIfInBounds_toArray, List.set_cons_zero, List.set_cons_succ]
            refine wpAnyIn_ready (rs := [9]) (by kernel_rfl) (by simp) (AllReadyIn.cons (o := ⟨some 19, .call { callee := .value (.tmp 17), args := #[.tmp 18], argTypes := #[3] }, 4, "owned.go:32", #[⟨7, .data⟩, ⟨8, .data⟩, ⟨6, .chain⟩, ⟨6, .guard⟩], some (6, true)⟩) rfl (fun K hK => ?_) AllReadyIn.nil)
            obtain ⟨fn, tmps, assign, body, hy, hR⟩ := HYk.out _ hp HQ3.out
            have HR := hid hR
            clear hR
            go_simp
            gi_wp2
            refine ⟨(fun h => by cases h), RoundIn.mono HR.out ?_⟩
            rintro x w4 ⟨rfl, hJ4⟩
            have HQ4 := hid hJ4
            clear hJ4 HR hy
            gi_wp2
            (try (refine hK _ _ ?_; clear hK K))
            try simp only [Act.put, List.setIfInBounds_toArray, List.set_cons_zero, List.set_cons_succ]
            refine wpAnyIn_take (i := 10) (oi := ⟨some 20, .unOp .not 4 (.tmp 19), 4, "owned.go:32", #[⟨9, .data⟩, ⟨6, .guard⟩], some (6, true)⟩) (v := .bool false) rfl rfl (by kernel_rfl) (by kernel_rfl) (by kernel_rfl) (fun _ _ _ h => h) ⟨Or.inl ⟨by rfl, by intro w; go_simp⟩, fun _ => rfl⟩ ?_
            try simp only [Act.put, List.setIfInBounds_toArray, List.set_cons_zero, List.set_cons_succ]
            refine wpAnyIn_take (i := 11) (oi := ⟨some 21, .pick (.tmp 16) (.tmp 20) (.const (.bool false)), 4, "owned.go:32", #[⟨6, .data⟩, ⟨10, .data⟩], none⟩) (v := .bool false) rfl rfl (by kernel_rfl) (by kernel_rfl) (by kernel_rfl) (fun _ _ _ h => h) ⟨Or.inl ⟨by rfl, by intro w; go_simp⟩, fun _ => rfl⟩ ?_
            try simp only [Act.put, List.setIfInBounds_toArray, List.set_cons_zero, List.set_cons_succ]
            refine wpAnyIn_done (by kernel_rfl) ?_ _
            gi_wp2
            go_roundw
            case rel => exact ⟨k + 1, HK.out, by simp, HQ4⟩
            case measure => have := HK.out; simp [intOf] <;> omega
    · have hkw : k = d.m.ns := by omega
      subst hkw
      gi_wp2
      go_end0
      exact ⟨⟨_, rfl⟩, HQ.out⟩
end Go.Proofs.YtildhjiddidghaaGreatDoor
namespace Go.Proofs.YtildhjiddidghaaGreatDoor
open Go.RowKit Go.Shelf
set_option maxHeartbeats 2000000
set_option maxRecDepth 100000
attribute [local go_sem] Oper.semAt_some
structure FJ (w W : World) (p : Dp) (d : DS) (gc bd bs L D : Nat) (r : Loop) (so : Value) (c : Int) : Prop where
  db : DB W p d
  but : Below w.heap.size w W
  cd : Ob W bd (box (.pointer (some ⟨p.g, 0, none⟩)) 31)
  cs : Ob W bs (box so 147)
  l : Ob W L (.loop r)
  d : Ob W D (.deferred (some []))
  cnt : Ob W gc (box (.int .i64 c) 3)
theorem FJ.on {w W W' : World} {p : Dp} {d : DS} {gc bd bs L D : Nat} {r : Loop} {so : Value} {c : Int} (h : FJ w W p d gc bd bs L D r so c) (hb : Below W.heap.size W W') : FJ w W' p d gc bd bs L D r so c :=
  ⟨h.db.on hb, below_on h.but hb, h.cd.on hb, h.cs.on hb, h.l.on hb, h.d.on hb, h.cnt.on hb⟩
end Go.Proofs.YtildhjiddidghaaGreatDoor
