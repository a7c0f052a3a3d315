import Derived.Test.YtdfnbcbnmiohnaaGreatDoorP30
import Derived.ArgAppend
import Derived.Laws.OwnMore
import Derived.RangeFuncNested
import Derived.RangeFuncLeaves
import Derived.RangeFuncBound
import Derived.RangeFuncCalls
import Derived.Shelf.Abstract
import Derived.Shelf.RegionOpen
import Derived.OwnWalkIn
import Derived.TacticsInMore
import Derived.LoopNIn
import Derived.LoopIn
import Derived.Test.YtdfnbcbnmiohnaaGreatDoorP27
namespace Go.Proofs.YtdfnbcbnmiohnaaGreatDoor
open Go.RowKit
theorem append_two {P : Program} {w : World} {base : Nat} {t ty e : TypeId} {i : TypeInfo} {z : Value} {size bytes : Nat} (ht : P.underlying t = some (.slice e)) (hi : P.info? e = some i) (hz : i.zero = some z) (hsize : i.size = size) (hby : i.bytes = bytes) (hzs : z.cells.size = size) (hsz : 0 < size)
    {v : Value} {n : Nat} {xs : List Value} (hown : w.ownsRow base e size v n xs) (hbase : base ≤ w.heap.size) {a : Addr} {m c : Nat} {news : List Value} (hl : news.length = m * size) (hnews : ∀ j u, news[j]? = some u → w.cell? (a.add j) = some u) (h1 : ∀ u ∈ news, u.oneCell' = true)
    (h63 : n + m ≤ maxLen) (hbytes : (n + m) * bytes ≤ 140737488355328) :
    ∃ v' w', (Builtin.append_ #[t, t] ty #[v, .slice (some a) m c]).run P w = .ok v' w' ∧
      ((∃ g cap, v = .slice (some ⟨g, 0, none⟩) n cap ∧ v' = .slice (some ⟨g, 0, none⟩) (n + m) cap ∧ w'.ownsRow base e size v' (n + m) (xs ++ news) ∧ ButL [g] w w') ∨
       (w'.ownsRow w.heap.size e size v' (n + m) (xs ++ news) ∧ Below w.heap.size w w')) := by
  have none_below : ∀ w', w.grownBy w' none → Below w.heap.size w w' := fun w' h => ⟨h.os, h.tape, h.output, h.size, fun k hk => h.block k hk (by simp)⟩
  rcases hown.2 with ⟨rfl, rfl⟩ | ⟨g, cap, cur, rfl, hbg, hg, hnc, hcm, hcs, htake⟩
  · have hx : xs = [] := List.eq_nil_of_length_eq_zero (by simpa using hown.1)
    subst hx
    obtain ⟨v2, w2, hr2, ho, hb, _⟩ := run_append_own (P := P) w w.heap.size t ty e i z size bytes ht hi hz hsize hby hzs hsz (.slice none 0 0) 0 [] (World.ownsRow_nil w _ e size) a m c news hl hnews h1 h63 hbytes (Nat.le_refl _)
    exact ⟨v2, w2, hr2, .inr ⟨ho, none_below _ hb⟩⟩
  · by_cases hroom : n + m ≤ cap
    · obtain ⟨v2, w2, hr2, ho, hb, _⟩ := run_append_own (P := P) w base t ty e i z size bytes ht hi hz hsize hby hzs hsz _ n xs hown a m c news hl hnews h1 h63 hbytes hbase
      have hfit : n * i.size + news.length ≤ cur.size := by rw [hcs, hl, hsize, ← Nat.add_mul]; exact Nat.mul_le_mul_right _ hroom
      have hr3 := run_append_room (P := P) w t ty e i ht hi g n cap cur hg a m c news (by rw [hsize]; exact hl) hnews h1 hroom hfit
      rw [hr3] at hr2
      cases hr2
      exact ⟨_, _, hr3, .inl ⟨g, cap, rfl, rfl, ho, hb.os, hb.tape, hb.output, hb.size, fun k hk hn => hb.block k hk (by simp only [Value.ownBlock]; simpa using hn)⟩⟩
    · have holds : ∀ j u, xs[j]? = some u → w.cell? ((⟨g, 0, none⟩ : Addr).add j) = some u := hown.cells (g := g) rfl
      obtain ⟨v2, w2, hr2, ho, hb⟩ := run_append_arg_grows (P := P) w t ty e i z size bytes ht hi hz hsize hby hzs hsz ⟨g, 0, none⟩ n cap xs hown.1 holds a m c news hl hnews (by omega) h63 hbytes
      exact ⟨v2, w2, hr2, .inr ⟨ho, none_below _ hb⟩⟩
/-- In the walk. -/
theorem wpList_append_two {P : Program} {w : World} {ops : Array Oper} {rest : List Oper} {o : Oper} {ac : Act} {Q : Exit → Act → World → Prop} (hgd : o.guard = none) (s x : Operand) (t : TypeId)
    (ho : o.op = .call { callee := .builtin .append, args := #[s, x], argTypes := #[t, t] }) {base : Nat} {e : TypeId} {i : TypeInfo} {z : Value} {size bytes : Nat} (ht : P.underlying t = some (.slice e)) (hi : P.info? e = some i) (hz : i.zero = some z) (hsize : i.size = size) (hby : i.bytes = bytes) (hzs : z.cells.size = size) (hsz : 0 < size)
    {v : Value} {n : Nat} {xs : List Value} (hs : ac.eval s = v) (hown : w.ownsRow base e size v n xs) (hbase : base ≤ w.heap.size) {a : Addr} {m c : Nat} {news : List Value} (hx : ac.eval x = .slice (some a) m c) (hl : news.length = m * size) (hnews : ∀ j u, news[j]? = some u → w.cell? (a.add j) = some u) (h1 : ∀ u ∈ news, u.oneCell' = true)
    (h63 : n + m ≤ maxLen) (hbytes : (n + m) * bytes ≤ 140737488355328)
    (h : ∀ v' w', ((∃ g cap, v = .slice (some ⟨g, 0, none⟩) n cap ∧ v' = .slice (some ⟨g, 0, none⟩) (n + m) cap ∧ w'.ownsRow base e size v' (n + m) (xs ++ news) ∧ ButL [g] w w') ∨ (w'.ownsRow w.heap.size e size v' (n + m) (xs ++ news) ∧ Below w.heap.size w w')) → wpList P ops Q rest (ac.put o.dst v') w') : wpList P ops Q (o :: rest) ac w := by
  obtain ⟨v', w', hr, h2⟩ := append_two (P := P) (ty := o.type) (c := c) ht hi hz hsize hby hzs hsz hown hbase hl hnews h1 h63 hbytes
  refine wpList_plain hgd fun K hK => ?_
  unfold Oper.wp execOp
  simp only [ho, resolve, invoke, builtin, Sem.run_bind, Sem.run_pure, Result.andThen_ok, List.map_toArray, List.map_cons, List.map_nil, hs, hx, hr]
  exact hK _ _ (h _ _ h2)
/-- Two lists lie apart. -/
def Ap (v u : Value) : Prop := ∀ g, v.ownBlock = some g → u.ownBlock ≠ some g
theorem Ap.symm {v u : Value} (h : Ap v u) : Ap u v := fun g hg hv => h g hv hg
theorem own_keep {x x' : World} {B : Nat} {e : TypeId} {st : Nat} {v : Value} {n : Nat} {xs : List Value} {G : List Nat} (h : x.ownsRow B e st v n xs) (hb : ButL G x x') (hG : ∀ g, v.ownBlock = some g → g ∉ G) : x'.ownsRow B e st v n xs :=
  ⟨h.1, h.2.imp id fun ⟨g, cap, cur, hv, hB, hg, r⟩ => ⟨g, cap, cur, hv, hB, (hb.block g (Array.getElem?_eq_some_iff.1 hg).1 (hG g (by rw [hv]; rfl))).trans hg, r⟩⟩
theorem own_ty {x : World} {B : Nat} {e : TypeId} {st : Nat} {v : Value} {n : Nat} {xs : List Value} (h : x.ownsRow B e st v n xs) {g : Nat} (hg : v.ownBlock = some g) : ∃ cur, x.heap[g]? = some (.cells cur e (0, 0)) := by
  rcases h.2 with ⟨rfl, _⟩ | ⟨g', cap, cur, rfl, _, hh, _⟩
  · cases hg
  · simp only [Value.ownBlock, Option.some.injEq] at hg
    subst hg
    exact ⟨cur, hh⟩
theorem own_ne {x : World} {B B' : Nat} {e e' : TypeId} {st st' : Nat} {v v' : Value} {n n' : Nat} {xs xs' : List Value} (h : x.ownsRow B e st v n xs) (h' : x.ownsRow B' e' st' v' n' xs') (he : e ≠ e') : Ap v v' := fun g hg hg' => by
  obtain ⟨c1, e1⟩ := own_ty h hg
  obtain ⟨c2, e2⟩ := own_ty h' hg'
  rw [e1] at e2
  injection e2 with e2
  injection e2 with _ e3 _
  exact he e3
/-- A new one lies apart from what was there. -/
theorem own_new {x x' : World} {B : Nat} {e e' : TypeId} {st st' : Nat} {v v' : Value} {n n' : Nat} {xs xs' : List Value} (h : x.ownsRow B e st v n xs) (h' : x'.ownsRow x.heap.size e' st' v' n' xs') : Ap v v' := fun g hg hg' => by
  have h1 := (h.lt g hg).2
  have h2 := (h'.lt g hg').1
  omega
theorem own_mono {x : World} {B B' : Nat} {e : TypeId} {st : Nat} {v : Value} {n : Nat} {xs : List Value} (h : x.ownsRow B e st v n xs) (hB : B' ≤ B) : x.ownsRow B' e st v n xs :=
  ⟨h.1, h.2.imp id fun ⟨g, cap, cur, hv, hb, r⟩ => ⟨g, cap, cur, hv, Nat.le_trans hB hb, r⟩⟩
/-- The head of a row. -/
theorem own_prefix {x : World} {B : Nat} {e : TypeId} {st : Nat} {g n k cap : Nat} {xs ys : List Value} (h : x.ownsRow B e st (.slice (some ⟨g, 0, none⟩) (n + k) cap) (n + k) (xs ++ ys)) (hl : xs.length = n * st) : x.ownsRow B e st (.slice (some ⟨g, 0, none⟩) n cap) n xs := by
  refine ⟨hl, .inr ?_⟩
  rcases h.2 with ⟨hv, _⟩ | ⟨g', cap', cur, hv, hB, hg, h1, h2, h3, h4⟩
  · cases hv
  · cases hv
    refine ⟨g, cap, cur, rfl, hB, hg, by omega, h2, h3, ?_⟩
    have := congrArg (List.take (n * st)) h4
    rw [List.take_take, Nat.min_eq_left (Nat.mul_le_mul_right _ (Nat.le_add_right n k))] at this
    rw [this, List.take_append_of_le_length (by omega), List.take_of_length_le (by omega)]
theorem own_form {x : World} {B : Nat} {e : TypeId} {st : Nat} {v : Value} {n : Nat} {xs : List Value} (h : x.ownsRow B e st v n xs) : ∃ ao cap, v = .slice ao n cap ∧ (0 < n → ∃ g, ao = some ⟨g, 0, none⟩) := by
  rcases h.2 with ⟨rfl, rfl⟩ | ⟨g, cap, cur, rfl, _⟩
  · exact ⟨none, 0, rfl, fun h => absurd h (by decide)⟩
  · exact ⟨_, cap, rfl, fun _ => ⟨g, rfl⟩⟩
theorem own_cell {x : World} {B : Nat} {e : TypeId} {st : Nat} {g n cap : Nat} {xs : List Value} (h : x.ownsRow B e st (.slice (some ⟨g, 0, none⟩) n cap) n xs) {j : Nat} {u : Value} (hj : xs[j]? = some u) : x.cell? ⟨g, j, none⟩ = some u := by
  have := h.cells (g := g) rfl j u hj
  rwa [Addr.add_mid, Nat.zero_add] at this
end Go.Proofs.YtdfnbcbnmiohnaaGreatDoor
namespace Go.Proofs.YtdfnbcbnmiohnaaGreatDoor
open Go.RowKit
/-- One round whose body runs off its end. -/
theorem yield_of {F : Fence} {n : Nat} {P : Program} {l : Nat} {r : Loop} {args : Array Value} {W : World} {R : Ending → World → Prop} (hF : F.fn r.fn) (hl : W.heap[l]? = some (.loop r)) (hst : r.state = .ready) (hp : r.pending = none) (hs : args.size = r.params.size)
    (h : r.assign.wpIn (F.inRound l) n P (Exit.then (fun a₁ w₁ => w₁.heap[l]? = some (.loop r) ∧ r.body.wpIn (F.inRound l) n P (fun e _ w₃ => e = .normal ∧ w₃.heap[l]? = some (.loop { r with state := .busy }) ∧ R (.returned (.bool true)) (w₃.putObj l (.loop r))) a₁ (w₁.putObj l (.loop { r with state := .busy }))) (fun _ _ _ => False))
      { tmps := (r.params.zip args).foldl (fun t (p, v) => t.setIfInBounds p v) r.tmps, defers := [] } W) : YieldAt F n P l args W R := by
  have hrr : ({ ({ r with state := .busy } : Loop) with state := .ready, pending := none } : Loop) = r := by
    cases r
    simp only at hst hp
    subst hst hp
    rfl
  refine ⟨r.fn, _, r.assign, r.body, run_yield hl hs, roundIn_of_wpIn hF (wpIn_mono h ?_)⟩
  rintro e a1 w1 hq
  cases e with
  | normal =>
    obtain ⟨h1, hb⟩ := hq
    refine ⟨_, run_beginRound h1 hst, wpIn_mono hb ?_⟩
    rintro e2 a3 w3 ⟨rfl, h3, hR⟩
    have he := run_endRound (P := P) none h3
    simp only [Option.isNone_none, if_true] at he
    rw [hrr] at he
    exact ⟨_, _, he, hR⟩
  | exit id => exact hq.elim
  | goto t => exact hq.elim
  | ret => exact hq.elim
  | panic c => exact hq.elim
  | outgrown => exact hq.elim
/-- The record of a loop that begins. -/
def recOf (fn : FuncId) (tmps : Array Value) (ps : Array Tmp) (assign body : Code) (D : Nat) : Loop := { state := .ready, pending := none, fn := fn, tmps := tmps, params := ps, assign := assign, body := body, defers := D }

theorem range_out {F : Fence} {n : Nat} {P : Program} {g : Operand} {ps : Array Tmp} {assign body : Code} {Q : Exit → Act → World → Prop} {a : Act} {w : World} (hro : F.round = none) (hd : F.depth = none) {gf : Nat} {lb : Array Value} (hg : a.eval g = .func (.func gf) #[] lb) (hF : F.fn gf) (eg : ∀ args w, (callFunc gf args).run P w = .ok (.enter gf args) w)
    (h : ∀ fn, F.fn fn → CallsIn F (n - 1) P gf (#[.func (.yield (w.heap.size + 1)) #[] #[]] ++ lb) ((w.alloc (.deferred (some []))).alloc (.loop (recOf fn a.tmps ps assign body w.heap.size))) fun e W2 => (∃ v, e = .returned v) ∧ W2.heap[w.heap.size + 1]? = some (.loop (recOf fn a.tmps ps assign body w.heap.size)) ∧
      Q .normal { a with defers := { target := .collected w.heap.size, args := #[] } :: a.defers } (W2.putObj (w.heap.size + 1) (.loop { recOf fn a.tmps ps assign body w.heap.size with state := .exhausted }))) :
    (Code.rangeFunc g ps assign body).wpIn F n P Q a w := by
  refine wpIn_rangeFunc ?_
  intro fn hfn
  rw [hro]
  have hh := h fn hfn
  obtain ⟨W1, hW1⟩ : ∃ W1, (w.alloc (.deferred (some []))).alloc (.loop (recOf fn a.tmps ps assign body w.heap.size)) = W1 := ⟨_, rfl⟩
  rw [hW1] at hh
  refine ⟨w.heap.size + 1, [{ target := .collected w.heap.size, args := #[] }], W1, { target := .fn (.func gf) lb, args := #[.func (.yield (w.heap.size + 1)) #[] #[]] }, W1, gf,
    #[.func (.yield (w.heap.size + 1)) #[] #[]] ++ lb, W1, ?_, ?_, ?_, ?_, ?_, ?_⟩
  · rw [← hW1]; exact run_enterLoop_outer _ _ _ _ _
  · simp only [resolve, hg]
    simp [go_sem]
  · intro f' hf'; simp [Target.leads] at hf'; subst hf'; exact hF
  · simp [invoke, go_sem, eg]
  · intro hh; rw [hd] at hh; cases hh
  · refine CallsIn.mono hh ?_
    rintro e W2 ⟨⟨v, rfl⟩, hl, hq⟩
    exact ⟨none, _, run_endLoop hl (by simp [recOf]), hq⟩

/-- An object at a block. -/
def Ob (W : World) (k : Nat) (o : Obj) : Prop := W.heap[k]? = some o
theorem Ob.lt {W : World} {k : Nat} {o : Obj} (h : Ob W k o) : k < W.heap.size := (Array.getElem?_eq_some_iff.1 h).1
theorem Ob.on {W W' : World} {k : Nat} {o : Obj} (h : Ob W k o) (hb : Below W.heap.size W W') : Ob W' k o := (hb.block k h.lt).trans h
theorem Ob.but {W W' : World} {k : Nat} {o : Obj} {G : List Nat} (h : Ob W k o) (hb : ButL G W W') (hk : k ∉ G) : Ob W' k o := (hb.block k h.lt hk).trans h
def box (v : Value) (t : TypeId) : Obj := .cells #[v] t (0, 0)
theorem Ob.cell {W : World} {k : Nat} {v : Value} {t : TypeId} (h : Ob W k (box v t)) : W.cell? ⟨k, 0, none⟩ = some v := by
  rw [cell_of_row W k 0 _ t (0, 0) h]; rfl
theorem Ob.free {W : World} {k : Nat} {v : Value} {t : TypeId} (h : Ob W k (box v t)) : W.frozen? ⟨k, 0, none⟩ = false := frozen_of_row W k 0 _ t h
theorem putObj_but (W : World) (k : Nat) (o : Obj) : ButL [k] W (W.putObj k o) :=
  ⟨rfl, rfl, rfl, by simp [World.putObj], fun j _ hj => World.putObj_heap_other (by rw [List.mem_singleton] at hj; exact hj)⟩
theorem Ob.put {W : World} {k : Nat} {o : Obj} (h : Ob W k o) (o' : Obj) : Ob (W.putObj k o') k o' := World.putObj_heap_same h.lt
theorem Ob.ne {W : World} {j k : Nat} {o o' : Obj} (h : Ob W j o) (h' : Ob W k o') (hn : o.isCells ≠ o'.isCells) : j ≠ k := by
  rintro rfl
  unfold Ob at h h'
  rw [h] at h'
  cases h'
  exact hn rfl
/-- A block that is no row of cells is none of a database's. -/
theorem DB.ob {W : World} {p : Dp} {d : DS} (h : DB W p d) {k : Nat} {o : Obj} (ho : Ob W k o) (hn : o.isCells = false) : k ∉ p.all := by
  intro hk
  have hc : ∃ cs t, Cel W k t cs := by
    simp only [Dp.all, Fp.all, List.mem_cons] at hk
    rcases hk with rfl | rfl | rfl | rfl | rfl | hk
    · exact ⟨_, _, h.cel⟩
    · exact ⟨_, _, h.wds⟩
    · exact ⟨_, _, h.mem.cel⟩
    · exact ⟨_, _, h.mem.sec⟩
    · exact ⟨_, _, h.mem.ins⟩
    · obtain ⟨i, hi, rfl⟩ := List.mem_iff_getElem.1 hk
      have hi' : i < d.m.P.length := by rw [← h.mem.len]; exact hi
      have := h.mem.pg i hi'
      unfold Fp.b at this
      rw [List.getD_eq_getElem?_getD, List.getElem?_eq_getElem hi] at this
      exact ⟨_, _, this⟩
  obtain ⟨cs, t, hc⟩ := hc
  unfold Cel at hc
  rw [show W.heap[k]? = some o from ho] at hc
  cases hc
  cases hn
def busyOf (r : Loop) : Loop := { r with state := .busy }
theorem yield_b {n l : Nat} {r : Loop} {args : Array Value} {W : World} {R : Ending → World → Prop} (hl : Ob W l (.loop r)) (hst : r.state = .ready) (hp : r.pending = none) (hs : args.size = r.params.size)
    (h : r.assign.wpIn (Fence.wide.inRound l) n Tryz.prog (Exit.then (fun a₁ w₁ => Ob w₁ l (.loop r) ∧ r.body.wpIn (Fence.wide.inRound l) n Tryz.prog (fun e _ w₃ => e = .normal ∧ Ob w₃ l (.loop (busyOf r)) ∧ R (.returned (.bool true)) (w₃.putObj l (.loop r))) a₁ (w₁.putObj l (.loop (busyOf r)))) (fun _ _ _ => False))
      { tmps := (r.params.zip args).foldl (fun t (p, v) => t.setIfInBounds p v) r.tmps, defers := [] } W) : YieldAt .wide n Tryz.prog l args W R := yield_of trivial hl hst hp hs h
end Go.Proofs.YtdfnbcbnmiohnaaGreatDoor
namespace Go.Proofs.YtdfnbcbnmiohnaaGreatDoor
open Go.RowKit
set_option maxHeartbeats 2000000
set_option maxRecDepth 100000
def cntN (f : Nat → Bool) : Nat → Nat
  | 0 => 0
  | k + 1 => cntN f k + (if f k = true then 1 else 0)
def lstN (f : Nat → Bool) : Nat → List Nat
  | 0 => []
  | k + 1 => lstN f k ++ (if f k = true then [k] else [])
def isF (x : En) : Bool := x.t == 0
def isO (s : Int) (k : Int) (x : En) : Bool := k != s && (x.o == s && x.t != 0)
def DS.free (d : DS) : Nat := cntN (fun k => isF (d.at k)) d.m.ns
def DS.owned (d : DS) (s : Int) : List Nat := if (d.ent s).t = 1 then lstN (fun k => isO s (k : Int) (d.at k)) d.m.ns else []
theorem isFree_any (W : World) (k : Int) (x : En) : Calls Tryz.prog 73 #[.int .i64 k, x.v] W fun e W' => e = .returned (.bool (isF x)) ∧ Below W.heap.size W W' := by
  have HC := hid (Cel.new W 30 x.cs)
  have HB := hid (below_one W (.cells x.cs.toArray 30))
  obtain ⟨t, o, r, s, e⟩ := x
  simp only [En.v, En.cs, isF] at *
  go_enter Tryz.func73, Tryz.ntmps73
  go_upto_region 1 with fail
  generalize W.alloc _ = X at *
  have c0 := HC.out.cell 0
  simp only [List.getElem?_cons_zero] at c0
  go_wp2_with fail
  go_ret
  exact ⟨rfl, HB.out⟩
theorem isOf_any (W : World) (s : Int) : Calls Tryz.prog 95 #[.int .i64 s] W fun e W' => ∃ bs, e = .returned (.func (.func 136) #[] #[.pointer (some ⟨bs, 0, none⟩)]) ∧ Ob W' bs (box (.int .i64 s) 3) ∧ W.heap.size ≤ bs ∧ Below W.heap.size W W' := by
  have H : Hid (Ob (W.alloc (.cells #[.int .i64 s] 3)) W.heap.size (box (.int .i64 s) 3)) := hid (heap_alloc_new _ _)
  go_enter Tryz.func95, Tryz.ntmps95
  go_wp2_with fail
  go_ret
  exact ⟨_, rfl, H.out, Nat.le_refl _, below_one _ _⟩
theorem isOf1_any (W : World) (k : Int) (x : En) (bs : Nat) (s : Int) (hs : Ob W bs (box (.int .i64 s) 3)) : Calls Tryz.prog 136 #[.int .i64 k, x.v, .pointer (some ⟨bs, 0, none⟩)] W fun e W' => e = .returned (.bool (isO s k x)) ∧ Below W.heap.size W W' := by
  have HC := hid (Cel.new W 30 x.cs)
  have HB := hid (below_one W (.cells x.cs.toArray 30))
  have cs := (hs.on HB.out).cell
  clear hs
  obtain ⟨t, o, r, st, e⟩ := x
  simp only [En.v, En.cs, isO] at *
  generalize hR : (k != s && (o == s && t != 0)) = R
  have HR := hid hR
  clear hR
  by_cases h1 : k = s
  · subst h1
    have e1 : R = false := by rw [← HR.out]; simp
    subst e1
    clear HR
    go_enter Tryz.func136, Tryz.ntmps136
    go_upto_region 1 with fail
    generalize W.alloc _ = X at *
    go_wp2_with fail
    go_ret
    exact ⟨rfl, HB.out⟩
  · have h1' : (k != s) = true := by simpa using h1
    by_cases h2 : o = s
    · subst h2
      by_cases h3 : t = 0
      · subst h3
        have e1 : R = false := by rw [← HR.out]; simp
        subst e1
        clear HR h1
        go_enter Tryz.func136, Tryz.ntmps136
        go_upto_region 1 with fail
        generalize W.alloc _ = X at *
        have c0 := HC.out.cell 0
        have c1 := HC.out.cell 1
        simp only [List.getElem?_cons_zero, List.getElem?_cons_succ] at c0 c1
        go_wp2_with fail
        go_ret
        exact ⟨rfl, HB.out⟩
      · have e1 : R = true := by rw [← HR.out]; simp [h1, h3]
        have h3' : (t != 0) = true := by simpa using h3
        subst e1
        clear HR h1 h3
        go_enter Tryz.func136, Tryz.ntmps136
        go_upto_region 1 with fail
        generalize W.alloc _ = X at *
        have c0 := HC.out.cell 0
        have c1 := HC.out.cell 1
        simp only [List.getElem?_cons_zero, List.getElem?_cons_succ] at c0 c1
        go_wp2_with fail
        go_ret
        exact ⟨rfl, HB.out⟩
    · have e1 : R = false := by rw [← HR.out]; simp [h2]
      have h2' : (o == s) = false := by simpa using h2
      subst e1
      clear HR h1 h2
      go_enter Tryz.func136, Tryz.ntmps136
      go_upto_region 1 with fail
      generalize W.alloc _ = X at *
      have c0 := HC.out.cell 0
      have c1 := HC.out.cell 1
      simp only [List.getElem?_cons_zero, List.getElem?_cons_succ] at c0 c1
      go_wp2_with fail
      go_ret
      exact ⟨rfl, HB.out⟩
theorem pagesf_any (W : World) (g : Nat) (fv : Nat) (cap : Array Value) : Calls Tryz.prog 72 #[.pointer (some ⟨g, 0, none⟩), .func (.func fv) #[] cap] W fun x W' => ∃ bd bs, x = .returned (.func (.func 118) #[] #[.pointer (some ⟨bd, 0, none⟩), .pointer (some ⟨bs, 0, none⟩)]) ∧ Ob W' bd (box (.pointer (some ⟨g, 0, none⟩)) 23) ∧ Ob W' bs (box (.func (.func fv) #[] cap) 136) ∧ W.heap.size ≤ bd ∧ W.heap.size ≤ bs ∧ Below W.heap.size W W' := by
  have h1 : Ob (W.alloc (.cells #[.pointer (some ⟨g, 0, none⟩)] 23)) W.heap.size (box (.pointer (some ⟨g, 0, none⟩)) 23) := heap_alloc_new _ _
  have h2 := heap_alloc_new (W.alloc (.cells #[.pointer (some ⟨g, 0, none⟩)] 23)) (.cells #[.func (.func fv) #[] cap] 136)
  rw [World.size_alloc] at h2
  have H := hid (And.intro (h1.on (below_one _ (.cells #[.func (.func fv) #[] cap] 136))) h2)
  clear h1 h2
  go_enter Tryz.func72, Tryz.ntmps72
  go_wp2_with fail
  go_ret
  exact ⟨_, _, rfl, H.out.1, H.out.2, Nat.le_refl _, Nat.le_succ _, below_on (below_one _ _) (below_one _ _)⟩
end Go.Proofs.YtdfnbcbnmiohnaaGreatDoor
