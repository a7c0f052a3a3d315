import Derived.Test.YtbpdmkohihgnjaaGreatDoorP43
import Derived.Laws.CopyRow
namespace Go.Proofs.YtbpdmkohihgnjaaGreatDoor
open Go.RowKit
set_option maxHeartbeats 4000000
set_option maxRecDepth 100000
theorem run_copy_st {P : Program} (w : World) (dT sT ty elem : TypeId) (g dLen dCap : Nat) (a : Addr) (sLen sCap : Nat) (cur : Array Value) (t : TypeId) (cs : List Value) (st m : Nat)
    (hu : P.underlying dT = some (.slice elem)) (hs : (P.info? elem).map (·.size) = some st) (hg : w.heap[g]? = some (.cells cur t (0, 0))) (hm : Nat.min sLen dLen = m) (hn : cs.length = m * st)
    (hsrc : ∀ j v, cs[j]? = some v → w.cell? (a.add j) = some v) (hfit : cs.length ≤ cur.size) (h1 : ∀ v ∈ cs, v.oneCell' = true) :
    (Builtin.copy_ #[dT, sT] ty #[.slice (some ⟨g, 0, none⟩) dLen dCap, .slice (some a) sLen sCap]).run P w = .ok (goInt m) (w.setRow g (cs ++ cur.toList.drop cs.length).toArray) := by
  have hl := run_loadCells_list (P := P) w a cs hsrc
  have hst := run_storeCells_at P g 0 t cs 0 cur w hg (by simpa using hfit) h1
  simp only [Nat.zero_add, List.take_zero, List.nil_append] at hst
  cases hq : P.info? elem with
  | none => simp [hq] at hs
  | some i =>
    have hi : i.size = st := by simpa [hq] using hs
    rw [hn] at hl
    simp [Builtin.copy_, run_underlying hu, Builtin.lenOf, Builtin.firstCells, sizeOf, typeInfo, hq, hi, hm, hl, hst]
theorem run_copy_zero {P : Program} (w : World) (dT sT ty elem : TypeId) (d a : Option Addr) (dLen dCap sLen sCap st : Nat) (hu : P.underlying dT = some (.slice elem)) (hs : (P.info? elem).map (·.size) = some st) (hn : Nat.min sLen dLen = 0) :
    (Builtin.copy_ #[dT, sT] ty #[.slice d dLen dCap, .slice a sLen sCap]).run P w = .ok (goInt 0) w := by
  cases hq : P.info? elem with
  | none => simp [hq] at hs
  | some i =>
    have hl : ∀ (x : Addr), (loadCells x 0).run P w = .ok #[] w := fun x => by simpa using run_loadCells_list (P := P) w x [] (by simp)
    cases d <;> cases a <;> simp [Builtin.copy_, run_underlying hu, Builtin.lenOf, Builtin.firstCells, sizeOf, typeInfo, hq, hn, storeCells, hl]
theorem wpList_copy_q {w w' : World} {ops : Array Oper} {rest : List Oper} {o : Oper} {a : Act} {Q : Exit → Act → World → Prop} (hgd : o.guard = none) (s x : Operand) {t1 t2 : TypeId} (ho : o.op = .call { callee := .builtin .copy, args := #[s, x], argTypes := #[t1, t2] }) (v : Value) (hs : a.eval s = v) (vx : Value) (hx : a.eval x = vx) {v' : Value}
    (hr : (Builtin.copy_ #[t1, t2] o.type #[v, vx]).run Tryz.prog w = .ok v' w') (h : wpList Tryz.prog ops Q rest (a.put o.dst v') w') : wpList Tryz.prog ops Q (o :: rest) a w := by
  refine wpList_plain hgd fun K hK => ?_
  unfold Oper.wp execOp
  simp only [ho, resolve, invoke, builtin, Sem.run_bind, Sem.run_pure, Result.andThen_ok, List.map_toArray, List.map_cons, List.map_nil, hs, hx, hr]
  exact hK _ _ h
theorem wpList_copy_rules {w : World} {ops : Array Oper} {rest : List Oper} {o : Oper} {a : Act} {Q : Exit → Act → World → Prop} (hgd : o.guard = none) (s x : Operand) (ho : o.op = .call { callee := .builtin .copy, args := #[s, x], argTypes := #[22, 22] }) {B gq n N cq co : Nat} {ao : Option Addr} (hs : a.eval s = .slice (some ⟨gq, 0, none⟩) N cq) (hx : a.eval x = .slice ao n co)
    {xs ys cs : List Value} (hN : n ≤ N) (hown : w.ownsRow B 63 10 (.slice (some ⟨gq, 0, none⟩) N cq) N (xs ++ ys)) (hxl : xs.length = n * 10) (hcl : cs.length = n * 10) (hsrc : Y.Lie w ao cs) (h1 : ∀ v ∈ cs, v.oneCell' = true)
    (h : ∀ w' v, w'.ownsRow B 63 10 (.slice (some ⟨gq, 0, none⟩) N cq) N (cs ++ ys) → But gq w w' → wpList Tryz.prog ops Q rest (a.put o.dst v) w') : wpList Tryz.prog ops Q (o :: rest) a w := by
  rcases Nat.eq_zero_or_pos n with h0 | hp
  · subst h0
    have e1 : xs = [] := List.eq_nil_of_length_eq_zero (by omega)
    have e2 : cs = [] := List.eq_nil_of_length_eq_zero (by omega)
    subst e1; subst e2
    exact wpList_copy_q hgd s x ho _ hs _ hx (run_copy_zero w 22 22 o.type 63 _ _ _ _ _ _ 10 Tryz.underlying22 size42 (by simp)) (h w _ hown (Below.but (Below.refl _ _)))
  · rcases hsrc with h0 | ⟨b, off, rfl, hcell⟩
    · rw [h0] at hcl; simp at hcl; omega
    · rcases hown.2 with ⟨hv, _⟩ | ⟨g', cap, cur, hv, hB, hg, k1, k2, k3, k4⟩
      · cases hv
      · cases hv
        have hcur : cs.length ≤ cur.size := by rw [k3, hcl]; exact Nat.mul_le_mul_right 10 (Nat.le_trans hN k1)
        have hmin : Nat.min n N = n := Nat.min_eq_left hN
        have hrun := run_copy_st (P := Tryz.prog) w 22 22 o.type 63 gq N cq ⟨b, off, none⟩ n co cur 63 cs 10 n Tryz.underlying22 size42 hg hmin hcl (fun j v hv => by rw [show (⟨b, off, none⟩ : Addr).add j = ⟨b, off + j, none⟩ from Y.addr_add b off j]; exact hcell j v hv) hcur h1
        refine wpList_copy_q hgd s x ho _ hs _ hx hrun (h _ _ ?_ (but_setRow _ _ _))
        have hlt : gq < w.heap.size := (Array.getElem?_eq_some_iff.1 hg).1
        refine ⟨by rw [List.length_append, hcl, ← hxl, ← List.length_append]; exact hown.1, .inr ⟨gq, cq, _, rfl, hB, setRow_heap _ gq _ _ 63 _ hg, k1, k2, ?_, ?_⟩⟩
        · simp only [List.size_toArray, List.length_append, List.length_drop, Array.length_toList]
          omega
        · have hcurl : cur.toList.length = cq * 10 := by rw [Array.length_toList]; exact k3
          have hys : ys.length = N * 10 - n * 10 := by
            have := hown.1
            rw [List.length_append, hxl] at this
            omega
          have e : (cur.toList.drop cs.length).take (N * 10 - n * 10) = ys := by
            have h3 : List.drop (n * 10) (xs ++ ys) = ys := by rw [← hxl]; exact List.drop_left
            rw [← k4, List.drop_take] at h3
            rw [hcl]
            exact h3
          show (cs ++ cur.toList.drop cs.length).take (N * 10) = cs ++ ys
          rw [List.take_append, List.take_of_length_le (by rw [hcl]; exact Nat.mul_le_mul_right 10 hN), hcl, ← hcl, hcl, ← e, hcl]
end Go.Proofs.YtbpdmkohihgnjaaGreatDoor
namespace Go.Proofs.YtbpdmkohihgnjaaGreatDoor
open Go.RowKit
set_option maxHeartbeats 4000000
set_option maxRecDepth 100000
theorem xor_one (x : Int) (h0 : 0 ≤ x) (h1 : x < 4294967296) : 0 ≤ bits .xor .u32 x 1 ∧ bits .xor .u32 x 1 < 4294967296 := by
  obtain ⟨k, rfl⟩ : ∃ k : Nat, x = (k : Int) := ⟨x.toNat, by omega⟩
  have hk : k < 4294967296 := by omega
  have e : bits .xor .u32 (k : Int) 1 = ((k ^^^ 1 : Nat) : Int) := u32_xor_nat k 1 (by omega) (by omega)
  have hlt : k ^^^ 1 < 2 ^ 32 := Nat.xor_lt_two_pow (by omega) (by decide)
  rw [e]
  omega
theorem flR_ok {R : List Rl} (h : ∀ r ∈ R, r.Ok) : ∀ r ∈ flR R, r.Ok := by
  cases R with
  | nil => exact h
  | cons x R =>
    intro r hr
    rcases List.mem_cons.1 hr with rfl | hr
    · have hx := h x List.mem_cons_self
      refine ⟨by show (x.ms.set 7 _).length = 8; rw [List.length_set]; exact hx.ml, fun i => ?_, hx.nl⟩
      show 0 ≤ (x.ms.set 7 _).getD i 0 ∧ (x.ms.set 7 _).getD i 0 < 4294967296
      rw [List.getD_eq_getElem?_getD, List.getElem?_set]
      by_cases hi : 7 = i
      · rw [if_pos hi, if_pos (by rw [hx.ml]; decide)]
        exact xor_one _ (hx.mw 7).1 (hx.mw 7).2
      · rw [if_neg hi, ← List.getD_eq_getElem?_getD]
        exact hx.mw i
    · exact h r (List.mem_cons_of_mem _ hr)
structure JA (W : World) (gq cq g5 : Nat) (ap : Option Addr) (n cp : Nat) (ot oq : Bool) (R : List Rl) (C : List Value) (w : World) : Prop where
  bl : Below W.heap.size W w
  p2 : Cel w W.heap.size 24 [.slice ap n cp, .bool ot]
  c3 : Cel w (W.heap.size + 1) 30 C
  q5 : Cel w g5 24 [.slice (some ⟨gq, 0, none⟩) (n + 120) cq, .bool oq]
  h5 : W.heap.size + 1 < g5
  row : w.ownsRow W.heap.size 63 10 (.slice (some ⟨gq, 0, none⟩) (n + 120) cq) (n + 120) (rcs (R ++ List.replicate 120 spR))
theorem JA.on {W : World} {gq cq g5 : Nat} {ap : Option Addr} {n cp : Nat} {ot oq : Bool} {R : List Rl} {C : List Value} {w w' : World} (h : JA W gq cq g5 ap n cp ot oq R C w) (hb : Below w.heap.size w w') : JA W gq cq g5 ap n cp ot oq R C w' :=
  ⟨below_on h.bl hb, h.p2.on hb, h.c3.on hb, h.q5.on hb, h.h5, L.own_below h.row hb⟩
structure JB (W : World) (gq cq g5 g6 : Nat) (ap : Option Addr) (n cp : Nat) (ao : Option Addr) (co : Nat) (ot oq : Bool) (R R2 : List Rl) (C : List Value) (w : World) : Prop where
  a : JA W gq cq g5 ap n cp ot oq R C w
  o6 : Cel w g6 24 [.slice ao n co, .bool (!ot)]
  ne : g5 ≠ g6
  row : w.ownsRow W.heap.size 63 10 (.slice ao n co) n (rcs R2)
  ap' : (Value.slice ao n co).ownBlock ≠ some gq
theorem JB.on {W : World} {gq cq g5 g6 : Nat} {ap : Option Addr} {n cp : Nat} {ao : Option Addr} {co : Nat} {ot oq : Bool} {R R2 : List Rl} {C : List Value} {w w' : World} (h : JB W gq cq g5 g6 ap n cp ao co ot oq R R2 C w) (hb : Below w.heap.size w w') : JB W gq cq g5 g6 ap n cp ao co ot oq R R2 C w' :=
  ⟨h.a.on hb, h.o6.on hb, h.ne, L.own_below h.row hb, h.ap'⟩
theorem JB.copy {W : World} {gq cq g5 g6 : Nat} {ap : Option Addr} {n cp : Nat} {ao : Option Addr} {co : Nat} {ot oq : Bool} {R R2 : List Rl} {C : List Value} {w w' : World} (h : JB W gq cq g5 g6 ap n cp ao co ot oq R R2 C w) (ho : w'.ownsRow W.heap.size 63 10 (.slice (some ⟨gq, 0, none⟩) (n + 120) cq) (n + 120) (rcs R2 ++ rcs (List.replicate 120 spR))) (hb : But gq w w') : JB W gq cq g5 g6 ap n cp ao co ot oq R2 R2 C w' :=
  have hB : W.heap.size ≤ gq := (h.a.row.lt gq rfl).1
  ⟨⟨h.a.bl.trans (hb.below hB h.a.bl.size), h.a.p2.but hb (fun e => own_ap h.a.row h.a.p2 (by decide) (by rw [e]; rfl)), h.a.c3.but hb (fun e => own_ap h.a.row h.a.c3 (by decide) (by rw [e]; rfl)), h.a.q5.but hb (fun e => own_ap h.a.row h.a.q5 (by decide) (by rw [e]; rfl)), h.a.h5, by rw [rcs_app]; exact ho⟩,
    h.o6.but hb (fun e => own_ap h.a.row h.o6 (by decide) (by rw [e]; rfl)), h.ne, own_but h.row hb h.ap', h.ap'⟩
theorem JB.put {W : World} {gq cq g5 g6 : Nat} {ap : Option Addr} {n cp : Nat} {ao : Option Addr} {co : Nat} {ot oq : Bool} {R R2 : List Rl} {C : List Value} {w : World} (h : JB W gq cq g5 g6 ap n cp ao co ot oq R R2 C w) (b : Bool) : JB W gq cq g5 g6 ap n cp ao co ot b R R2 C (w.setCell ⟨g5, 1, none⟩ (.bool b)) :=
  have h5 := h.a.h5
  ⟨⟨Below.put h.a.bl (by omega) 1 _, h.a.p2.setO (by omega) 1 _, h.a.c3.setO (by omega) 1 _, h.a.q5.setC 1 _, h.a.h5, own_setO h.a.row (own_ap h.a.row h.a.q5 (by decide)) 1 _⟩, h.o6.setO (Ne.symm h.ne) 1 _, h.ne, own_setO h.row (own_ap h.row h.a.q5 (by decide)) 1 _, h.ap'⟩
def zpo : Obj := .cells #[.slice none 0 0, .bool false] 24
attribute [-simp] Tryz.isAgg24 Tryz.zeroValue24 Tryz.isAgg30 Tryz.zeroValue30
theorem judgedP_any (W : World) (E : Nat → Addr) (hE : ErrS W E) (hT : Tabs W) (hR : TR W) (ap : Option Addr) (n cp : Nat) (ot : Bool) (R : List Rl) (s o m d t : List Int) (ri sa : Bool) (hs : s.length = 8) (ho : o.length = 8) (hm : m.length = 8) (hd : d.length = 8) (ht : t.length = 8) (ws : Wds s) (wo : Wds o) (wm : Wds m) (wd : Wds d) (wt : Wds t)
    (hn : R.length = n) (h2 : RulesAt W ap R) (ok : ∀ r ∈ R, r.Ok) (hmax : n ≤ 2000000) :
    Calls Tryz.prog 11 #[.agg #[.slice ap n cp, .bool ot], .agg (claC s o (quoL m d t) ri sa).toArray] W fun e W' => e = .returned (.bool true) ∧ Below W.heap.size W W' := by
  have hz24 : ∀ w, (zeroValue 24).run Tryz.prog w = .ok (.agg #[.slice none 0 0, .bool false]) w := fun w => by rw [Tryz.zeroValue24]
  have ml : ∀ r ∈ R, r.ms.length = 8 := fun r hr => (ok r hr).ml
  have okF := flR_ok ok
  have hnF : (flR R).length = n := by rw [flR_len]; exact hn
  have mlF : ∀ r ∈ flR R, r.ms.length = 8 := fun r hr => (okF r hr).ml
  have hspl : ∀ r ∈ List.replicate 120 spR, r.ms.length = 8 := fun r hr => by rw [List.eq_of_mem_replicate hr]; rfl
  have hCl : (claC s o (quoL m d t) ri sa).length = 42 := claC_length hs ho (quoL_length hm hd ht)
  have HD : Hid (∀ (w : World) (gq cq : Nat) (ax : Option Addr) (cx : Nat) (ob : Bool) (Rx : List Rl), Below W.heap.size W w → Rx.length = n → (∀ r ∈ Rx, r.Ok) → RulesAt w ax Rx → w.ownsRow W.heap.size 63 10 (.slice (some ⟨gq, 0, none⟩) (n + 120) cq) (n + 120) (rcs (Rx ++ List.replicate 120 spR)) →
      Calls Tryz.prog 21 #[.agg #[.slice (some ⟨gq, 0, none⟩) (n + 120) cq, .bool ob], .agg #[.slice ax n cx, .bool ob], .agg (claC s o (quoL m d t) ri sa).toArray] w fun e W' => e = .returned (.bool true) ∧ Below w.heap.size w W') := hid (fun w gq cq ax cx ob Rx hb hl hok hra hrow =>
    decided_any w E (hE.on hb) (hT.on hb) (hR.on hb) gq cq ax n cx ob Rx s o m d t ri sa hs ho hm hd ht ws wo wm wd wt hl (Y.own_cap hrow) (own_rulesE (R := Rx ++ List.replicate 120 spR) (by rw [List.length_append, hl, List.length_replicate]; exact hrow) (fun r hr => by
      rcases List.mem_append.1 hr with hr | hr
      · exact (hok r hr).ml
      · exact hspl r hr)) hra hok hmax)
  obtain ⟨C, hC⟩ : ∃ C, C = claC s o (quoL m d t) ri sa := ⟨_, rfl⟩
  rw [← hC] at HD hCl ⊢
  have HLe := hid (fun (w : World) (h : Below W.heap.size W w) => lent_any w ap n cp ot R hn (h2.on h) ml hmax)
  have HTu := hid (fun (w : World) (h : Below W.heap.size W w) => turned_any w ap n cp ot R hn (h2.on h) ml hmax)
  have HR2 := hid h2
  have HOk := hid (And.intro hn ok)
  have HOkF := hid (And.intro hnF okF)
  have HLens : Hid ((rcs R).length = n * 10 ∧ (rcs (flR R)).length = n * 10) := hid ⟨by rw [rcs_len ml, hn], by rw [rcs_len mlF, hnF]⟩
  have HMF := hid mlF
  obtain ⟨X, hX⟩ : ∃ X, X = (W.alloc (Obj.cells #[.slice ap n cp, .bool ot] 24)).alloc (Obj.cells C.toArray 30) := ⟨_, rfl⟩
  have HX : Hid (Below W.heap.size W X ∧ Cel X W.heap.size 24 [.slice ap n cp, .bool ot] ∧ Cel X (W.heap.size + 1) 30 C ∧ X.heap.size = W.heap.size + 1 + 1) := hid (by
    refine ⟨by rw [hX]; exact below_on (below_one W _) (below_one _ _), ?_, ?_, by rw [hX]; simp⟩
    · rw [hX]; exact Cel.on (heap_alloc_new _ _) (below_one _ _)
    · rw [hX]; exact heap_alloc_new' (by simp) _)
  clear hE hT hR h2 ok ml okF hspl hC ws wo wm wd wt hs ho hm hd ht mlF hnF
  go_enter Tryz.func11, Tryz.ntmps11
  go_upto_region 1 with fail
  rw [← hX]
  clear hX
  go_upto_region 2 with (first | (refine wpList_load_mid rfl 24 _ rfl W.heap.size 0 rfl [.slice ap n cp, .bool ot] _ (cel_range HX.out.2.1) Tryz.underlying24 rfl size36 ?_) | (go_at_call 20; refine (HLe.out _ HX.out.1).mono ?_; rintro e w1 ⟨a1, cq, rfl, hrow, hb⟩; obtain ⟨gq, rfl⟩ := Y.own_some hrow (by omega); have H1 : Hid (Below W.heap.size W w1 ∧ Cel w1 W.heap.size 24 [.slice ap n cp, .bool ot] ∧ Cel w1 (W.heap.size + 1) 30 C ∧ W.heap.size + 1 < w1.heap.size ∧ w1.ownsRow W.heap.size 63 10 (.slice (some ⟨gq, 0, none⟩) (n + 120) cq) (n + 120) (rcs (R ++ List.replicate 120 spR))) := hid ⟨below_on HX.out.1 hb, HX.out.2.1.on hb, HX.out.2.2.1.on hb, by have h1 := hb.size; have h2 := HX.out.2.2.2; omega, L.own_mono hrow HX.out.1.size⟩; clear hrow hb HX) | (refine wpList_store_st rfl 24 _ _ rfl w1.heap.size [.slice (some ⟨gq, 0, none⟩) (n + 120) cq, .bool ot] rfl rfl (heap_alloc_new w1 zpo) size36 rfl rfl ?_; intro w2 hc hb hs; have Y2 : Hid (JA W gq cq w1.heap.size ap n cp ot ot R C w2) := hid ⟨below_on H1.out.1 (but_box hb), H1.out.2.1.on (but_box hb), H1.out.2.2.1.on (but_box hb), hc, H1.out.2.2.2.1, L.own_below H1.out.2.2.2.2 (but_box hb)⟩; clear hc hb hs H1))
  generalize w1.heap.size = g5 at *
  go_upto_region 4 with (first | (refine wpList_load_mid rfl 24 _ rfl g5 0 rfl [.slice (some ⟨gq, 0, none⟩) (n + 120) cq, .bool ot] _ (cel_range Y2.out.q5) Tryz.underlying24 rfl size36 ?_) | (refine wpList_load_mid rfl 24 _ rfl W.heap.size 0 rfl [.slice ap n cp, .bool ot] _ (cel_range Y2.out.p2) Tryz.underlying24 rfl size36 ?_) | (refine wpList_load_mid rfl 30 _ rfl (W.heap.size + 1) 0 rfl C _ (cel_range Y2.out.c3) Tryz.underlying30 rfl (by rw [hCl]; exact size40) ?_) | (go_at_call 21; refine (HD.out _ gq cq ap cp ot R Y2.out.bl HOk.out.1 HOk.out.2 (HR2.out.on Y2.out.bl) Y2.out.row).mono ?_; rintro e w3 ⟨rfl, hb⟩; have Y3 := hid (Y2.out.on hb); clear hb Y2))
  go_upto_region 5 with (first | (refine wpList_load_mid rfl 24 _ rfl W.heap.size 0 rfl [.slice ap n cp, .bool ot] _ (cel_range Y3.out.p2) Tryz.underlying24 rfl size36 ?_) | (go_at_call 12; refine (HTu.out _ Y3.out.bl).mono ?_; rintro e w4 ⟨ao, co, rfl, hrow, hb⟩; have Y4 : Hid (JA W gq cq g5 ap n cp ot ot R C w4 ∧ w4.ownsRow W.heap.size 63 10 (.slice ao n co) n (rcs (flR R)) ∧ (Value.slice ao n co).ownBlock ≠ some gq ∧ g5 < w4.heap.size) := hid ⟨Y3.out.on hb, L.own_mono hrow Y3.out.bl.size, fun e => by have h1 := (hrow.lt gq e).1; have h2 := (Y3.out.row.lt gq rfl).2; omega, by have h1 := Y3.out.q5.lt; have h2 := hb.size; omega⟩; clear hrow hb Y3) | (refine wpList_store_st rfl 24 _ _ rfl w4.heap.size [.slice ao n co, .bool (!ot)] rfl rfl (heap_alloc_new w4 zpo) size36 rfl rfl ?_; intro w5 hc hb hs; have Y5 : Hid (JB W gq cq g5 w4.heap.size ap n cp ao co ot ot R (flR R) C w5) := hid ⟨Y4.out.1.on (but_box hb), hc, Nat.ne_of_lt Y4.out.2.2.2, L.own_below Y4.out.2.1 (but_box hb), Y4.out.2.2.1⟩; clear hc hb hs Y4))
  generalize w4.heap.size = g6 at *
  have d0 : w5.cell? ⟨g5, 0, none⟩ = some (.slice (some ⟨gq, 0, none⟩) (n + 120) cq) := Y5.out.a.q5.cell 0
  have d1 : w5.cell? ⟨g6, 0, none⟩ = some (.slice ao n co) := Y5.out.o6.cell 0
  go_upto_region 6 with (first | (refine wpList_copy_rules (B := W.heap.size) (gq := gq) (n := n) (N := n + 120) (cq := cq) (co := co) (ao := ao) (xs := rcs R) (ys := rcs (List.replicate 120 spR)) (cs := rcs (flR R)) rfl (.tmp 17) (.tmp 19) rfl rfl rfl (by omega) (by have := Y5.out.a.row; rw [rcs_app] at this; exact this) HLens.out.1 HLens.out.2 (rules_lie (own_rulesE (by rw [HOkF.out.1]; exact Y5.out.row) HMF.out) HMF.out) (rcs_one (flR R)) ?_; intro w6 vv hrow hb; have Y6 := hid (Y5.out.copy hrow hb); clear hrow hb Y5 d0 d1))
  have e1 : w6.cell? ⟨g6, 1, none⟩ = some (.bool (!ot)) := Y6.out.o6.cell 1
  have e2 : w6.cell? ⟨g5, 1, none⟩ = some (.bool ot) := Y6.out.a.q5.cell 1
  have e3 := Y6.out.a.q5.free 1
  go_upto_region 7 with fail
  have Y7 := hid (Y6.out.put (!ot))
  clear Y6 e1 e2 e3
  generalize World.setCell _ _ _ = w7 at *
  go_wp2_with (first | (refine wpList_load_mid rfl 24 _ rfl g5 0 rfl [.slice (some ⟨gq, 0, none⟩) (n + 120) cq, .bool (!ot)] _ (cel_range Y7.out.a.q5) Tryz.underlying24 rfl size36 ?_) | (refine wpList_load_mid rfl 24 _ rfl g6 0 rfl [.slice ao n co, .bool (!ot)] _ (cel_range Y7.out.o6) Tryz.underlying24 rfl size36 ?_) | (refine wpList_load_mid rfl 30 _ rfl (W.heap.size + 1) 0 rfl C _ (cel_range Y7.out.a.c3) Tryz.underlying30 rfl (by rw [hCl]; exact size40) ?_) | (go_at_call 21; refine (HD.out _ gq cq ao co (!ot) (flR R) Y7.out.a.bl HOkF.out.1 HOkF.out.2 (own_rulesE (by rw [HOkF.out.1]; exact Y7.out.row) HMF.out) Y7.out.a.row).mono ?_; rintro e w8 ⟨rfl, hb⟩; have Y8 := hid (below_on Y7.out.a.bl hb); clear hb Y7))
  go_ret
  exact ⟨rfl, Y8.out⟩
end Go.Proofs.YtbpdmkohihgnjaaGreatDoor
