/- MeasureAll. -/
import Derived.Test.YtmomidkodjihjaaDoorNh
import Derived.Test.YtmomidkodjihjaaDoorMtNi
import Derived.Test.YtmomidkodjihjaaDoorMq
import Derived.Test.YtmomidkodjihjaaDoorMjMk
namespace Go.Proofs.YtmomidkodjihjaaDoor
open Go.RowKit
open H
set_option maxHeartbeats 8000000
set_option maxRecDepth 100000
attribute [-simp] Tryd.isAgg37 Tryd.sizeOf37 Tryd.zeroValue37 Tryd.isAgg44 Tryd.sizeOf44 Tryd.zeroValue44 Tryd.isAgg105 Tryd.sizeOf105 Tryd.zeroValue105 Tryd.isAgg69 Tryd.sizeOf69 Tryd.zeroValue69
/-- What is asked, as cells. -/
def asC (ao : Option Addr) (m d : Nat) (bo : Option Addr) (k f : Nat) (ti ta : Int) (wo : Option Addr) (n fw : Nat) (st : List Int) : List Value := .slice ao m d :: .slice bo k f :: .int .i64 ti :: .int .i64 ta :: .slice wo n fw :: st.map (Value.int .u32)
structure AS (W w : World) (cs : List Value) : Prop where
  below : Below W.heap.size W w
  q : Cel w W.heap.size 69 cs
theorem AS.on {W w w' : World} {cs : List Value} (h : AS W w cs) (hb : Below w.heap.size w w') : AS W w' cs := ⟨below_on h.below hb, h.q.on hb⟩
theorem AS.c {W w : World} {cs : List Value} (h : AS W w cs) {j : Nat} {v : Value} (hv : cs[j]? = some v) : w.cell? ⟨W.heap.size, j, none⟩ = some v := (h.q.cell j).trans hv
theorem numbers_any (W : World) : Calls Tryd.prog 31 #[] W fun e W' => e = .returned (.bool true) ∧ Below W.heap.size W W' := by
  go_enter Tryd.func31, Tryd.ntmps31
  go_wp2_with fail
  go_ret
  exact ⟨rfl, Below.refl _ _⟩
theorem wds_tl (k : Nat) (hk : k ≤ 600) : Wds (enc (tl k)) := by
  induction k with
  | zero => exact fun i => by simp [tl, enc]
  | succ k ih =>
    rw [tl_snoc, enc_app]
    refine wds_append (ih (by omega)) ?_
    have : enc [(⟨1, (k : Int), []⟩ : MOp)] = [1, (k : Int)] := by simp [enc, MOp.wds]
    rw [this]
    exact wds_cons (by omega) (by omega) (wds_cons (by omega) (by omega) (fun i => by simp))
theorem wds_own (times : Nat) (l : List Lv) (hl : ∀ x ∈ l, LvW x) (h : ∀ o ∈ ownA times l, o.Ok) : Wds (enc (ownA times l)) := by
  have gen : ∀ (p : List MOp), (∀ o ∈ p, o.Ok → Wds o.wds) → (∀ o ∈ p, o.Ok) → Wds (enc p) := by
    intro p
    induction p with
    | nil => exact fun _ _ i => by simp [enc]
    | cons o p ih =>
      intro h1 h2
      rw [enc_cons]
      exact wds_append (h1 o (by simp) (h2 o (by simp))) (ih (fun x hx => h1 x (by simp [hx])) (fun x hx => h2 x (by simp [hx])))
  refine gen _ ?_ h
  have mem : ∀ (l : List Lv) (acc : List MOp), (∀ x ∈ l, LvW x) → (∀ o ∈ acc, o.Ok → Wds o.wds) → ∀ o ∈ l.foldl (fun acc x => acc ++ List.replicate (min times (300 - acc.length)) (lop x)) acc, o.Ok → Wds o.wds := by
    intro l
    induction l with
    | nil => exact fun acc _ h => h
    | cons x l ih =>
      intro acc hx ha
      rw [List.foldl_cons]
      refine ih _ (fun y hy => hx y (by simp [hy])) (fun o ho hok => ?_)
      rw [List.mem_append] at ho
      rcases ho with ho | ho
      · exact ha o ho hok
      · rw [List.eq_of_mem_replicate ho] at hok ⊢
        exact wds_lop (hx x (by simp)) hok
  exact mem l [] hl (by simp)
theorem hr_ol {W w : World} {p : Option Addr} {n cp : Nat} {l : List Ov} (h : HR W w (.slice p n cp) l) : OL w p l := by
  obtain ⟨ao, c, e, _, h1⟩ := h.ol
  injection e with e1 e2 e3
  subst e1
  exact h1
theorem decV_len (ws : List Int) : (decV ws).1.length ≤ 262144 ∧ ∀ o ∈ (decV ws).1, List.length o.ws ≤ 1024 := by
  by_cases h : 262144 < ws.length
  · rw [decV_long h]; simp
  · by_cases h1 : ∃ l : List MOp, (∀ o ∈ l, o.Ok) ∧ enc l = ws
    · obtain ⟨l, h2, h3⟩ := h1
      rw [decV_yes (by omega) h2 h3]
      refine ⟨?_, fun o ho => ?_⟩
      · have := enc_two l
        rw [h3] at this
        show l.length ≤ 262144
        omega
      · obtain ⟨_, _, h4⟩ := h2 o ho
        rw [h4]
        unfold pgN
        split <;> omega
    · rw [decV_no (by omega) (fun l h2 h3 => h1 ⟨l, h2, h3⟩)]; simp
theorem run_append_w {w : World} (ty : TypeId) (wo : Option Addr) (n fw : Nat) (xs : List Int) (hx : xs.length = n) (hat : At w .u32 wo xs) (hb : n * 4 ≤ 140737488355328) :
    ∃ v' w', (Builtin.append_ #[22, 22] ty #[.slice none 0 0, .slice wo n fw]).run Tryd.prog w = .ok v' w' ∧ Holds w w' .u32 24 v' xs := by
  cases wo with
  | some ad => exact run_append_z ty ad n fw xs hx hat hb
  | none =>
    rcases hat with rfl | ⟨_, _, h, _⟩
    · subst hx
      refine ⟨.slice none 0 0, w, ?_, Holds.start w .u32 24⟩
      first
        | rfl
        | (go_simp; done)
        | (simp [Builtin.append_]; done)
    · cases h
theorem wpList_append_w {w w' : World} {ops : Array Oper} {rest : List Oper} {o : Oper} {a : Act} {Q : Exit → Act → World → Prop} (hgd : o.guard = none) (s x : Operand) (ho : o.op = .call { callee := .builtin .append, args := #[s, x], argTypes := #[22, 22] }) (v : Value) (hs : a.eval s = v) (vx : Value) (hx : a.eval x = vx) {v' : Value}
    (hr : (Builtin.append_ #[22, 22] o.type #[v, vx]).run Tryd.prog w = .ok v' w') (h : wpList Tryd.prog ops Q rest (a.put o.dst v') w') : wpList Tryd.prog ops Q (o :: rest) a w :=
  wpList_plain hgd fun _ hK => wp_append_g s x ho v hs vx hx hr (hK _ _ h)
/-- What stays: what is asked, and the two lists. -/
structure BS (W w : World) (cs : List Value) (pa : Option Addr) (la : List Ov) (pb : Option Addr) (lb : List Ov) : Prop where
  ask : AS W w cs
  a : OL w pa la
  b : OL w pb lb
theorem BS.on {W w w' : World} {cs : List Value} {pa : Option Addr} {la : List Ov} {pb : Option Addr} {lb : List Ov} (h : BS W w cs pa la pb lb) (hb : Below w.heap.size w w') : BS W w' cs pa la pb lb := ⟨h.ask.on hb, h.a.on hb, h.b.on hb⟩
/-- A pair of words. -/
structure PR (w : World) (g t : Nat) (p : Option Addr) (c : Nat) (q : Option Addr) (d N1 N2 : Nat) (C1 C2 : List Int) : Prop where
  cel : Cel w g t [.slice p N1 c, .slice q N2 d]
  x : At w .u32 p C1
  y : At w .u32 q C2
theorem PR.on {w w' : World} {g t : Nat} {p : Option Addr} {c : Nat} {q : Option Addr} {d N1 N2 : Nat} {C1 C2 : List Int} (h : PR w g t p c q d N1 N2 C1 C2) (hb : Below w.heap.size w w') : PR w' g t p c q d N1 N2 C1 C2 := ⟨h.cel.on hb, h.x.below hb, h.y.below hb⟩
theorem PR.f0 {w : World} {g t : Nat} {p : Option Addr} {c : Nat} {q : Option Addr} {d N1 N2 : Nat} {C1 C2 : List Int} (h : PR w g t p c q d N1 N2 C1 C2) : w.cell? ⟨g, 0, none⟩ = some (.slice p N1 c) := h.cel.cell 0
theorem PR.f1 {w : World} {g t : Nat} {p : Option Addr} {c : Nat} {q : Option Addr} {d N1 N2 : Nat} {C1 C2 : List Int} (h : PR w g t p c q d N1 N2 C1 C2) : w.cell? ⟨g, 1, none⟩ = some (.slice q N2 d) := h.cel.cell 1
theorem AS.r {W w : World} {cs L : List Value} (h : AS W w cs) (hd : cs.drop 5 = L) : w.rangeAt W.heap.size 5 L := fun i u hu => (h.q.cell (5 + i)).trans (by rw [← hd, List.getElem?_drop] at hu; exact hu)
theorem size81' : (Tryd.prog.info? 81).map (·.size) = some 2 := by kernel_rfl
theorem all_l (W : World) (hT : Tab W) (hR : TabR W) (h2 : 1 < W.heap.size) (ao : Option Addr) (m d : Nat) (l : List Lv) (hl : l.length = m) (hmd : m ≤ d) (hL : LL W ao l) (hlw : ∀ x ∈ l, LvW x) (hm : m * 56 ≤ 140737488355328)
    (bo : Option Addr) (k f : Nat) (l2 : List Lv) (hl2 : l2.length = k) (hkf : k ≤ f) (hL2 : LL W bo l2) (hlw2 : ∀ x ∈ l2, LvW x) (hk : k * 56 ≤ 140737488355328) (ti ta : Int)
    (wo : Option Addr) (n fw : Nat) (xs : List Int) (hx : xs.length = n) (hxf : n ≤ fw) (hxm : n * 4 ≤ 140737488355328) (wx : Wds xs) (hxa : At W .u32 wo xs) (st : List Int) (hst : st.length = 26) (wst : Wds st) :
    Calls Tryd.prog 7 #[.agg (asC ao m d bo k f ti ta wo n fw st).toArray] W fun e W' => e = .returned (.bool true) ∧ Below W.heap.size W W' := by
  obtain ⟨T, hTt⟩ : ∃ T : Nat, (T : Int) = 1 + wit ti 300 := ⟨(1 + wit ti 300).toNat, Int.toNat_of_nonneg (by have := wit_lo ti 300 (by decide); omega)⟩
  obtain ⟨U, hU⟩ : ∃ U : Nat, (U : Int) = 0 + wit ta 600 := ⟨(0 + wit ta 600).toNat, Int.toNat_of_nonneg (by have := wit_lo ta 600 (by decide); omega)⟩
  have hT3 : T ≤ 300 := by have := wit_hi ti 300 (by decide); omega
  have hU6 : U ≤ 600 := by have := wit_hi ta 600 (by decide); omega
  have HI1 := hid (fun w => within_any w ti 1 300 300 (by decide) (by decide) (by decide) (by decide))
  have HI2 := hid (fun w => within_any w ta 0 599 600 (by decide) (by decide) (by decide) (by decide))
  rw [← hTt] at HI1
  rw [← hU] at HI2
  obtain ⟨LA, hLA⟩ : ∃ LA, LA = ownA T l ++ tl U := ⟨_, rfl⟩
  have HLa : Hid (LA.length ≤ 900) := hid (by rw [hLA, List.length_append, tl_len]; have := ownA_len T l; omega)
  have HWa : Hid ((∀ o ∈ LA, o.Ok) → Wds (enc LA)) := hid (fun h => by rw [hLA, enc_app]; exact wds_append (wds_own T l hlw (fun o ho => h o (by rw [hLA]; exact List.mem_append_left _ ho))) (wds_tl U hU6))
  have HOa := hid (fun w (hw : Below W.heap.size W w) => own_any w ao m d l hl (hL.on hw) (by omega) T U hT3 hU6)
  have HDa := hid (fun w (hw : Below W.heap.size W w) => doc_any w ao m d l hl (hL.on hw) (by omega) T U hT3 hU6)
  rw [← hLA] at HOa HDa
  obtain ⟨LB, hLB⟩ : ∃ LB, LB = ownA 1 l2 ++ tl 0 := ⟨_, rfl⟩
  have HLb : Hid (LB.length ≤ 900) := hid (by rw [hLB, List.length_append, tl_len]; have := ownA_len 1 l2; omega)
  have HWb : Hid ((∀ o ∈ LB, o.Ok) → Wds (enc LB)) := hid (fun h => by rw [hLB, enc_app]; exact wds_append (wds_own 1 l2 hlw2 (fun o ho => h o (by rw [hLB]; exact List.mem_append_left _ ho))) (wds_tl 0 (by decide)))
  have HOb := hid (fun w (hw : Below W.heap.size W w) => own_any w bo k f l2 hl2 (hL2.on hw) (by omega) 1 0 (by decide) (by decide))
  have HDb := hid (fun w (hw : Below W.heap.size W w) => doc_any w bo k f l2 hl2 (hL2.on hw) (by omega) 1 0 (by decide) (by decide))
  rw [← hLB] at HOb HDb
  simp only [Int.cast_ofNat_Int] at HOb HDb
  have HP1 := hid (fun w (hw : Below W.heap.size W w) => pieces_any w (hT.below hw h2) (tabR_below hR hw h2) (by have := hw.size; omega) bo k f l2 hl2 hkf (by omega) (hL2.on hw) hlw2 st hst wst)
  have HP2 := hid (fun w (hw : Below W.heap.size W w) => pieces_any w (hT.below hw h2) (tabR_below hR hw h2) (by have := hw.size; omega) ao m d l hl hmd (by omega) (hL.on hw) hlw (saveOf []) (saveOf_length []) (wds_saveOf (fun i => by simp) (by decide)))
  have HKn := hid (fun w (hw : Below W.heap.size W w) => known_any w (hT.below hw h2) (by have := hw.size; omega))
  have HTb := hid (fun w (hw : Below W.heap.size W w) => And.intro (hT.below hw h2) (And.intro (tabR_below hR hw h2) (show 1 < w.heap.size by have := hw.size; omega)))
  have HXs := hid (fun w (hw : Below W.heap.size W w) => hxa.below hw)
  have HX := hid (And.intro hx (And.intro hxf (And.intro hxm wx)))
  have HNu := hid (fun w => numbers_any w)
  obtain ⟨cs, hcs⟩ : ∃ cs, cs = asC ao m d bo k f ti ta wo n fw st := ⟨_, rfl⟩
  have HC : Hid (cs[0]? = some (.slice ao m d) ∧ cs[1]? = some (.slice bo k f) ∧ cs[2]? = some (.int .i64 ti) ∧ cs[3]? = some (.int .i64 ta) ∧ cs[4]? = some (.slice wo n fw) ∧ cs.drop 5 = st.map (Value.int .u32)) := hid (by rw [hcs]; exact ⟨rfl, rfl, rfl, rfl, rfl, rfl⟩)
  rw [← hcs]
  clear hcs hLA hLB hTt hU hT hR h2 hl hmd hL hlw hm hl2 hkf hL2 hlw2 hk hx hxf hxm wx hxa wst hT3 hU6
  obtain ⟨Y, hY⟩ : ∃ Y : List Int, Y = List.replicate 8 0 := ⟨_, rfl⟩
  have hYl : Y.length = 8 := by rw [hY]; simp
  have hy : ∀ w, (zeroValue 44).run Tryd.prog w = .ok (.agg (Y.map (Value.int .u32)).toArray) w := fun w => by rw [Tryd.zeroValue44, hY]; rfl
  clear hY
  have A0 : Hid (AS W (W.alloc (.cells cs.toArray 69)) cs) := hid ⟨below_one _ _, heap_alloc_new _ _⟩
  go_enter Tryd.func7, Tryd.ntmps7
  go_upto_region 1 with fail
  generalize W.alloc _ = w0 at *
  have c2 := A0.out.c HC.out.2.2.1
  have c3 := A0.out.c HC.out.2.2.2.1
  have c0 := A0.out.c HC.out.1
  go_upto_region 2 with (go_at_call 14; refine (HI1.out _).mono ?_; rintro e w1 ⟨rfl, hw⟩; subst w1)
  go_upto_region 3 with (go_at_call 14; refine (HI2.out _).mono ?_; rintro e w1 ⟨rfl, hw⟩; subst w1)
  clear c2 c3
  go_upto_region 4 with (go_at_call 28; refine (HOa.out _ A0.out.below).mono ?_; rintro e w1 ⟨v1, la, rfl, ho, hma⟩; obtain ⟨pa, ca, rfl, _, hol⟩ := ho.ol; have A1 := hid (And.intro (A0.out.on ho.below) hol); have HMa := hid hma; clear ho hma hol c0 A0)
  have c0 := A1.out.1.c HC.out.1
  go_upto_region 5 with (go_at_call 29; refine (HDa.out _ A1.out.1.below).mono ?_; rintro e w2 ⟨v2, lb, rfl, ho, hma⟩; obtain ⟨pb, cb, rfl, _, hol⟩ := ho.ol; have A2 := hid (And.intro (A1.out.1.on ho.below) (And.intro (A1.out.2.on ho.below) hol)); have HMb := hid hma; clear ho hma hol c0 A1)
  obtain ⟨na, hna⟩ : ∃ na, la.length = na := ⟨_, rfl⟩
  obtain ⟨nb, hnb⟩ : ∃ nb, lb.length = nb := ⟨_, rfl⟩
  have HN : Hid (la.length = na ∧ na ≤ 900 ∧ lb.length = nb ∧ nb ≤ 900) := hid ⟨hna, by rw [← hna, ← List.length_map (f := Ov.o), HMa.out]; exact HLa.out, hnb, by rw [← hnb, ← List.length_map (f := Ov.o), HMb.out]; exact HLa.out⟩
  rw [hna, hnb]
  clear hna hnb
  have HEn := hid (fun w (h : OL w pa la) => encode_v w pa na ca la HN.out.1 h (by have := HN.out; omega))
  have HEr := hid (fun w (h : OL w pb lb) => rencode_v w pb nb cb lb HN.out.2.2.1 h (by have := HN.out; omega))
  have HMe := hid (fun w (hw : Below W.heap.size W w) (h : OL w pa la) => measure_v w (HTb.out w hw).1 (HTb.out w hw).2.2 pa na ca la HN.out.1 h (by have := HN.out; omega))
  have HMr := hid (fun w (hw : Below W.heap.size W w) (h : OL w pb lb) => rmeasure_v w (HTb.out w hw).2.1 (HTb.out w hw).2.2 pb nb cb lb HN.out.2.2.1 h (by have := HN.out; omega) (by rw [HMb.out]; exact HWa.out))
  rw [HMa.out] at HEn HMe
  rw [HMb.out] at HEr HMr
  obtain ⟨E, hE⟩ : ∃ E, (encV LA).1 = E := ⟨_, rfl⟩
  obtain ⟨e0, he0⟩ : ∃ e0, (encV LA).2 = e0 := ⟨_, rfl⟩
  obtain ⟨M, hM⟩ : ∃ M, (meaV LA).1 = M := ⟨_, rfl⟩
  obtain ⟨e1, he1⟩ : ∃ e1, (meaV LA).2 = e1 := ⟨_, rfl⟩
  have HEl : Hid (E.length ≤ 262144) := hid (by rw [← hE]; exact encV_len LA)
  have hMl : M.length = 8 := by rw [← hM]; exact meaV_len LA
  rw [hE, he0] at HEn HEr
  rw [hM, he1] at HMe HMr
  clear hE he0 hM he1
  have HSm := hid (fun w p cp q cq (hp : At w .u32 p E) (hq : At w .u32 q E) => same_any w p q E.length E.length cp cq E E rfl rfl hp hq (by have := HEl.out; omega))
  simp only [decide_true] at HSm
  have heq1 : ∀ w, (Op.equalIn 10000 44 (.agg (M.map (Value.int .u32)).toArray) (.agg (M.map (Value.int .u32)).toArray)).run Tryd.prog w = .ok true w := fun w => by rw [eq27 M M hMl hMl w, decide_eq_true rfl]
  generalize E.length = N at *
  go_upto_region 6 with (go_at_call 10; refine (HEn.out _ A2.out.2.1).mono ?_; rintro e w3 ⟨p3, c3, rfl, ha, hb⟩; have A3 := hid (And.intro (A2.out.1.on hb) (And.intro (A2.out.2.1.on hb) (And.intro (A2.out.2.2.on hb) ha))); clear ha hb A2)
  go_upto_region 7 with (go_at_call 30; refine (HEr.out _ A3.out.2.2.1).mono ?_; rintro e w4 ⟨p4, c4, rfl, ha, hb⟩; have A4 := hid (And.intro (A3.out.1.on hb) (And.intro (A3.out.2.1.on hb) (And.intro (A3.out.2.2.1.on hb) (And.intro (A3.out.2.2.2.below hb) ha)))); clear ha hb A3)
  go_upto_region 9 with (first | (go_at_call 31; refine (HNu.out _).mono ?_; rintro e w5 ⟨rfl, hb⟩; have A5 := hid (And.intro (A4.out.1.on hb) (And.intro (A4.out.2.1.on hb) (And.intro (A4.out.2.2.1.on hb) (And.intro (A4.out.2.2.2.1.below hb) (A4.out.2.2.2.2.below hb))))); clear hb A4) | (go_at_call 9; refine (HKn.out _ A5.out.1.below).mono ?_; rintro e w6 ⟨rfl, hb⟩; have A6 := hid (And.intro (A5.out.1.on hb) (And.intro (A5.out.2.1.on hb) (And.intro (A5.out.2.2.1.on hb) (And.intro (A5.out.2.2.2.1.below hb) (A5.out.2.2.2.2.below hb))))); clear hb A5) | (go_at_call 11; refine (HSm.out _ _ _ _ _ A6.out.2.2.2.1 A6.out.2.2.2.2).mono ?_; rintro e w7 ⟨rfl, hb⟩; have A7 := hid (And.intro (A6.out.1.on hb) (And.intro (A6.out.2.1.on hb) (A6.out.2.2.1.on hb))); clear hb A6))
  clear HSm HEn HEr
  go_upto_region 10 with (first | (go_at_call 17; refine (HMe.out _ A7.out.1.below A7.out.2.1).mono ?_; rintro e w8 ⟨rfl, hb⟩; have A8 := hid (And.intro (A7.out.1.on hb) (And.intro (A7.out.2.1.on hb) (A7.out.2.2.on hb))); clear hb A7) | (revert A8; intro A8; refine wpList_store_but rfl 44 _ _ rfl w8.heap.size M rfl rfl (Blk.new w8 .u32 44 Y) (by rw [hMl]; exact size27) (by rw [hYl, hMl]) ?_; intro w9 b9 t9 s9; have A9 := hid (And.intro (A8.out.1.on (box_below _ t9)) (And.intro (A8.out.2.1.on (box_below _ t9)) (And.intro (A8.out.2.2.on (box_below _ t9)) b9))); clear b9 t9 s9 A8))
  generalize w8.heap.size = g11 at *
  go_upto_region 11 with (first | (go_at_call 32; refine (HMr.out _ A9.out.1.below A9.out.2.2.1).mono ?_; rintro e w10 ⟨rfl, hb⟩; have A10 := hid (And.intro (A9.out.1.on hb) (And.intro (A9.out.2.1.on hb) (And.intro (A9.out.2.2.1.on hb) (A9.out.2.2.2.on hb)))); clear hb A9) | (revert A10; intro A10; refine wpList_store_but rfl 44 _ _ rfl w10.heap.size M rfl rfl (Blk.new w10 .u32 44 Y) (by rw [hMl]; exact size27) (by rw [hYl, hMl]) ?_; intro w11 b11 t11 s11; have A11 := hid (And.intro (A10.out.1.on (box_below _ t11)) (And.intro (A10.out.2.1.on (box_below _ t11)) (And.intro (A10.out.2.2.1.on (box_below _ t11)) (And.intro (A10.out.2.2.2.on (box_below _ t11)) b11)))); clear b11 t11 s11 A10))
  generalize w10.heap.size = g12 at *
  go_upto_region 13 with (first | (revert A11; intro A11; refine wpList_load_bg rfl 44 _ rfl g11 M rfl A11.out.2.2.2.1 Tryd.underlying44 (by rw [hMl]; exact size27) ?_) | (revert A11; intro A11; refine wpList_load_bg rfl 44 _ rfl g12 M rfl A11.out.2.2.2.2 Tryd.underlying44 (by rw [hMl]; exact size27) ?_))
  clear heq1 HMe HMr
  have A12 : Hid (AS W w11 cs ∧ OL w11 pa la ∧ OL w11 pb lb) := hid ⟨A11.out.1, A11.out.2.1, A11.out.2.2.1⟩
  clear A11
  have c4 := A12.out.1.c HC.out.2.2.2.2.1
  obtain ⟨v14, w14, hr14, hh14⟩ := run_append_w (w := w11) 22 wo n fw xs HX.out.1 (HXs.out _ A12.out.1.below) HX.out.2.2.1
  obtain ⟨p14, c14, rfl, hc14, ha14, _⟩ := hh14.at'
  rw [HX.out.1] at hr14 hc14
  have HR14 := hid hr14
  have A14 : Hid (AS W w14 cs ∧ OL w14 pa la ∧ OL w14 pb lb ∧ At w14 .u32 p14 xs ∧ n ≤ c14) := hid ⟨A12.out.1.on hh14.below, A12.out.2.1.on hh14.below, A12.out.2.2.on hh14.below, ha14, hc14⟩
  clear hr14 hh14 hc14 ha14
  go_upto_region 15 with (at_builtin; refine wpList_append_w rfl _ _ rfl _ rfl _ rfl HR14.out ?_)
  clear c4 HR14 A12
  obtain ⟨D, hD⟩ : ∃ D, (decV xs).1 = D := ⟨_, rfl⟩
  obtain ⟨e2, he2⟩ : ∃ e2, (decV xs).2 = e2 := ⟨_, rfl⟩
  obtain ⟨DL, hDL⟩ : ∃ DL, D.length = DL := ⟨_, rfl⟩
  have HD : Hid (D.length = DL ∧ DL ≤ 262144 ∧ ∀ o ∈ D, List.length o.ws ≤ 1024) := hid ⟨hDL, by rw [← hDL, ← hD]; exact (decV_len xs).1, by rw [← hD]; exact (decV_len xs).2⟩
  have HDe := hid (fun w (h : At w .u32 p14 xs) (hc : n ≤ c14) => decode_v w p14 n c14 xs HX.out.1 HX.out.2.2.2 h hc (by have := HX.out.2.2.1; omega))
  have HDr := hid (fun w (hw : Below W.heap.size W w) => rdecode_v w wo n fw xs HX.out.1 HX.out.2.2.2 (HXs.out w hw) HX.out.2.1 (by have := HX.out.2.2.1; omega))
  rw [hD, he2] at HDe HDr
  clear hD he2 hDL
  go_upto_region 16 with (go_at_call 8; refine (HDe.out _ A14.out.2.2.2.1 A14.out.2.2.2.2).mono ?_; rintro e w15 ⟨pl, cl, ll, rfl, ho, hma⟩; have hlen : ll.length = DL := (by rw [← HD.out.1, ← hma, List.length_map]); have A15 := hid (And.intro (A14.out.1.on ho.below) (And.intro (A14.out.2.1.on ho.below) (And.intro (A14.out.2.2.1.on ho.below) ho.ol'.1))); have HMl : Hid (ll.map Ov.o = D ∧ ll.length = DL) := hid ⟨hma, hlen⟩; rw [hlen]; clear ho hma hlen A14)
  have c4 := A15.out.1.c HC.out.2.2.2.2.1
  go_upto_region 17 with (go_at_call 33; refine (HDr.out _ A15.out.1.below).mono ?_; rintro e w16 ⟨pr, cr, lr, rfl, ho, hma⟩; have hlen : lr.length = DL := (by rw [← HD.out.1, ← hma, List.length_map]); have A16 := hid (And.intro (A15.out.1.on ho.below) (And.intro (A15.out.2.1.on ho.below) (And.intro (A15.out.2.2.1.on ho.below) (And.intro (A15.out.2.2.2.on ho.below) (hr_ol ho))))); have HMr : Hid (lr.map Ov.o = D ∧ lr.length = DL) := hid ⟨hma, hlen⟩; rw [hlen]; clear ho hma hlen A15 c4)
  have q5 : (DL : Int) ≤ 262144 := by have := HD.out.2.1; omega
  clear HDe HDr
  go_wp2_with fail
  go_loopw [16] (fun i wr => ∃ j : Nat, j ≤ DL ∧ i = .int .i64 (j : Int) ∧ Hid (Below w16.heap.size w16 wr)) (fun i _ => DL - (intOf i).toNat)
  case atStart => exact ⟨0, Nat.zero_le _, rfl, hid (Below.refl _ _)⟩
  case round =>
    obtain ⟨k2, hk2, rfl, HQ⟩ := hrel
    by_cases hlt : k2 < DL
    · obtain ⟨x, ex⟩ : ∃ x, ll[k2]? = some x := ⟨ll[k2]'(by rw [HMl.out.2]; exact hlt), List.getElem?_eq_getElem _⟩
      obtain ⟨y, ey⟩ : ∃ y, lr[k2]? = some y := ⟨lr[k2]'(by rw [HMr.out.2]; exact hlt), List.getElem?_eq_getElem _⟩
      have exy : x.o = y.o := by
        have h1 : (ll.map Ov.o)[k2]? = some x.o := by rw [List.getElem?_map, ex]; rfl
        have h2 : (lr.map Ov.o)[k2]? = some y.o := by rw [List.getElem?_map, ey]; rfl
        rw [HMl.out.1] at h1
        rw [HMr.out.1] at h2
        exact Option.some.inj (h1.symm.trans h2)
      have hxl : x.o.ws.length ≤ 1024 := HD.out.2.2 _ (by rw [← HMl.out.1]; exact List.mem_map_of_mem (List.mem_of_getElem? ex))
      obtain ⟨b1, o1, rfl, g1⟩ := A16.out.2.2.2.1.at ex
      obtain ⟨b2, o2, rfl, g2⟩ := A16.out.2.2.2.2.at ey
      have G1 := hid g1
      have G2 := hid g2
      have HS := hid (fun w (hw : Below w16.heap.size w16 w) => same_any w x.p y.p x.o.ws.length y.o.ws.length x.c y.c x.o.ws y.o.ws rfl rfl ((A16.out.2.2.2.1.ws x (List.mem_of_getElem? ex)).below hw) ((A16.out.2.2.2.2.ws y (List.mem_of_getElem? ey)).below hw) (by omega))
      have q1 : (k2 : Int) < (DL : Int) := by omega
      have q2 : (0 : Int) ≤ (k2 : Int) := by omega
      have HK := hid hlt
      clear ex ey g1 g2 hlt hk2 hxl
      obtain ⟨⟨xk, xa, xw⟩, xp, xc⟩ := x
      obtain ⟨⟨yk, ya, yw⟩, yp, yc⟩ := y
      simp only [MOp.mk.injEq] at exy
      obtain ⟨rfl, rfl, rfl⟩ := exy
      simp only [decide_true] at G1 G2 HS
      go_upto_region 22 with fail
      have X0 := hid HQ.out.drew
      refine wp_region_held_drew (S := fun w => Below w16.heap.size w16 w) (by kernel_rfl) X0.out (fun hHeld => ?_)
      generalize World.drew _ = w0 at *
      refine wpAnyH_take (i := 0) (oi := { dst := some 113, op := Op.move (Operand.tmp 14), type := 25, pos := "law.go:157", after := #[], guard := none }) (v := .slice (some ⟨b1, o1, none⟩) DL cl) rfl (by kernel_rfl) (by kernel_rfl) (by kernel_rfl) (fun _ _ _ h => h) (Or.inl ⟨by rfl, by intro w hSw; go_simp⟩) (by assumption) ?_
      simp only [Act.put, List.setIfInBounds_toArray, List.set_cons_zero, List.set_cons_succ]
      refine wpAnyH_take (i := 1) (oi := { dst := some 114, op := Op.move (Operand.tmp 16), type := 3, pos := "law.go:157", after := #[], guard := none }) (v := .int .i64 (k2 : Int)) rfl (by kernel_rfl) (by kernel_rfl) (by kernel_rfl) (fun _ _ _ h => h) (Or.inl ⟨by rfl, by intro w hSw; go_simp⟩) (by assumption) ?_
      simp only [Act.put, List.setIfInBounds_toArray, List.set_cons_zero, List.set_cons_succ]
      refine wpAnyH_take (i := 2) (oi := { dst := some 115, op := Op.indexAddr 25 (Operand.tmp 113) (Operand.tmp 114), type := 0, pos := "law.go:157", after := #[{ on := 0, ground := Ground.data }, { on := 1, ground := Ground.data }], guard := none }) (v := .pointer (some ⟨b1, o1 + k2 * 3, none⟩)) rfl (by kernel_rfl) (by kernel_rfl) (by kernel_rfl) (fun _ _ _ h => h) (Or.inl ⟨by rfl, by intro w hSw; go_simp⟩) (by assumption) ?_
      simp only [Act.put, List.setIfInBounds_toArray, List.set_cons_zero, List.set_cons_succ]
      refine wpAnyH_take (i := 3) (oi := { dst := some 116, op := Op.fieldAddr 43 (Operand.tmp 115) 0, type := 0, pos := "law.go:157", after := #[{ on := 2, ground := Ground.data }], guard := none }) (v := .pointer (some ⟨b1, o1 + k2 * 3, none⟩)) rfl (by kernel_rfl) (by kernel_rfl) (by kernel_rfl) (fun _ _ _ h => h) (Or.inl ⟨by rfl, by intro w hSw; go_simp⟩) (by assumption) ?_
      simp only [Act.put, List.setIfInBounds_toArray, List.set_cons_zero, List.set_cons_succ]
      refine wpAnyH_take (i := 4) (oi := { dst := some 117, op := Op.load 41 (Operand.tmp 116), type := 41, pos := "law.go:157", after := #[{ on := 3, ground := Ground.data }], guard := none }) (v := .int .i64 xk) rfl (by kernel_rfl) (by kernel_rfl) (by kernel_rfl) (fun _ _ _ h => h) (Or.inl ⟨by rfl, by intro w hSw; have hc := (G1.out w hSw).1; go_simp⟩) (by assumption) ?_
      simp only [Act.put, List.setIfInBounds_toArray, List.set_cons_zero, List.set_cons_succ]
      refine wpAnyH_take (i := 5) (oi := { dst := some 118, op := Op.move (Operand.tmp 15), type := 71, pos := "law.go:157", after := #[], guard := none }) (v := .slice (some ⟨b2, o2, none⟩) DL cr) rfl (by kernel_rfl) (by kernel_rfl) (by kernel_rfl) (fun _ _ _ h => h) (Or.inl ⟨by rfl, by intro w hSw; go_simp⟩) (by assumption) ?_
      simp only [Act.put, List.setIfInBounds_toArray, List.set_cons_zero, List.set_cons_succ]
      refine wpAnyH_take (i := 6) (oi := { dst := some 119, op := Op.move (Operand.tmp 16), type := 3, pos := "law.go:157", after := #[], guard := none }) (v := .int .i64 (k2 : Int)) rfl (by kernel_rfl) (by kernel_rfl) (by kernel_rfl) (fun _ _ _ h => h) (Or.inl ⟨by rfl, by intro w hSw; go_simp⟩) (by assumption) ?_
      simp only [Act.put, List.setIfInBounds_toArray, List.set_cons_zero, List.set_cons_succ]
      refine wpAnyH_take (i := 7) (oi := { dst := some 120, op := Op.indexAddr 71 (Operand.tmp 118) (Operand.tmp 119), type := 0, pos := "law.go:157", after := #[{ on := 5, ground := Ground.data }, { on := 6, ground := Ground.data }], guard := none }) (v := .pointer (some ⟨b2, o2 + k2 * 3, none⟩)) rfl (by kernel_rfl) (by kernel_rfl) (by kernel_rfl) (fun _ _ _ h => h) (Or.inl ⟨by rfl, by intro w hSw; go_simp⟩) (by assumption) ?_
      simp only [Act.put, List.setIfInBounds_toArray, List.set_cons_zero, List.set_cons_succ]
      refine wpAnyH_take (i := 8) (oi := { dst := some 121, op := Op.fieldAddr 80 (Operand.tmp 120) 0, type := 0, pos := "law.go:157", after := #[{ on := 7, ground := Ground.data }], guard := none }) (v := .pointer (some ⟨b2, o2 + k2 * 3, none⟩)) rfl (by kernel_rfl) (by kernel_rfl) (by kernel_rfl) (fun _ _ _ h => h) (Or.inl ⟨by rfl, by intro w hSw; go_simp⟩) (by assumption) ?_
      simp only [Act.put, List.setIfInBounds_toArray, List.set_cons_zero, List.set_cons_succ]
      refine wpAnyH_take (i := 9) (oi := { dst := some 122, op := Op.load 3 (Operand.tmp 121), type := 3, pos := "law.go:157", after := #[{ on := 8, ground := Ground.data }], guard := none }) (v := .int .i64 xk) rfl (by kernel_rfl) (by kernel_rfl) (by kernel_rfl) (fun _ _ _ h => h) (Or.inl ⟨by rfl, by intro w hSw; have hc := (G2.out w hSw).1; go_simp⟩) (by assumption) ?_
      simp only [Act.put, List.setIfInBounds_toArray, List.set_cons_zero, List.set_cons_succ]
      refine wpAnyH_take (i := 10) (oi := { dst := some 123, op := Op.binOp BinOp.neq 3 (Operand.tmp 117) (Operand.tmp 122) 3, type := 4, pos := "law.go:157", after := #[{ on := 4, ground := Ground.data }, { on := 9, ground := Ground.data }], guard := none }) (v := .bool false) rfl (by kernel_rfl) (by kernel_rfl) (by kernel_rfl) (fun _ _ _ h => h) (Or.inl ⟨by rfl, by intro w hSw; go_simp⟩) (by assumption) ?_
      simp only [Act.put, List.setIfInBounds_toArray, List.set_cons_zero, List.set_cons_succ]
      refine wpAnyH_take (i := 11) (oi := { dst := some 124, op := Op.move (Operand.tmp 123), type := 4, pos := "law.go:157", after := #[{ on := 10, ground := Ground.data }], guard := none }) (v := .bool false) rfl (by kernel_rfl) (by kernel_rfl) (by kernel_rfl) (fun _ _ _ h => h) (Or.inl ⟨by rfl, by intro w hSw; go_simp⟩) (by assumption) ?_
      simp only [Act.put, List.setIfInBounds_toArray, List.set_cons_zero, List.set_cons_succ]
      refine wpAnyH_take (i := 12) (oi := { dst := some 125, op := Op.move (Operand.tmp 14), type := 25, pos := "law.go:157", after := #[{ on := 11, ground := Ground.guard }], guard := some (11, false) }) (v := .slice (some ⟨b1, o1, none⟩) DL cl) rfl (by kernel_rfl) (by kernel_rfl) (by kernel_rfl) (fun _ _ _ h => h) (Or.inl ⟨by rfl, by intro w hSw; go_simp⟩) (by assumption) ?_
      simp only [Act.put, List.setIfInBounds_toArray, List.set_cons_zero, List.set_cons_succ]
      refine wpAnyH_take (i := 13) (oi := { dst := some 126, op := Op.move (Operand.tmp 16), type := 3, pos := "law.go:157", after := #[{ on := 11, ground := Ground.guard }], guard := some (11, false) }) (v := .int .i64 (k2 : Int)) rfl (by kernel_rfl) (by kernel_rfl) (by kernel_rfl) (fun _ _ _ h => h) (Or.inl ⟨by rfl, by intro w hSw; go_simp⟩) (by assumption) ?_
      simp only [Act.put, List.setIfInBounds_toArray, List.set_cons_zero, List.set_cons_succ]
      refine wpAnyH_take (i := 14) (oi := { dst := some 127, op := Op.indexAddr 25 (Operand.tmp 125) (Operand.tmp 126), type := 0, pos := "law.go:157", after := #[{ on := 12, ground := Ground.data }, { on := 13, ground := Ground.data }, { on := 11, ground := Ground.guard }], guard := some (11, false) }) (v := .pointer (some ⟨b1, o1 + k2 * 3, none⟩)) rfl (by kernel_rfl) (by kernel_rfl) (by kernel_rfl) (fun _ _ _ h => h) (Or.inl ⟨by rfl, by intro w hSw; go_simp⟩) (by assumption) ?_
      simp only [Act.put, List.setIfInBounds_toArray, List.set_cons_zero, List.set_cons_succ]
      refine wpAnyH_take (i := 15) (oi := { dst := some 128, op := Op.fieldAddr 43 (Operand.tmp 127) 1, type := 0, pos := "law.go:157", after := #[{ on := 14, ground := Ground.data }, { on := 11, ground := Ground.guard }], guard := some (11, false) }) (v := .pointer (some ⟨b1, o1 + k2 * 3 + 1, none⟩)) rfl (by kernel_rfl) (by kernel_rfl) (by kernel_rfl) (fun _ _ _ h => h) (Or.inl ⟨by rfl, by intro w hSw; go_simp⟩) (by assumption) ?_
      simp only [Act.put, List.setIfInBounds_toArray, List.set_cons_zero, List.set_cons_succ]
      refine wpAnyH_take (i := 16) (oi := { dst := some 129, op := Op.load 24 (Operand.tmp 128), type := 24, pos := "law.go:157", after := #[{ on := 15, ground := Ground.data }, { on := 11, ground := Ground.guard }], guard := some (11, false) }) (v := .int .u32 xa) rfl (by kernel_rfl) (by kernel_rfl) (by kernel_rfl) (fun _ _ _ h => h) (Or.inl ⟨by rfl, by intro w hSw; have hc := (G1.out w hSw).2.1; go_simp⟩) (by assumption) ?_
      simp only [Act.put, List.setIfInBounds_toArray, List.set_cons_zero, List.set_cons_succ]
      refine wpAnyH_take (i := 17) (oi := { dst := some 130, op := Op.move (Operand.tmp 15), type := 71, pos := "law.go:157", after := #[{ on := 11, ground := Ground.guard }], guard := some (11, false) }) (v := .slice (some ⟨b2, o2, none⟩) DL cr) rfl (by kernel_rfl) (by kernel_rfl) (by kernel_rfl) (fun _ _ _ h => h) (Or.inl ⟨by rfl, by intro w hSw; go_simp⟩) (by assumption) ?_
      simp only [Act.put, List.setIfInBounds_toArray, List.set_cons_zero, List.set_cons_succ]
      refine wpAnyH_take (i := 18) (oi := { dst := some 131, op := Op.move (Operand.tmp 16), type := 3, pos := "law.go:157", after := #[{ on := 11, ground := Ground.guard }], guard := some (11, false) }) (v := .int .i64 (k2 : Int)) rfl (by kernel_rfl) (by kernel_rfl) (by kernel_rfl) (fun _ _ _ h => h) (Or.inl ⟨by rfl, by intro w hSw; go_simp⟩) (by assumption) ?_
      simp only [Act.put, List.setIfInBounds_toArray, List.set_cons_zero, List.set_cons_succ]
      refine wpAnyH_take (i := 19) (oi := { dst := some 132, op := Op.indexAddr 71 (Operand.tmp 130) (Operand.tmp 131), type := 0, pos := "law.go:157", after := #[{ on := 17, ground := Ground.data }, { on := 18, ground := Ground.data }, { on := 11, ground := Ground.guard }], guard := some (11, false) }) (v := .pointer (some ⟨b2, o2 + k2 * 3, none⟩)) rfl (by kernel_rfl) (by kernel_rfl) (by kernel_rfl) (fun _ _ _ h => h) (Or.inl ⟨by rfl, by intro w hSw; go_simp⟩) (by assumption) ?_
      simp only [Act.put, List.setIfInBounds_toArray, List.set_cons_zero, List.set_cons_succ]
      refine wpAnyH_take (i := 20) (oi := { dst := some 133, op := Op.fieldAddr 80 (Operand.tmp 132) 1, type := 0, pos := "law.go:157", after := #[{ on := 19, ground := Ground.data }, { on := 11, ground := Ground.guard }], guard := some (11, false) }) (v := .pointer (some ⟨b2, o2 + k2 * 3 + 1, none⟩)) rfl (by kernel_rfl) (by kernel_rfl) (by kernel_rfl) (fun _ _ _ h => h) (Or.inl ⟨by rfl, by intro w hSw; go_simp⟩) (by assumption) ?_
      simp only [Act.put, List.setIfInBounds_toArray, List.set_cons_zero, List.set_cons_succ]
      refine wpAnyH_take (i := 21) (oi := { dst := some 134, op := Op.load 24 (Operand.tmp 133), type := 24, pos := "law.go:157", after := #[{ on := 20, ground := Ground.data }, { on := 11, ground := Ground.guard }], guard := some (11, false) }) (v := .int .u32 xa) rfl (by kernel_rfl) (by kernel_rfl) (by kernel_rfl) (fun _ _ _ h => h) (Or.inl ⟨by rfl, by intro w hSw; have hc := (G2.out w hSw).2.1; go_simp⟩) (by assumption) ?_
      simp only [Act.put, List.setIfInBounds_toArray, List.set_cons_zero, List.set_cons_succ]
      refine wpAnyH_take (i := 22) (oi := { dst := some 135, op := Op.binOp BinOp.neq 24 (Operand.tmp 129) (Operand.tmp 134) 24, type := 4, pos := "law.go:157", after := #[{ on := 16, ground := Ground.data }, { on := 21, ground := Ground.data }, { on := 11, ground := Ground.guard }], guard := some (11, false) }) (v := .bool false) rfl (by kernel_rfl) (by kernel_rfl) (by kernel_rfl) (fun _ _ _ h => h) (Or.inl ⟨by rfl, by intro w hSw; go_simp⟩) (by assumption) ?_
      simp only [Act.put, List.setIfInBounds_toArray, List.set_cons_zero, List.set_cons_succ]
      refine wpAnyH_take (i := 23) (oi := { dst := some 136, op := Op.pick (Operand.tmp 124) (Operand.const (Value.bool true)) (Operand.tmp 135), type := 4, pos := "law.go:157", after := #[{ on := 11, ground := Ground.data }, { on := 22, ground := Ground.data }], guard := none }) (v := .bool false) rfl (by kernel_rfl) (by kernel_rfl) (by kernel_rfl) (fun _ _ _ h => h) (Or.inl ⟨by rfl, by intro w hSw; go_simp⟩) (by assumption) ?_
      simp only [Act.put, List.setIfInBounds_toArray, List.set_cons_zero, List.set_cons_succ]
      refine wpAnyH_take (i := 24) (oi := { dst := some 137, op := Op.move (Operand.tmp 136), type := 4, pos := "law.go:157", after := #[{ on := 23, ground := Ground.data }, { on := 11, ground := Ground.chain }], guard := none }) (v := .bool false) rfl (by kernel_rfl) (by kernel_rfl) (by kernel_rfl) (fun _ _ _ h => h) (Or.inl ⟨by rfl, by intro w hSw; go_simp⟩) (by assumption) ?_
      simp only [Act.put, List.setIfInBounds_toArray, List.set_cons_zero, List.set_cons_succ]
      refine wpAnyH_take (i := 25) (oi := { dst := some 138, op := Op.move (Operand.tmp 14), type := 25, pos := "law.go:157", after := #[{ on := 24, ground := Ground.guard }], guard := some (24, false) }) (v := .slice (some ⟨b1, o1, none⟩) DL cl) rfl (by kernel_rfl) (by kernel_rfl) (by kernel_rfl) (fun _ _ _ h => h) (Or.inl ⟨by rfl, by intro w hSw; go_simp⟩) (by assumption) ?_
      simp only [Act.put, List.setIfInBounds_toArray, List.set_cons_zero, List.set_cons_succ]
      refine wpAnyH_take (i := 26) (oi := { dst := some 139, op := Op.move (Operand.tmp 16), type := 3, pos := "law.go:157", after := #[{ on := 24, ground := Ground.guard }], guard := some (24, false) }) (v := .int .i64 (k2 : Int)) rfl (by kernel_rfl) (by kernel_rfl) (by kernel_rfl) (fun _ _ _ h => h) (Or.inl ⟨by rfl, by intro w hSw; go_simp⟩) (by assumption) ?_
      simp only [Act.put, List.setIfInBounds_toArray, List.set_cons_zero, List.set_cons_succ]
      refine wpAnyH_take (i := 27) (oi := { dst := some 140, op := Op.indexAddr 25 (Operand.tmp 138) (Operand.tmp 139), type := 0, pos := "law.go:157", after := #[{ on := 25, ground := Ground.data }, { on := 26, ground := Ground.data }, { on := 24, ground := Ground.guard }], guard := some (24, false) }) (v := .pointer (some ⟨b1, o1 + k2 * 3, none⟩)) rfl (by kernel_rfl) (by kernel_rfl) (by kernel_rfl) (fun _ _ _ h => h) (Or.inl ⟨by rfl, by intro w hSw; go_simp⟩) (by assumption) ?_
      simp only [Act.put, List.setIfInBounds_toArray, List.set_cons_zero, List.set_cons_succ]
      refine wpAnyH_take (i := 28) (oi := { dst := some 141, op := Op.fieldAddr 43 (Operand.tmp 140) 2, type := 0, pos := "law.go:157", after := #[{ on := 27, ground := Ground.data }, { on := 24, ground := Ground.guard }], guard := some (24, false) }) (v := .pointer (some ⟨b1, o1 + k2 * 3 + 2, none⟩)) rfl (by kernel_rfl) (by kernel_rfl) (by kernel_rfl) (fun _ _ _ h => h) (Or.inl ⟨by rfl, by intro w hSw; go_simp⟩) (by assumption) ?_
      simp only [Act.put, List.setIfInBounds_toArray, List.set_cons_zero, List.set_cons_succ]
      refine wpAnyH_take (i := 29) (oi := { dst := some 142, op := Op.load 22 (Operand.tmp 141), type := 22, pos := "law.go:157", after := #[{ on := 28, ground := Ground.data }, { on := 24, ground := Ground.guard }], guard := some (24, false) }) (v := .slice xp xw.length xc) rfl (by kernel_rfl) (by kernel_rfl) (by kernel_rfl) (fun _ _ _ h => h) (Or.inl ⟨by rfl, by intro w hSw; have hc := (G1.out w hSw).2.2; go_simp⟩) (by assumption) ?_
      simp only [Act.put, List.setIfInBounds_toArray, List.set_cons_zero, List.set_cons_succ]
      refine wpAnyH_take (i := 30) (oi := { dst := some 143, op := Op.move (Operand.tmp 15), type := 71, pos := "law.go:157", after := #[{ on := 24, ground := Ground.guard }], guard := some (24, false) }) (v := .slice (some ⟨b2, o2, none⟩) DL cr) rfl (by kernel_rfl) (by kernel_rfl) (by kernel_rfl) (fun _ _ _ h => h) (Or.inl ⟨by rfl, by intro w hSw; go_simp⟩) (by assumption) ?_
      simp only [Act.put, List.setIfInBounds_toArray, List.set_cons_zero, List.set_cons_succ]
      refine wpAnyH_take (i := 31) (oi := { dst := some 144, op := Op.move (Operand.tmp 16), type := 3, pos := "law.go:157", after := #[{ on := 24, ground := Ground.guard }], guard := some (24, false) }) (v := .int .i64 (k2 : Int)) rfl (by kernel_rfl) (by kernel_rfl) (by kernel_rfl) (fun _ _ _ h => h) (Or.inl ⟨by rfl, by intro w hSw; go_simp⟩) (by assumption) ?_
      simp only [Act.put, List.setIfInBounds_toArray, List.set_cons_zero, List.set_cons_succ]
      refine wpAnyH_take (i := 32) (oi := { dst := some 145, op := Op.indexAddr 71 (Operand.tmp 143) (Operand.tmp 144), type := 0, pos := "law.go:157", after := #[{ on := 30, ground := Ground.data }, { on := 31, ground := Ground.data }, { on := 24, ground := Ground.guard }], guard := some (24, false) }) (v := .pointer (some ⟨b2, o2 + k2 * 3, none⟩)) rfl (by kernel_rfl) (by kernel_rfl) (by kernel_rfl) (fun _ _ _ h => h) (Or.inl ⟨by rfl, by intro w hSw; go_simp⟩) (by assumption) ?_
      simp only [Act.put, List.setIfInBounds_toArray, List.set_cons_zero, List.set_cons_succ]
      refine wpAnyH_take (i := 33) (oi := { dst := some 146, op := Op.fieldAddr 80 (Operand.tmp 145) 2, type := 0, pos := "law.go:157", after := #[{ on := 32, ground := Ground.data }, { on := 24, ground := Ground.guard }], guard := some (24, false) }) (v := .pointer (some ⟨b2, o2 + k2 * 3 + 2, none⟩)) rfl (by kernel_rfl) (by kernel_rfl) (by kernel_rfl) (fun _ _ _ h => h) (Or.inl ⟨by rfl, by intro w hSw; go_simp⟩) (by assumption) ?_
      simp only [Act.put, List.setIfInBounds_toArray, List.set_cons_zero, List.set_cons_succ]
      refine wpAnyH_take (i := 34) (oi := { dst := some 147, op := Op.load 22 (Operand.tmp 146), type := 22, pos := "law.go:157", after := #[{ on := 33, ground := Ground.data }, { on := 24, ground := Ground.guard }], guard := some (24, false) }) (v := .slice yp xw.length yc) rfl (by kernel_rfl) (by kernel_rfl) (by kernel_rfl) (fun _ _ _ h => h) (Or.inl ⟨by rfl, by intro w hSw; have hc := (G2.out w hSw).2.2; go_simp⟩) (by assumption) ?_
      simp only [Act.put, List.setIfInBounds_toArray, List.set_cons_zero, List.set_cons_succ]
      refine wpAnyH_ready (rs := [35]) (by kernel_rfl) (by simp) (AllReadyH.cons (o := { dst := some 148, op := Op.call { callee := Callee.value (Operand.func 11), args := #[Operand.tmp 142, Operand.tmp 147], argTypes := #[22, 22] }, type := 4, pos := "law.go:157", after := #[{ on := 29, ground := Ground.data }, { on := 34, ground := Ground.data }, { on := 24, ground := Ground.chain }, { on := 24, ground := Ground.guard }], guard := some (24, false) }) rfl (fun KQ hK => ?_) AllReadyH.nil)
      go_simp
      refine (HS.out _ X0.out).mono ?_
      rintro e w1 ⟨rfl, hb1⟩
      have X1 := hid (below_on X0.out hb1)
      clear hb1
      go_wp2_with fail
      refine hK.out _ _ X1.out (fun hHeld => ?_)
      clear hK KQ
      try simp only [Act.put, List.setIfInBounds_toArray, List.set_cons_zero, List.set_cons_succ]
      refine wpAnyH_take (i := 36) (oi := { dst := some 149, op := Op.unOp UnOp.not 4 (Operand.tmp 148), type := 4, pos := "law.go:157", after := #[{ on := 35, ground := Ground.data }, { on := 24, ground := Ground.guard }], guard := some (24, false) }) (v := .bool false) rfl (by kernel_rfl) (by kernel_rfl) (by kernel_rfl) (fun _ _ _ h => h) (Or.inl ⟨by rfl, by intro w hSw; go_simp⟩) (by assumption) ?_
      simp only [Act.put, List.setIfInBounds_toArray, List.set_cons_zero, List.set_cons_succ]
      refine wpAnyH_take (i := 37) (oi := { dst := some 150, op := Op.pick (Operand.tmp 137) (Operand.const (Value.bool true)) (Operand.tmp 149), type := 4, pos := "law.go:157", after := #[{ on := 24, ground := Ground.data }, { on := 36, ground := Ground.data }], guard := none }) (v := .bool false) rfl (by kernel_rfl) (by kernel_rfl) (by kernel_rfl) (fun _ _ _ h => h) (Or.inl ⟨by rfl, by intro w hSw; go_simp⟩) (by assumption) ?_
      simp only [Act.put, List.setIfInBounds_toArray, List.set_cons_zero, List.set_cons_succ]
      refine wpAnyH_done (by kernel_rfl) ?_ _
      go_wp2_with fail
      go_roundw
      case measure => have := HK.out; simp [intOf] <;> omega
      case rel => exact ⟨k2 + 1, HK.out, by simp, X1⟩
    · obtain rfl : k2 = DL := by omega
      clear hlt hk2
      have B0 : Hid (BS W wr cs pa la pb lb) := hid ⟨A16.out.1.on HQ.out, A16.out.2.1.on HQ.out, A16.out.2.2.1.on HQ.out⟩
      clear A16 HQ HMl HMr HD HX HXs HI1 HI2 HOa HDa HKn HNu
      obtain ⟨C1, hC1⟩ : ∃ C, (colV LA LB).1 = C := ⟨_, rfl⟩
      obtain ⟨C2, hC2⟩ : ∃ C, (colV LA LB).2.1 = C := ⟨_, rfl⟩
      obtain ⟨e3, he3⟩ : ∃ C, (colV LA LB).2.2 = C := ⟨_, rfl⟩
      obtain ⟨N1, hlC1⟩ : ∃ N, List.length C1 = N := ⟨_, rfl⟩
      obtain ⟨N2, hlC2⟩ : ∃ N, List.length C2 = N := ⟨_, rfl⟩
      have HBC1 : Hid (N1 ≤ 262144 ∧ N2 ≤ 262144) := hid (by rw [← hlC1, ← hlC2, ← hC1, ← hC2]; exact colV_len _ _)
      obtain ⟨C3, hC3⟩ : ∃ C, (colV LB LA).1 = C := ⟨_, rfl⟩
      obtain ⟨C4, hC4⟩ : ∃ C, (colV LB LA).2.1 = C := ⟨_, rfl⟩
      obtain ⟨e4, he4⟩ : ∃ C, (colV LB LA).2.2 = C := ⟨_, rfl⟩
      obtain ⟨N3, hlC3⟩ : ∃ N, List.length C3 = N := ⟨_, rfl⟩
      obtain ⟨N4, hlC4⟩ : ∃ N, List.length C4 = N := ⟨_, rfl⟩
      have HBC3 : Hid (N3 ≤ 262144 ∧ N4 ≤ 262144) := hid (by rw [← hlC3, ← hlC4, ← hC3, ← hC4]; exact colV_len _ _)
      have HC1 : Hid (∀ w, Below W.heap.size W w → OL w pa la → ∀ pc nc cc (lc : List Ov), lc.length = nc → lc.map Ov.o = LB → OL w pc lc → Calls Tryd.prog 21 #[.slice pa na ca, .slice pc nc cc] w fun e W' => ∃ p cp q cq, e = .returned (.tuple #[.agg #[.slice p N1 cp, .slice q N2 cq], .int .i64 e3]) ∧ At W' .u32 p C1 ∧ At W' .u32 q C2 ∧ Below w.heap.size w W') := hid (fun w hw h pc nc cc lc hl hmm hc => by
        have h9 := collide_v w (HTb.out w hw).1 (HTb.out w hw).2.2 pa pc na ca nc cc la lc HN.out.1 h (by have := HN.out; omega) hl hc (by rw [← hl, ← List.length_map (f := Ov.o), hmm]; have := HLb.out; omega)
        rw [HMa.out, hmm, hC1, hC2, he3, hlC1, hlC2] at h9
        exact h9)
      have HC2 : Hid (∀ w, Below W.heap.size W w → OL w pb lb → ∀ pc nc cc (lc : List Ov), lc.length = nc → lc.map Ov.o = LB → OL w pc lc → Calls Tryd.prog 34 #[.slice pb nb cb, .slice pc nc cc] w fun e W' => ∃ p cp q cq, e = .returned (.tuple #[.agg #[.slice p N1 cp, .slice q N2 cq], .int .i64 e3]) ∧ At W' .u32 p C1 ∧ At W' .u32 q C2 ∧ Below w.heap.size w W') := hid (fun w hw h pc nc cc lc hl hmm hc => by
        have h9 := rcollide_v w (HTb.out w hw).2.1 (HTb.out w hw).2.2 pb pc nb cb nc cc lb lc HN.out.2.2.1 h (by have := HN.out; omega) hl hc (by rw [← hl, ← List.length_map (f := Ov.o), hmm]; have := HLb.out; omega) (by rw [HMb.out]; exact HWa.out) (by rw [hmm]; exact HWb.out)
        rw [HMb.out, hmm, hC1, hC2, he3, hlC1, hlC2] at h9
        exact h9)
      have HC3 : Hid (∀ w, Below W.heap.size W w → OL w pa la → ∀ pc nc cc (lc : List Ov), lc.length = nc → lc.map Ov.o = LB → OL w pc lc → Calls Tryd.prog 21 #[.slice pc nc cc, .slice pa na ca] w fun e W' => ∃ p cp q cq, e = .returned (.tuple #[.agg #[.slice p N3 cp, .slice q N4 cq], .int .i64 e4]) ∧ At W' .u32 p C3 ∧ At W' .u32 q C4 ∧ Below w.heap.size w W') := hid (fun w hw h pc nc cc lc hl hmm hc => by
        have h9 := collide_v w (HTb.out w hw).1 (HTb.out w hw).2.2 pc pa nc cc na ca lc la hl hc (by rw [← hl, ← List.length_map (f := Ov.o), hmm]; have := HLb.out; omega) HN.out.1 h (by have := HN.out; omega)
        rw [HMa.out, hmm, hC3, hC4, he4, hlC3, hlC4] at h9
        exact h9)
      have HC4 : Hid (∀ w, Below W.heap.size W w → OL w pb lb → ∀ pc nc cc (lc : List Ov), lc.length = nc → lc.map Ov.o = LB → OL w pc lc → Calls Tryd.prog 34 #[.slice pc nc cc, .slice pb nb cb] w fun e W' => ∃ p cp q cq, e = .returned (.tuple #[.agg #[.slice p N3 cp, .slice q N4 cq], .int .i64 e4]) ∧ At W' .u32 p C3 ∧ At W' .u32 q C4 ∧ Below w.heap.size w W') := hid (fun w hw h pc nc cc lc hl hmm hc => by
        have h9 := rcollide_v w (HTb.out w hw).2.1 (HTb.out w hw).2.2 pc pb nc cc nb cb lc lb hl hc (by rw [← hl, ← List.length_map (f := Ov.o), hmm]; have := HLb.out; omega) HN.out.2.2.1 h (by have := HN.out; omega) (by rw [hmm]; exact HWb.out) (by rw [HMb.out]; exact HWa.out)
        rw [HMb.out, hmm, hC3, hC4, he4, hlC3, hlC4] at h9
        exact h9)
      have HS1 := hid (fun w p cp q cq (hp : At w .u32 p C1) (hq : At w .u32 q C1) => same_any w p q N1 N1 cp cq C1 C1 hlC1 hlC1 hp hq (by have := HBC1.out; omega))
      simp only [decide_true] at HS1
      have HS2 := hid (fun w p cp q cq (hp : At w .u32 p C2) (hq : At w .u32 q C2) => same_any w p q N2 N2 cp cq C2 C2 hlC2 hlC2 hp hq (by have := HBC1.out; omega))
      simp only [decide_true] at HS2
      have HS3 := hid (fun w p cp q cq (hp : At w .u32 p C3) (hq : At w .u32 q C3) => same_any w p q N3 N3 cp cq C3 C3 hlC3 hlC3 hp hq (by have := HBC3.out; omega))
      simp only [decide_true] at HS3
      have HS4 := hid (fun w p cp q cq (hp : At w .u32 p C4) (hq : At w .u32 q C4) => same_any w p q N4 N4 cp cq C4 C4 hlC4 hlC4 hp hq (by have := HBC3.out; omega))
      simp only [decide_true] at HS4
      clear hC1 hC2 hC3 hC4 he3 he4 hlC1 hlC2 hlC3 hlC4 HBC1 HBC3
      have HSt1 := hid (fun w => start_any w)
      have HSt2 := hid (fun w => rstart_any w)
      have hS0 := saveOf_length []
      generalize saveOf [] = S0 at *
      unfold Ag at HSt1 HSt2 HP1 HP2
      have heq5 : ∀ w, (Op.equalIn 10000 37 (Ag S0) (Ag S0)).run Tryd.prog w = .ok true w := fun w => by unfold Ag; rw [eq40 S0 S0 hS0 hS0 w, decide_eq_true rfl]
      have heq6 : ∀ w, (Op.equalIn 10000 37 (.agg (S0.map (Value.int .u32)).toArray) (.agg (S0.map (Value.int .u32)).toArray)).run Tryd.prog w = .ok true w := fun w => by rw [eq40 S0 S0 hS0 hS0 w, decide_eq_true rfl]
      have c1 := B0.out.ask.c HC.out.2.1
      go_upto_region 24 with fail
      go_upto_region 25 with (first | (go_at_call 28; refine (HOb.out _ B0.out.ask.below).mono ?_; rintro e w1x ⟨v1, lc1, rfl, ho, hma⟩; obtain ⟨pc1, cc1, rfl, _, hol⟩ := ho.ol; obtain ⟨nc1, hnc⟩ : ∃ nc, lc1.length = nc := ⟨_, rfl⟩; rw [hnc]; have B1a := hid (And.intro (B0.out.on ho.below) hol); have HMc1 := hid (And.intro hnc hma); clear ho hma hol hnc B0 c1) | (go_at_call 21; refine (HC1.out _ B1a.out.1.ask.below B1a.out.1.a _ _ _ _ HMc1.out.1 HMc1.out.2 B1a.out.2).mono ?_; rintro e w1y ⟨p1, r1, q1, s1, rfl, ha1, ha2, hb⟩; have B1b := hid (And.intro (B1a.out.1.on hb) (And.intro ha1 ha2)); clear ha1 ha2 hb B1a HMc1) | (revert B1b; intro B1b; refine wpList_store_cel rfl 52 _ _ rfl w1y.heap.size [.slice p1 N1 r1, .slice q1 N2 s1] rfl rfl (show Cel (w1y.alloc _) w1y.heap.size 52 _ from heap_alloc_new _ _) size52 rfl (by intro v hv; simp only [List.mem_cons, List.not_mem_nil, or_false] at hv; rcases hv with rfl | rfl <;> rfl) ?_; intro w1z b1 t1 u1; have B1c := hid (And.intro (B1b.out.1.on (box_below _ t1)) (PR.mk b1 (B1b.out.2.1.below (box_below _ t1)) (B1b.out.2.2.below (box_below _ t1)))); clear b1 t1 u1 B1b))
      generalize w1y.heap.size = g17 at *
      have c1 := B1c.out.1.ask.c HC.out.2.1
      go_upto_region 26 with (first | (go_at_call 29; refine (HDb.out _ B1c.out.1.ask.below).mono ?_; rintro e w2x ⟨v2, lc2, rfl, ho, hma⟩; obtain ⟨pc2, cc2, rfl, _, hol⟩ := ho.ol; obtain ⟨nc2, hnc⟩ : ∃ nc, lc2.length = nc := ⟨_, rfl⟩; rw [hnc]; have B2a := hid (And.intro (B1c.out.1.on ho.below) (And.intro (B1c.out.2.on ho.below) hol)); have HMc2 := hid (And.intro hnc hma); clear ho hma hol hnc B1c c1) | (go_at_call 34; refine (HC2.out _ B2a.out.1.ask.below B2a.out.1.b _ _ _ _ HMc2.out.1 HMc2.out.2 B2a.out.2.2).mono ?_; rintro e w2y ⟨p2, r2, q2, s2, rfl, ha1, ha2, hb⟩; have B2b := hid (And.intro (B2a.out.1.on hb) (And.intro (B2a.out.2.1.on hb) (And.intro ha1 ha2))); clear ha1 ha2 hb B2a HMc2) | (revert B2b; intro B2b; refine wpList_store_cel rfl 81 _ _ rfl w2y.heap.size [.slice p2 N1 r2, .slice q2 N2 s2] rfl rfl (show Cel (w2y.alloc _) w2y.heap.size 81 _ from heap_alloc_new _ _) size81' rfl (by intro v hv; simp only [List.mem_cons, List.not_mem_nil, or_false] at hv; rcases hv with rfl | rfl <;> rfl) ?_; intro w2z b2 t2 u2; have B2c := hid (And.intro (B2b.out.1.on (box_below _ t2)) (And.intro (B2b.out.2.1.on (box_below _ t2)) (PR.mk b2 (B2b.out.2.2.1.below (box_below _ t2)) (B2b.out.2.2.2.below (box_below _ t2))))); clear b2 t2 u2 B2b))
      generalize w2y.heap.size = g18 at *
      have f0 := B2c.out.2.1.f0
      have f1 := B2c.out.2.2.f0
      go_upto_region 28 with (first | (go_at_call 11; refine (HS1.out _ _ _ _ _ B2c.out.2.1.x B2c.out.2.2.x).mono ?_; rintro e w3x ⟨rfl, hb⟩; have D3a := hid (And.intro (B2c.out.1.on hb) (And.intro (B2c.out.2.1.on hb) (B2c.out.2.2.on hb))); have f2 := D3a.out.2.1.f1; have f3 := D3a.out.2.2.f1; clear hb B2c f0 f1) | (go_at_call 11; refine (HS2.out _ _ _ _ _ D3a.out.2.1.y D3a.out.2.2.y).mono ?_; rintro e w3y ⟨rfl, hb⟩; have D3 := hid (D3a.out.1.on hb); clear hb D3a f2 f3))
      have c1 := D3.out.ask.c HC.out.2.1
      go_upto_region 29 with (first | (go_at_call 28; refine (HOb.out _ D3.out.ask.below).mono ?_; rintro e w4x ⟨v4, lc4, rfl, ho, hma⟩; obtain ⟨pc4, cc4, rfl, _, hol⟩ := ho.ol; obtain ⟨nc4, hnc⟩ : ∃ nc, lc4.length = nc := ⟨_, rfl⟩; rw [hnc]; have B4a := hid (And.intro (D3.out.on ho.below) hol); have HMc4 := hid (And.intro hnc hma); clear ho hma hol hnc D3 c1) | (go_at_call 21; refine (HC3.out _ B4a.out.1.ask.below B4a.out.1.a _ _ _ _ HMc4.out.1 HMc4.out.2 B4a.out.2).mono ?_; rintro e w4y ⟨p4, r4, q4, s4, rfl, ha1, ha2, hb⟩; have B4b := hid (And.intro (B4a.out.1.on hb) (And.intro ha1 ha2)); clear ha1 ha2 hb B4a HMc4) | (revert B4b; intro B4b; refine wpList_store_cel rfl 52 _ _ rfl w4y.heap.size [.slice p4 N3 r4, .slice q4 N4 s4] rfl rfl (show Cel (w4y.alloc _) w4y.heap.size 52 _ from heap_alloc_new _ _) size52 rfl (by intro v hv; simp only [List.mem_cons, List.not_mem_nil, or_false] at hv; rcases hv with rfl | rfl <;> rfl) ?_; intro w4z b4 t4 u4; have B4c := hid (And.intro (B4b.out.1.on (box_below _ t4)) (PR.mk b4 (B4b.out.2.1.below (box_below _ t4)) (B4b.out.2.2.below (box_below _ t4)))); clear b4 t4 u4 B4b))
      generalize w4y.heap.size = g19 at *
      have c1 := B4c.out.1.ask.c HC.out.2.1
      go_upto_region 30 with (first | (go_at_call 29; refine (HDb.out _ B4c.out.1.ask.below).mono ?_; rintro e w5x ⟨v5, lc5, rfl, ho, hma⟩; obtain ⟨pc5, cc5, rfl, _, hol⟩ := ho.ol; obtain ⟨nc5, hnc⟩ : ∃ nc, lc5.length = nc := ⟨_, rfl⟩; rw [hnc]; have B5a := hid (And.intro (B4c.out.1.on ho.below) (And.intro (B4c.out.2.on ho.below) hol)); have HMc5 := hid (And.intro hnc hma); clear ho hma hol hnc B4c c1) | (go_at_call 34; refine (HC4.out _ B5a.out.1.ask.below B5a.out.1.b _ _ _ _ HMc5.out.1 HMc5.out.2 B5a.out.2.2).mono ?_; rintro e w5y ⟨p5, r5, q5, s5, rfl, ha1, ha2, hb⟩; have B5b := hid (And.intro (B5a.out.1.on hb) (And.intro (B5a.out.2.1.on hb) (And.intro ha1 ha2))); clear ha1 ha2 hb B5a HMc5) | (revert B5b; intro B5b; refine wpList_store_cel rfl 81 _ _ rfl w5y.heap.size [.slice p5 N3 r5, .slice q5 N4 s5] rfl rfl (show Cel (w5y.alloc _) w5y.heap.size 81 _ from heap_alloc_new _ _) size81' rfl (by intro v hv; simp only [List.mem_cons, List.not_mem_nil, or_false] at hv; rcases hv with rfl | rfl <;> rfl) ?_; intro w5z b5 t5 u5; have B5c := hid (And.intro (B5b.out.1.on (box_below _ t5)) (And.intro (B5b.out.2.1.on (box_below _ t5)) (PR.mk b5 (B5b.out.2.2.1.below (box_below _ t5)) (B5b.out.2.2.2.below (box_below _ t5))))); clear b5 t5 u5 B5b))
      generalize w5y.heap.size = g20 at *
      have f0 := B5c.out.2.1.f0
      have f1 := B5c.out.2.2.f0
      go_upto_region 32 with (first | (go_at_call 11; refine (HS3.out _ _ _ _ _ B5c.out.2.1.x B5c.out.2.2.x).mono ?_; rintro e w6x ⟨rfl, hb⟩; have D6a := hid (And.intro (B5c.out.1.on hb) (And.intro (B5c.out.2.1.on hb) (B5c.out.2.2.on hb))); have f2 := D6a.out.2.1.f1; have f3 := D6a.out.2.2.f1; clear hb B5c f0 f1) | (go_at_call 11; refine (HS4.out _ _ _ _ _ D6a.out.2.1.y D6a.out.2.2.y).mono ?_; rintro e w6y ⟨rfl, hb⟩; have D6 := hid (D6a.out.1.on hb); clear hb D6a f2 f3) | (go_at_call 15; refine (HSt1.out _).mono ?_; rintro e w7x ⟨rfl, hb⟩; have D7 := hid (D6.out.on hb); clear hb D6) | (go_at_call 35; refine (HSt2.out _).mono ?_; rintro e w7y ⟨rfl, hb⟩; have D8 := hid (D7.out.on hb); clear hb D7))
      have X0 : Hid (AS W w7y.drew cs) := hid (D8.out.ask.on (Below.refl _ _).drew)
      clear D8
      have hz37 : ∀ w, (sizeOf 37).run Tryd.prog w = .ok 26 w := fun w => by first | exact Tryd.sizeOf37 w | (rw [Tryd.sizeOf37]; rfl) | (rw [Tryd.sizeOf37])
      refine wp_region_held_drew (S := fun w => AS W w cs) (by kernel_rfl) X0.out (fun hHeld => ?_)
      generalize World.drew _ = w0 at *
      refine wpAnyH_take (i := 0) (oi := { dst := some 226, op := Op.fieldAddr 69 (Operand.tmp 1) 1, type := 0, pos := "law.go:171", after := #[], guard := none }) (v := .pointer (some ⟨W.heap.size, 1, none⟩)) rfl (by kernel_rfl) (by kernel_rfl) (by kernel_rfl) (fun _ _ _ h => h) (Or.inl ⟨by rfl, by intro w hSw; go_simp⟩) (by assumption) ?_
      simp only [Act.put, List.setIfInBounds_toArray, List.set_cons_zero, List.set_cons_succ]
      refine wpAnyH_take (i := 1) (oi := { dst := some 227, op := Op.load 23 (Operand.tmp 226), type := 23, pos := "law.go:171", after := #[{ on := 0, ground := Ground.data }], guard := none }) (v := .slice bo k f) rfl (by kernel_rfl) (by kernel_rfl) (by kernel_rfl) (fun _ _ _ h => h) (Or.inl ⟨by rfl, by intro w hSw; have hc := hSw.c HC.out.2.1; go_simp⟩) (by assumption) ?_
      simp only [Act.put, List.setIfInBounds_toArray, List.set_cons_zero, List.set_cons_succ]
      refine wpAnyH_take (i := 2) (oi := { dst := some 228, op := Op.fieldAddr 69 (Operand.tmp 1) 5, type := 0, pos := "law.go:171", after := #[], guard := none }) (v := .pointer (some ⟨W.heap.size, 5, none⟩)) rfl (by kernel_rfl) (by kernel_rfl) (by kernel_rfl) (fun _ _ _ h => h) (Or.inl ⟨by rfl, by intro w hSw; go_simp⟩) (by assumption) ?_
      simp only [Act.put, List.setIfInBounds_toArray, List.set_cons_zero, List.set_cons_succ]
      refine wpAnyH_take (i := 3) (oi := { dst := some 229, op := Op.load 37 (Operand.tmp 228), type := 37, pos := "law.go:171", after := #[{ on := 2, ground := Ground.data }], guard := none }) (v := .agg (st.map (Value.int .u32)).toArray) rfl (by kernel_rfl) (by kernel_rfl) (by kernel_rfl) (fun _ _ _ h => h) (yieldsIf_load_mid (by rfl) _ _ rfl _ _ rfl _ _ (fun w hSw => hSw.r HC.out.2.2.2.2.2) Tryd.underlying37 rfl (by rw [List.length_map, hst]; exact size40)) (by assumption) ?_
      simp only [Act.put, List.setIfInBounds_toArray, List.set_cons_zero, List.set_cons_succ]
      refine wpAnyH_ready (rs := [4]) (by kernel_rfl) (by simp) (AllReadyH.cons (o := { dst := some 230, op := Op.call { callee := Callee.value (Operand.func 36), args := #[Operand.tmp 227, Operand.tmp 229], argTypes := #[23, 37] }, type := 4, pos := "law.go:171", after := #[{ on := 1, ground := Ground.data }, { on := 3, ground := Ground.data }], guard := none }) rfl (fun KQ hK => ?_) AllReadyH.nil)
      go_simp
      refine (HP1.out _ X0.out.below).mono ?_
      rintro e w1 ⟨rfl, hb1⟩
      have X1 := hid (X0.out.on hb1)
      clear hb1 X0
      go_wp2_with fail
      refine hK.out _ _ X1.out (fun hHeld => ?_)
      clear hK KQ
      try simp only [Act.put, List.setIfInBounds_toArray, List.set_cons_zero, List.set_cons_succ]
      refine wpAnyH_take (i := 5) (oi := { dst := some 231, op := Op.move (Operand.tmp 230), type := 4, pos := "law.go:171", after := #[{ on := 4, ground := Ground.data }, { on := 4, ground := Ground.chain }], guard := none }) (v := .bool true) rfl (by kernel_rfl) (by kernel_rfl) (by kernel_rfl) (fun _ _ _ h => h) (Or.inl ⟨by rfl, by intro w hSw; go_simp⟩) (by assumption) ?_
      simp only [Act.put, List.setIfInBounds_toArray, List.set_cons_zero, List.set_cons_succ]
      refine wpAnyH_take (i := 6) (oi := { dst := some 232, op := Op.fieldAddr 69 (Operand.tmp 1) 0, type := 0, pos := "law.go:171", after := #[{ on := 5, ground := Ground.guard }], guard := some (5, true) }) (v := .pointer (some ⟨W.heap.size, 0, none⟩)) rfl (by kernel_rfl) (by kernel_rfl) (by kernel_rfl) (fun _ _ _ h => h) (Or.inl ⟨by rfl, by intro w hSw; go_simp⟩) (by assumption) ?_
      simp only [Act.put, List.setIfInBounds_toArray, List.set_cons_zero, List.set_cons_succ]
      refine wpAnyH_take (i := 7) (oi := { dst := some 233, op := Op.load 23 (Operand.tmp 232), type := 23, pos := "law.go:171", after := #[{ on := 6, ground := Ground.data }, { on := 5, ground := Ground.guard }], guard := some (5, true) }) (v := .slice ao m d) rfl (by kernel_rfl) (by kernel_rfl) (by kernel_rfl) (fun _ _ _ h => h) (Or.inl ⟨by rfl, by intro w hSw; have hc := hSw.c HC.out.1; go_simp⟩) (by assumption) ?_
      simp only [Act.put, List.setIfInBounds_toArray, List.set_cons_zero, List.set_cons_succ]
      refine wpAnyH_ready (rs := [8]) (by kernel_rfl) (by simp) (AllReadyH.cons (o := { dst := some 234, op := Op.call { callee := Callee.value (Operand.func 35), args := #[], argTypes := #[] }, type := 37, pos := "law.go:171", after := #[{ on := 5, ground := Ground.chain }, { on := 5, ground := Ground.guard }], guard := some (5, true) }) rfl (fun KQ hK => ?_) AllReadyH.nil)
      go_simp
      refine (HSt2.out _).mono ?_
      rintro e w2 ⟨rfl, hb2⟩
      have X2 := hid (X1.out.on hb2)
      clear hb2 X1
      go_wp2_with fail
      refine hK.out _ _ X2.out (fun hHeld => ?_)
      clear hK KQ
      try simp only [Act.put, List.setIfInBounds_toArray, List.set_cons_zero, List.set_cons_succ]
      refine wpAnyH_ready (rs := [9]) (by kernel_rfl) (by simp) (AllReadyH.cons (o := { dst := some 235, op := Op.call { callee := Callee.value (Operand.func 36), args := #[Operand.tmp 233, Operand.tmp 234], argTypes := #[23, 37] }, type := 4, pos := "law.go:171", after := #[{ on := 7, ground := Ground.data }, { on := 8, ground := Ground.data }, { on := 8, ground := Ground.chain }, { on := 5, ground := Ground.guard }], guard := some (5, true) }) rfl (fun KQ hK => ?_) AllReadyH.nil)
      go_simp
      refine (HP2.out _ X2.out.below).mono ?_
      rintro e w3 ⟨rfl, hb3⟩
      have X3 := hid (X2.out.on hb3)
      clear hb3 X2
      go_wp2_with fail
      refine hK.out _ _ X3.out (fun hHeld => ?_)
      clear hK KQ
      try simp only [Act.put, List.setIfInBounds_toArray, List.set_cons_zero, List.set_cons_succ]
      refine wpAnyH_take (i := 10) (oi := { dst := some 236, op := Op.pick (Operand.tmp 231) (Operand.tmp 235) (Operand.const (Value.bool false)), type := 4, pos := "law.go:171", after := #[{ on := 5, ground := Ground.data }, { on := 9, ground := Ground.data }], guard := none }) (v := .bool true) rfl (by kernel_rfl) (by kernel_rfl) (by kernel_rfl) (fun _ _ _ h => h) (Or.inl ⟨by rfl, by intro w hSw; go_simp⟩) (by assumption) ?_
      simp only [Act.put, List.setIfInBounds_toArray, List.set_cons_zero, List.set_cons_succ]
      refine wpAnyH_ready (rs := [11]) (by kernel_rfl) (by simp) (AllReadyH.cons (o := { dst := some 2, op := Op.assign (Operand.tmp 236), type := 4, pos := "law.go:171", after := #[{ on := 10, ground := Ground.data }, { on := 9, ground := Ground.chain }, { on := 0, ground := Ground.phase }, { on := 1, ground := Ground.phase }, { on := 2, ground := Ground.phase }, { on := 3, ground := Ground.phase }, { on := 4, ground := Ground.phase }, { on := 5, ground := Ground.phase }, { on := 6, ground := Ground.phase }, { on := 7, ground := Ground.phase }, { on := 8, ground := Ground.phase }, { on := 9, ground := Ground.phase }, { on := 10, ground := Ground.phase }], guard := none }) rfl (fun KQ hK => ?_) AllReadyH.nil)
      go_simp
      refine hK.out _ _ X3.out (fun hHeld => ?_)
      clear hK KQ
      try simp only [Act.put, List.setIfInBounds_toArray, List.set_cons_zero, List.set_cons_succ]
      refine wpAnyH_done (by kernel_rfl) ?_ _
      go_wp2_with fail
      go_ret
      exact ⟨rfl, X3.out.below⟩
end Go.Proofs.YtmomidkodjihjaaDoor
