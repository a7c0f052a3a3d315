import Derived.Test.YtbpdmkohihgnjaaDoorP30
import Derived.Test.YtbpdmkohihgnjaaDoorP24
import Derived.Test.YtbpdmkohihgnjaaDoorP41
import Derived.Test.YtbpdmkohihgnjaaDoorP01
import Derived.Test.YtbpdmkohihgnjaaDoorP38
import Derived.Test.YtbpdmkohihgnjaaDoorP39
namespace Go.Proofs.YtbpdmkohihgnjaaDoor
open Go.RowKit
set_option maxHeartbeats 4000000
set_option maxRecDepth 100000
theorem fields42 : (Tryd.prog.fieldsOf 42).toList.map (fun f => (f.name, f.type, f.offset)) = [("Allow", 4, 0), ("Name", 9, 1), ("Measurement", 23, 2)] := by kernel_rfl
theorem under42 : Tryd.prog.underlying 42 = some (.struct (Tryd.prog.fieldsOf 42)) := by kernel_rfl
theorem stood42 : Tryd.prog.stoodInHeld 42 = false := by kernel_rfl
theorem rpart0 (al : Bool) (nm : ByteArray) (a0 a1 a2 a3 a4 a5 a6 a7 : Int) (w : World) : (part 4 #[.bool al, .string nm, .int .u32 a0, .int .u32 a1, .int .u32 a2, .int .u32 a3, .int .u32 a4, .int .u32 a5, .int .u32 a6, .int .u32 a7] 0).run Tryd.prog w = .ok (.bool al) w := by kernel_rfl
theorem rpart1 (al : Bool) (nm : ByteArray) (a0 a1 a2 a3 a4 a5 a6 a7 : Int) (w : World) : (part 9 #[.bool al, .string nm, .int .u32 a0, .int .u32 a1, .int .u32 a2, .int .u32 a3, .int .u32 a4, .int .u32 a5, .int .u32 a6, .int .u32 a7] 1).run Tryd.prog w = .ok (.string nm) w := by kernel_rfl
theorem rpart2 (al : Bool) (nm : ByteArray) (a0 a1 a2 a3 a4 a5 a6 a7 : Int) (w : World) : (part 23 #[.bool al, .string nm, .int .u32 a0, .int .u32 a1, .int .u32 a2, .int .u32 a3, .int .u32 a4, .int .u32 a5, .int .u32 a6, .int .u32 a7] 2).run Tryd.prog w = .ok (.agg ([a0, a1, a2, a3, a4, a5, a6, a7].map (Value.int .u32)).toArray) w := by kernel_rfl
theorem eq42 (w : World) (r : Rl) (hr : r.ms.length = 8) : (Op.equalIn 10000 42 (.agg r.cs.toArray) (.agg r.cs.toArray)).run Tryd.prog w = .ok true w := by
  obtain ⟨al, nm, ms⟩ := r
  match ms, hr with
  | [a0, a1, a2, a3, a4, a5, a6, a7], _ =>
    show (Op.equalIn 10000 42 (.agg #[.bool al, .string nm, .int .u32 a0, .int .u32 a1, .int .u32 a2, .int .u32 a3, .int .u32 a4, .int .u32 a5, .int .u32 a6, .int .u32 a7]) (.agg #[.bool al, .string nm, .int .u32 a0, .int .u32 a1, .int .u32 a2, .int .u32 a3, .int .u32 a4, .int .u32 a5, .int .u32 a6, .int .u32 a7])).run Tryd.prog w = .ok true w
    rw [run_equalIn_struct w 9999 42 _ _ under42 stood42]
    have h := fields42
    generalize (Tryd.prog.fieldsOf 42).toList = L at h ⊢
    have hl : L.length = 3 := by have := congrArg List.length h; simpa using this
    match L, hl with
    | [f1, f2, f3], _ =>
      simp only [List.map_cons, List.map_nil, List.cons.injEq, Prod.mk.injEq, and_true] at h
      obtain ⟨⟨x1, x2, x3⟩, ⟨y1, y2, y3⟩, z1, z2, z3⟩ := h
      have e0 := run_equalIn_words (P := Tryd.prog) w 9997 23 22 8 Tryd.underlying23 Tryd.underlying22 Tryd.sizeOf22 [a0, a1, a2, a3, a4, a5, a6, a7] [a0, a1, a2, a3, a4, a5, a6, a7] rfl rfl
      have e1 := run_equalIn_bool' (P := Tryd.prog) w 9998 4 al al Tryd.underlying4
      have e2 := run_equalIn_string (P := Tryd.prog) w 9998 9 nm nm Tryd.underlying9
      simp only [Op.eqFields, x1, x2, x3, y1, y2, y3, z1, z2, z3, Sem.run_bind, rpart0, rpart1, rpart2, Result.andThen_ok, e0, e1, e2, Sem.run_ite, Sem.run_pure]
      simp
end Go.Proofs.YtbpdmkohihgnjaaDoor
namespace Go.Proofs.YtbpdmkohihgnjaaDoor
open Go.RowKit
set_option maxHeartbeats 4000000
set_option maxRecDepth 100000
attribute [-go_sem] run_equalIn_agg
theorem rcs_at : ∀ (R : List Rl), (∀ r ∈ R, r.ms.length = 8) → ∀ (t : Nat) (r : Rl), R[t]? = some r → ∀ (j : Nat) (v : Value), r.cs[j]? = some v → (rcs R)[t * 10 + j]? = some v
  | [], _, t, x, h, _, _, _ => by simp at h
  | y :: R, hm, 0, x, h, j, v, hv => by
    simp only [List.getElem?_cons_zero, Option.some.injEq] at h
    subst h
    have hj := (List.getElem?_eq_some_iff.1 hv).1
    show (y.cs ++ rcs R)[0 * 10 + j]? = some v
    rw [Nat.zero_mul, Nat.zero_add, List.getElem?_append_left hj]
    exact hv
  | y :: R, hm, t + 1, x, h, j, v, hv => by
    have ih := rcs_at R (fun r hr => hm r (List.mem_cons_of_mem _ hr)) t x (by simpa using h) j v hv
    show (y.cs ++ rcs R)[(t + 1) * 10 + j]? = some v
    have hl : y.cs.length = 10 := y.len (hm y List.mem_cons_self)
    rw [List.getElem?_append_right (by rw [hl]; omega), hl, show (t + 1) * 10 + j - 10 = t * 10 + j by omega]
    exact ih
theorem own_rules {w : World} {B : Nat} {ao : Option Addr} {n c : Nat} {R : List Rl} (h : w.ownsRow B 42 10 (.slice ao n c) R.length (rcs R)) (hm : ∀ r ∈ R, r.ms.length = 8) : RulesAt w ao R := by
  rcases h.2 with ⟨_, h0⟩ | ⟨g, cap, cur, hv, hB, hg, hn, hx, hsz, ht⟩
  · exact .inl (List.eq_nil_of_length_eq_zero h0)
  · simp only [Value.slice.injEq] at hv
    obtain ⟨rfl, _, _⟩ := hv
    refine .inr ⟨g, 0, rfl, (Array.getElem?_eq_some_iff.1 hg).1, fun t r hr j v hj => ?_⟩
    have h1 := rcs_at R hm t r hr j v hj
    have hrl := hm r (List.mem_of_getElem? hr)
    have hj10 : j < 10 := by have := (List.getElem?_eq_some_iff.1 hj).1; rwa [r.len hrl] at this
    have htl := (List.getElem?_eq_some_iff.1 hr).1
    rw [← ht, List.getElem?_take_of_lt (by omega), Array.getElem?_toList] at h1
    simp only [World.cell?, hg, Nat.zero_add]
    exact h1
structure KT (W : World) (a1 : Option Addr) (c1 : Nat) (a2 : Option Addr) (c2 n : Nat) (ot : Bool) (R : List Rl) (w : World) : Prop where
  bl : Below W.heap.size W w
  p1 : Cel w W.heap.size 36 [.slice a1 n c1, .bool ot]
  p2 : Cel w (W.heap.size + 1) 36 [.slice a2 n c2, .bool ot]
  r1 : RulesAt w a1 R
  r2 : RulesAt w a2 R
theorem KT.on {W : World} {a1 : Option Addr} {c1 : Nat} {a2 : Option Addr} {c2 n : Nat} {ot : Bool} {R : List Rl} {w w' : World} (h : KT W a1 c1 a2 c2 n ot R w) (hb : Below w.heap.size w w') : KT W a1 c1 a2 c2 n ot R w' := ⟨below_on h.bl hb, h.p1.on hb, h.p2.on hb, h.r1.on hb, h.r2.on hb⟩
theorem rules_row {w : World} {ao : Option Addr} {R : List Rl} (h : RulesAt w ao R) {k : Nat} (hk : k < R.length) : ∃ b off, ao = some ⟨b, off, none⟩ := by
  rcases h with h0 | ⟨b, off, e, _, _⟩
  · rw [h0] at hk; simp at hk
  · exact ⟨b, off, e⟩
theorem rules_at {w : World} {b off : Nat} {R : List Rl} (h : RulesAt w (some ⟨b, off, none⟩) R) {k : Nat} {r : Rl} (hr : R[k]? = some r) : w.rangeAt b (off + k * 10) r.cs := by
  rcases h with h0 | ⟨b', off', e, _, hra⟩
  · rw [h0] at hr; simp at hr
  · simp only [Option.some.injEq, Addr.mk.injEq] at e
    obtain ⟨rfl, rfl, _⟩ := e
    exact hra k r hr
theorem alike_any (W : World) (a1 : Option Addr) (c1 : Nat) (a2 : Option Addr) (c2 n : Nat) (ot : Bool) (R : List Rl) (hn : R.length = n) (h1 : RulesAt W a1 R) (h2 : RulesAt W a2 R) (hm : ∀ r ∈ R, r.ms.length = 8) (hmax : (n : Int) ≤ 256) :
    Calls Tryd.prog 22 #[.agg #[.slice a1 n c1, .bool ot], .agg #[.slice a2 n c2, .bool ot]] W fun e W' => e = .returned (.bool true) ∧ Below W.heap.size W W' := by
  obtain ⟨X, hX⟩ : ∃ X, X = (W.alloc (Obj.cells #[.slice a1 n c1, .bool ot] 36)).alloc (Obj.cells #[.slice a2 n c2, .bool ot] 36) := ⟨_, rfl⟩
  have Y0 : Hid (KT W a1 c1 a2 c2 n ot R X) := hid (by
    have HB : Below W.heap.size W X := by rw [hX]; exact below_on (below_one W _) (below_one _ _)
    refine ⟨HB, ?_, ?_, h1.on HB, h2.on HB⟩
    · rw [hX]; exact Cel.on (heap_alloc_new _ _) (below_one _ _)
    · rw [hX]; have := heap_alloc_new (W.alloc (Obj.cells #[.slice a1 n c1, .bool ot] 36)) (Obj.cells #[.slice a2 n c2, .bool ot] 36); simpa [Cel] using this)
  have q0 : X.cell? ⟨W.heap.size, 0, none⟩ = some (.slice a1 n c1) := Y0.out.p1.cell 0
  have q1 : X.cell? ⟨W.heap.size, 1, none⟩ = some (.bool ot) := Y0.out.p1.cell 1
  have q2 : X.cell? ⟨W.heap.size + 1, 0, none⟩ = some (.slice a2 n c2) := Y0.out.p2.cell 0
  have q3 : X.cell? ⟨W.heap.size + 1, 1, none⟩ = some (.bool ot) := Y0.out.p2.cell 1
  have HM := hid hm
  clear h1 h2 hm
  go_enter Tryd.func22, Tryd.ntmps22
  go_upto_region 1 with fail
  rw [← hX]
  clear hX
  go_wp2_with fail
  clear q0 q1 q2 q3
  go_loopw [5] (fun i wr => ∃ k : Nat, k ≤ n ∧ i = .int .i64 k ∧ KT W a1 c1 a2 c2 n ot R wr) (fun i _ => n - (intOf i).toNat)
  case atStart => exact ⟨0, Nat.zero_le _, rfl, Y0.out⟩
  case round =>
    clear Y0
    obtain ⟨k, hk, rfl, hkd⟩ := hrel
    have Y1 := hid hkd
    clear hkd
    have q0 : wr.cell? ⟨W.heap.size, 0, none⟩ = some (.slice a1 n c1) := Y1.out.p1.cell 0
    by_cases hlt : k < n
    · have hkR : k < R.length := by omega
      obtain ⟨b1, o1, rfl⟩ := rules_row Y1.out.r1 hkR
      obtain ⟨b2, o2, rfl⟩ := rules_row Y1.out.r2 hkR
      have hRk : R[k]? = some R[k] := List.getElem?_eq_getElem hkR
      have hml := HM.out _ (List.getElem_mem hkR)
      generalize R[k] = r at *
      have HRk := hid hRk
      have HML := hid hml
      have hlr := r.len hml
      have i3 : (k : Int) < (n : Int) := by omega
      have HN := hid (show k + 1 ≤ n by omega)
      clear hRk hml hkR hlt
      go_upto_region 6 with fail
      clear q0
      have Y2 := hid (Y1.out.on (Below.refl _ _).drew)
      clear Y1
      refine wp_region_held_drew (S := fun w => KT W (some ⟨b1, o1, none⟩) c1 (some ⟨b2, o2, none⟩) c2 n ot R w) (by kernel_rfl) Y2.out (fun hHeld => ?_)
      generalize World.drew _ = w3 at *
      refine tk 0 ⟨some 27, .fieldAddr 36 (.tmp 2) 0, 0, "outright.go:106", #[], none⟩ (.pointer (some ⟨W.heap.size, 0, none⟩)) ?_
      simp only [Act.put, List.setIfInBounds_toArray, List.set_cons_zero, List.set_cons_succ]
      refine tk 1 ⟨some 28, .load 34 (.tmp 27), 34, "outright.go:106", #[⟨0, .data⟩], none⟩ (.slice (some ⟨b1, o1, none⟩) n c1) ?_ (hy := Or.inl ⟨by rfl, by intro w hSw; have hc : w.cell? ⟨W.heap.size, 0, none⟩ = some (.slice (some ⟨b1, o1, none⟩) n c1) := hSw.p1.cell 0; go_simp⟩)
      simp only [Act.put, List.setIfInBounds_toArray, List.set_cons_zero, List.set_cons_succ]
      refine tk 2 ⟨some 29, .move (.tmp 5), 3, "outright.go:106", #[], none⟩ (.int .i64 (k : Int)) ?_
      simp only [Act.put, List.setIfInBounds_toArray, List.set_cons_zero, List.set_cons_succ]
      refine tk 3 ⟨some 30, .indexAddr 34 (.tmp 28) (.tmp 29), 0, "outright.go:106", #[⟨1, .data⟩, ⟨2, .data⟩], none⟩ (.pointer (some ⟨b1, o1 + k * 10, none⟩)) ?_
      simp only [Act.put, List.setIfInBounds_toArray, List.set_cons_zero, List.set_cons_succ]
      refine tk 4 ⟨some 31, .load 42 (.tmp 30), 42, "outright.go:106", #[⟨3, .data⟩], none⟩ (.agg r.cs.toArray) ?_ (hy := yieldsIf_load_mid (by rfl) _ _ rfl _ _ rfl _ _ (fun w hSw => rules_at hSw.r1 HRk.out) Tryd.underlying42 rfl (by rw [hlr]; exact size42))
      simp only [Act.put, List.setIfInBounds_toArray, List.set_cons_zero, List.set_cons_succ]
      refine tk 5 ⟨some 32, .fieldAddr 36 (.tmp 3) 0, 0, "outright.go:106", #[], none⟩ (.pointer (some ⟨W.heap.size + 1, 0, none⟩)) ?_
      simp only [Act.put, List.setIfInBounds_toArray, List.set_cons_zero, List.set_cons_succ]
      refine tk 6 ⟨some 33, .load 34 (.tmp 32), 34, "outright.go:106", #[⟨5, .data⟩], none⟩ (.slice (some ⟨b2, o2, none⟩) n c2) ?_ (hy := Or.inl ⟨by rfl, by intro w hSw; have hc : w.cell? ⟨W.heap.size + 1, 0, none⟩ = some (.slice (some ⟨b2, o2, none⟩) n c2) := hSw.p2.cell 0; go_simp⟩)
      simp only [Act.put, List.setIfInBounds_toArray, List.set_cons_zero, List.set_cons_succ]
      refine tk 7 ⟨some 34, .move (.tmp 5), 3, "outright.go:106", #[], none⟩ (.int .i64 (k : Int)) ?_
      simp only [Act.put, List.setIfInBounds_toArray, List.set_cons_zero, List.set_cons_succ]
      refine tk 8 ⟨some 35, .indexAddr 34 (.tmp 33) (.tmp 34), 0, "outright.go:106", #[⟨6, .data⟩, ⟨7, .data⟩], none⟩ (.pointer (some ⟨b2, o2 + k * 10, none⟩)) ?_
      simp only [Act.put, List.setIfInBounds_toArray, List.set_cons_zero, List.set_cons_succ]
      refine tk 9 ⟨some 36, .load 42 (.tmp 35), 42, "outright.go:106", #[⟨8, .data⟩], none⟩ (.agg r.cs.toArray) ?_ (hy := yieldsIf_load_mid (by rfl) _ _ rfl _ _ rfl _ _ (fun w hSw => rules_at hSw.r2 HRk.out) Tryd.underlying42 rfl (by rw [hlr]; exact size42))
      simp only [Act.put, List.setIfInBounds_toArray, List.set_cons_zero, List.set_cons_succ]
      refine tk 10 ⟨some 37, .binOp .neq 42 (.tmp 31) (.tmp 36) 42, 4, "outright.go:106", #[⟨4, .data⟩, ⟨9, .data⟩], none⟩ (.bool false) ?_ (hy := Or.inl ⟨by rfl, by intro w hSw; have hq := eq42 w r HML.out; go_simp⟩)
      simp only [Act.put, List.setIfInBounds_toArray, List.set_cons_zero, List.set_cons_succ]
      refine wpAnyH_done (by kernel_rfl) ?_ _
      go_wp2_with fail
      go_roundw
      case rel => exact ⟨k + 1, HN.out, by go_num, Y2.out⟩
      case measure => have := HN.out; simp [intOf]; omega
    · obtain rfl : k = n := by omega
      go_wp2_with fail
      go_ret
      exact ⟨rfl, Y1.out.bl⟩
end Go.Proofs.YtbpdmkohihgnjaaDoor
namespace Go.Proofs.YtbpdmkohihgnjaaDoor
open Go.RowKit
set_option maxHeartbeats 4000000
set_option maxRecDepth 100000
theorem ret_q3 {P : Program} {fn : Func} {p q r : Tmp} {ty e : TypeId} {d : TypeDesc} {a : Act} {w : World} {post : Ending → World → Prop} (hr : fn.results = #[.cell p ty, .tmp q, .tmp r]) (hd : a.defers = []) (g : Nat) (cs : List Value)
    (hp : a.tmps.getD p undef = .pointer (some ⟨g, 0, none⟩)) (hb : Cel w g e cs) (hu : P.underlying ty = some d) (hdd : (match d with | .struct _ | .array _ _ => true | _ => false) = true) (hi : (P.info? ty).map (·.size) = some cs.length) (h : post (.returned (.tuple #[.agg cs.toArray, a.tmps.getD q undef, a.tmps.getD r undef])) w) :
    bodyPost P fn post .ret a w := by
  refine bodyPost_ret (v := .tuple #[.agg cs.toArray, a.tmps.getD q undef, a.tmps.getD r undef]) ?_ hd h
  have hp' : a.tmps[p]?.getD undef = .pointer (some ⟨g, 0, none⟩) := by simpa using hp
  have := run_loadVar_row (P := P) w g e ty _ (0, 0) _ hb hu hdd (by rw [hi]; simp)
  simp [results, hr, hp', asAddr, this]
def PaP (W w : World) (e : Ending) (r : Rdr ⊕ Nat) : Prop :=
  match r with
  | .inl st => ∃ v, e = .returned (.tuple #[.agg #[v, .bool st.other], .int .i64 0, .int .i64 0]) ∧ w.ownsRow W.heap.size 42 10 v st.rules.length (rcs st.rules) ∧ Below W.heap.size W w
  | .inr k => e = .returned (.tuple #[.agg #[.slice none 0 0, .bool false], .int .i64 (k : Int), .int .i64 161]) ∧ Below W.heap.size W w
structure Vr (W : World) (E : Nat → Addr) : Prop where
  es : ErrS W E
  h7 : W.cell? ⟨7, 0, none⟩ = some (.iface 184 (.agg #[.pointer (some ⟨13, 87, none⟩)]))
  ml : ∃ m, W.cell? ⟨10, 0, none⟩ = some (.int .i64 m)
theorem Vr.on {W w : World} {E : Nat → Addr} (h : Vr W E) (hb : Below W.heap.size W w) : Vr w E := by
  have hs := h.es.sz
  obtain ⟨m, hm⟩ := h.ml
  exact ⟨h.es.on hb, (hb.cell (p := ⟨7, 0, none⟩) (by show 7 < W.heap.size; omega)).trans h.h7, m, (hb.cell (p := ⟨10, 0, none⟩) (by show 10 < W.heap.size; omega)).trans hm⟩
structure PB (W : World) (g : Nat) (v : Value) (ot : Bool) (n : Nat) (C : List Value) (w : World) : Prop where
  bl : Below W.heap.size W w
  c : Cel w g 36 [v, .bool ot]
  o : w.ownsRow W.heap.size 42 10 v n C
  hg : W.heap.size ≤ g
theorem PB.on {W : World} {g : Nat} {v : Value} {ot : Bool} {n : Nat} {C : List Value} {w w' : World} (h : PB W g v ot n C w) (hb : Below w.heap.size w w') : PB W g v ot n C w' := ⟨below_on h.bl hb, h.c.on hb, L.own_below h.o hb, h.hg⟩
theorem PB.put {W : World} {g : Nat} {v : Value} {ot : Bool} {n : Nat} {C ds : List Value} {w w' : World} (hl : Below W.heap.size W w) (hd : Cel w g 36 ds) (ho : w.ownsRow W.heap.size 42 10 v n C) (hg : W.heap.size ≤ g) (hc : Cel w' g 36 [v, .bool ot]) (hb : But g w w') : PB W g v ot n C w' :=
  ⟨hl.trans (hb.below hg hl.size), hc, own_but ho hb (own_ap ho hd (by decide)), hg⟩
theorem PaP.good {W w : World} {g : Nat} {st : Rdr} {v : Value} (h : PB W g v st.other st.rules.length (rcs st.rules) w) : PaP W w (.returned (.tuple #[.agg #[v, .bool st.other], .int .i64 0, .int .i64 0])) (.inl st) := ⟨v, rfl, h.o, h.bl⟩
theorem PaP.bad {W w : World} {k : Nat} (h : Below W.heap.size W w) : PaP W w (.returned (.tuple #[.agg #[.slice none 0 0, .bool false], .int .i64 (k : Int), .int .i64 161])) (.inr k) := ⟨rfl, h⟩
attribute [-simp] Tryd.isAgg36 Tryd.zeroValue36
theorem parse_any21 (W : World) (E : Nat → Addr) (hV : Vr W E) (s : ByteArray) (hs : s.size ≤ 65536) (hend : ∀ st, foldP z0 (L.T.lines s.data.toList) 0 = .inl st → st.ended = true) :
    Calls Tryd.prog 21 #[.string s] W fun e W' => PaP W W' e (foldP z0 (L.T.lines s.data.toList) 0) := by
  have hz36 : ∀ w, (zeroValue 36).run Tryd.prog w = .ok (.agg #[.slice none 0 0, .bool false]) w := fun w => by rw [Tryd.zeroValue36]
  obtain ⟨X, hX⟩ : ∃ X, X = W.alloc (Obj.cells #[.slice none 0 0, .bool false] 36) := ⟨_, rfl⟩
  have HB : Below W.heap.size W X := by rw [hX]; exact below_one W _
  have VX := hV.on HB
  obtain ⟨mx, hmx⟩ := VX.ml
  have HPo := hid (policyOf_any X E VX.es mx hmx s hs hend)
  have HX : Hid (Below W.heap.size W X ∧ Cel X W.heap.size 36 [.slice none 0 0, .bool false] ∧ W.heap.size < X.heap.size) := hid ⟨HB, by rw [hX]; exact heap_alloc_new _ _, by rw [hX]; simp⟩
  have HV := hid hV
  clear hV hs hend HB VX hmx
  generalize foldP z0 (L.T.lines s.data.toList) 0 = R at *
  cases R with
  | inl st =>
    have HN0 := hid (fun (w : World) (hb : Below W.heap.size W w) => number_0 w E (HV.out.on hb).es)
    have HL0 := hid (fun (w : World) => line_nil w)
    have HPo2 : Hid (Calls Tryd.prog 53 #[.string s] X fun e w => ∃ v, e = .returned (.tuple #[.agg #[v, .bool st.other], .nilIface]) ∧ w.ownsRow X.heap.size 42 10 v st.rules.length (rcs st.rules) ∧ Below X.heap.size X w) := hid HPo.out
    clear HPo HV
    go_enter Tryd.func21, Tryd.ntmps21
    go_upto_region 1 with fail
    rw [← hX]
    clear hX
    go_wp2_with fail
    refine HPo2.out.mono ?_
    rintro e w1 ⟨v, rfl, ho, hb⟩
    obtain ⟨ao, cp, rfl⟩ := L.own_form ho
    have H1 : Hid (Below W.heap.size W w1 ∧ Cel w1 W.heap.size 36 [.slice none 0 0, .bool false] ∧ w1.ownsRow W.heap.size 42 10 (.slice ao st.rules.length cp) st.rules.length (rcs st.rules)) := hid ⟨below_on HX.out.1 hb, HX.out.2.1.on hb, L.own_mono ho (Nat.le_of_lt HX.out.2.2)⟩
    clear ho hb HX HPo2
    go_upto_region 2 with (first | (refine wpList_store_st rfl 36 _ _ rfl W.heap.size [.slice ao st.rules.length cp, .bool st.other] rfl rfl H1.out.2.1 size36 rfl rfl ?_; intro w2 hc2 hb2 hs2; have Y2 : Hid (PB W W.heap.size (.slice ao st.rules.length cp) st.other st.rules.length (rcs st.rules) w2) := hid (PB.put H1.out.1 H1.out.2.1 H1.out.2.2 (Nat.le_refl _) hc2 hb2); clear hc2 hb2 hs2))
    clear H1
    have Y3 := hid (Y2.out.on (Below.refl _ _).drew)
    clear Y2
    refine wp_region_held_drew (S := fun w => Cel w W.heap.size 36 [.slice ao st.rules.length cp, .bool st.other]) (by kernel_rfl) Y3.out.c (fun hHeld => ?_)
    generalize World.drew _ = w3 at *
    refine tk 0 ⟨some 11, .load 36 (.tmp 2), 36, "read.go:11", #[], none⟩ (.agg #[.slice ao st.rules.length cp, .bool st.other]) ?_ (hy := yieldsIf_load_mid (by rfl) _ _ rfl _ _ rfl _ _ (fun w hSw => cel_range hSw) Tryd.underlying36 rfl size36)
    simp only [Act.put, List.setIfInBounds_toArray, List.set_cons_zero, List.set_cons_succ]
    refine tk 1 ⟨some 12, .move (.tmp 5), 87, "read.go:11", #[], none⟩ .nilIface ?_
    simp only [Act.put, List.setIfInBounds_toArray, List.set_cons_zero, List.set_cons_succ]
    refine tk 3 ⟨some 14, .move (.tmp 5), 87, "read.go:11", #[], none⟩ .nilIface ?_
    simp only [Act.put, List.setIfInBounds_toArray, List.set_cons_zero, List.set_cons_succ]
    refine wpAnyH_ready (rs := [2]) (by kernel_rfl) (by simp) (AllReadyH.cons (o := ⟨some 13, .call { callee := .value (.func 54), args := #[.tmp 12], argTypes := #[87] }, 3, "read.go:11", #[⟨1, .data⟩], none⟩) rfl (fun KQ hK => ?_) AllReadyH.nil)
    go_simp
    refine (HL0.out _).mono ?_
    rintro e w4 ⟨rfl, hb⟩
    have Y4 := hid (Y3.out.on hb)
    clear hb Y3
    go_wp2_with fail
    refine hK.out _ _ Y4.out.c (fun hHeld => ?_)
    clear hK KQ
    try simp only [Act.put, List.setIfInBounds_toArray, List.set_cons_zero, List.set_cons_succ]
    refine wpAnyH_ready (rs := [4]) (by kernel_rfl) (by simp) (AllReadyH.cons (o := ⟨some 15, .call { callee := .value (.func 44), args := #[.tmp 14], argTypes := #[87] }, 45, "read.go:11", #[⟨3, .data⟩, ⟨2, .chain⟩], none⟩) rfl (fun KQ hK => ?_) AllReadyH.nil)
    go_simp
    refine (HN0.out _ Y4.out.bl).mono ?_
    rintro e w5 ⟨rfl, hw⟩
    subst w5
    have Y5 := Y4
    clear Y4
    go_wp2_with fail
    refine hK.out _ _ Y5.out.c (fun hHeld => ?_)
    clear hK KQ
    try simp only [Act.put, List.setIfInBounds_toArray, List.set_cons_zero, List.set_cons_succ]
    refine wpAnyH_ready (rs := [5]) (by kernel_rfl) (by simp) (AllReadyH.cons (o := ⟨none, .store 36 (.tmp 2) (.tmp 11), 0, "read.go:11", #[⟨0, .data⟩, ⟨4, .chain⟩, ⟨0, .phase⟩, { on := 1, ground := .textOnly Departure.lateStores }, { on := 2, ground := .textOnly Departure.lateStoresUnsure }, { on := 3, ground := .textOnly Departure.lateStores }, { on := 4, ground := .textOnly Departure.lateStoresUnsure }], none⟩) rfl (fun KQ hK => ?_) AllReadyH.nil)
    rw [if_pos (by rfl)]
    refine wp_store_st 36 _ _ rfl W.heap.size [.slice ao st.rules.length cp, .bool st.other] rfl rfl Y5.out.c size36 rfl rfl ?_
    intro w6 hc hb hs
    have Y6 : Hid (PB W W.heap.size (.slice ao st.rules.length cp) st.other st.rules.length (rcs st.rules) w6) := hid (PB.put Y5.out.bl Y5.out.c Y5.out.o Y5.out.hg hc hb)
    clear hc hb hs Y5
    refine hK.out _ _ Y6.out.c (fun hHeld => ?_)
    clear hK KQ
    try simp only [Act.put]
    refine wpAnyH_ready (rs := [6]) (by kernel_rfl) (by simp) (AllReadyH.cons (o := ⟨some 3, .assign (.tmp 13), 3, "read.go:11", #[⟨2, .data⟩, ⟨5, .chain⟩, ⟨0, .phase⟩, ⟨1, .phase⟩, ⟨2, .phase⟩, { on := 3, ground := .textOnly Departure.lateStores }, { on := 4, ground := .textOnly Departure.lateStoresUnsure }, ⟨5, .phase⟩], none⟩) rfl (fun KQ hK => ?_) AllReadyH.nil)
    go_simp
    refine hK.out _ _ Y6.out.c (fun hHeld => ?_)
    clear hK KQ
    try simp only [Act.put, List.setIfInBounds_toArray, List.set_cons_zero, List.set_cons_succ]
    refine wpAnyH_ready (rs := [7]) (by kernel_rfl) (by simp) (AllReadyH.cons (o := ⟨some 4, .assign (.tmp 15), 45, "read.go:11", #[⟨4, .data⟩, ⟨6, .chain⟩, ⟨0, .phase⟩, ⟨1, .phase⟩, ⟨2, .phase⟩, ⟨3, .phase⟩, ⟨4, .phase⟩, ⟨5, .phase⟩, ⟨6, .phase⟩], none⟩) rfl (fun KQ hK => ?_) AllReadyH.nil)
    go_simp
    refine hK.out _ _ Y6.out.c (fun hHeld => ?_)
    clear hK KQ
    try simp only [Act.put, List.setIfInBounds_toArray, List.set_cons_zero, List.set_cons_succ]
    refine wpAnyH_done (by kernel_rfl) ?_ _
    go_wp2_with fail
    refine ret_q3 rfl rfl W.heap.size [.slice ao st.rules.length cp, .bool st.other] rfl Y6.out.c Tryd.underlying36 rfl size36 ?_
    exact PaP.good Y6.out
  | inr k =>
    have HN0 := hid (fun (w : World) (hb : Below W.heap.size W w) => number_at w E (HV.out.on hb).es (k : Int))
    have HL0 := hid (fun (w : World) (hb : Below W.heap.size W w) => line_at w (k : Int) (E 6) (HV.out.on hb).h7)
    have HPo2 : Hid (Calls Tryd.prog 53 #[.string s] X fun e w => e = .returned (.tuple #[.agg #[.slice none 0 0, .bool false], .iface 134 (.agg #[.int .i64 (k : Int), .iface 235 (.pointer (some (E 6)))])]) ∧ Below X.heap.size X w) := hid HPo.out
    clear HPo HV
    go_enter Tryd.func21, Tryd.ntmps21
    go_upto_region 1 with fail
    rw [← hX]
    clear hX
    go_wp2_with fail
    refine HPo2.out.mono ?_
    rintro e w1 ⟨rfl, hb⟩
    have H1 : Hid (Below W.heap.size W w1 ∧ Cel w1 W.heap.size 36 [.slice none 0 0, .bool false]) := hid ⟨below_on HX.out.1 hb, HX.out.2.1.on hb⟩
    clear hb HX HPo2
    go_upto_region 2 with (first | (refine wpList_store_st rfl 36 _ _ rfl W.heap.size [.slice none 0 0, .bool false] rfl rfl H1.out.2 size36 rfl rfl ?_; intro w2 hc2 hb2 hs2; have Y2 : Hid (PB W W.heap.size (.slice none 0 0) false 0 [] w2) := hid (PB.put H1.out.1 H1.out.2 (World.ownsRow_nil _ _ _ _) (Nat.le_refl _) hc2 hb2); clear hc2 hb2 hs2))
    clear H1
    have Y3 := hid (Y2.out.on (Below.refl _ _).drew)
    clear Y2
    refine wp_region_held_drew (S := fun w => Cel w W.heap.size 36 [.slice none 0 0, .bool false]) (by kernel_rfl) Y3.out.c (fun hHeld => ?_)
    generalize World.drew _ = w3 at *
    refine tk 0 ⟨some 11, .load 36 (.tmp 2), 36, "read.go:11", #[], none⟩ (.agg #[.slice none 0 0, .bool false]) ?_ (hy := yieldsIf_load_mid (by rfl) _ _ rfl _ _ rfl _ _ (fun w hSw => cel_range hSw) Tryd.underlying36 rfl size36)
    simp only [Act.put, List.setIfInBounds_toArray, List.set_cons_zero, List.set_cons_succ]
    refine tk 1 ⟨some 12, .move (.tmp 5), 87, "read.go:11", #[], none⟩ (.iface 134 (.agg #[.int .i64 (k : Int), .iface 235 (.pointer (some (E 6)))])) ?_
    simp only [Act.put, List.setIfInBounds_toArray, List.set_cons_zero, List.set_cons_succ]
    refine tk 3 ⟨some 14, .move (.tmp 5), 87, "read.go:11", #[], none⟩ (.iface 134 (.agg #[.int .i64 (k : Int), .iface 235 (.pointer (some (E 6)))])) ?_
    simp only [Act.put, List.setIfInBounds_toArray, List.set_cons_zero, List.set_cons_succ]
    refine wpAnyH_ready (rs := [2]) (by kernel_rfl) (by simp) (AllReadyH.cons (o := ⟨some 13, .call { callee := .value (.func 54), args := #[.tmp 12], argTypes := #[87] }, 3, "read.go:11", #[⟨1, .data⟩], none⟩) rfl (fun KQ hK => ?_) AllReadyH.nil)
    go_simp
    refine (HL0.out _ Y3.out.bl).mono ?_
    rintro e w4 ⟨rfl, hb⟩
    have Y4 := hid (Y3.out.on hb)
    clear hb Y3
    go_wp2_with fail
    refine hK.out _ _ Y4.out.c (fun hHeld => ?_)
    clear hK KQ
    try simp only [Act.put, List.setIfInBounds_toArray, List.set_cons_zero, List.set_cons_succ]
    refine wpAnyH_ready (rs := [4]) (by kernel_rfl) (by simp) (AllReadyH.cons (o := ⟨some 15, .call { callee := .value (.func 44), args := #[.tmp 14], argTypes := #[87] }, 45, "read.go:11", #[⟨3, .data⟩, ⟨2, .chain⟩], none⟩) rfl (fun KQ hK => ?_) AllReadyH.nil)
    go_simp
    refine (HN0.out _ Y4.out.bl).mono ?_
    rintro e w5 ⟨rfl, hb⟩
    have Y5 := hid (Y4.out.on hb)
    clear hb Y4
    go_wp2_with fail
    refine hK.out _ _ Y5.out.c (fun hHeld => ?_)
    clear hK KQ
    try simp only [Act.put, List.setIfInBounds_toArray, List.set_cons_zero, List.set_cons_succ]
    refine wpAnyH_ready (rs := [5]) (by kernel_rfl) (by simp) (AllReadyH.cons (o := ⟨none, .store 36 (.tmp 2) (.tmp 11), 0, "read.go:11", #[⟨0, .data⟩, ⟨4, .chain⟩, ⟨0, .phase⟩, { on := 1, ground := .textOnly Departure.lateStores }, { on := 2, ground := .textOnly Departure.lateStoresUnsure }, { on := 3, ground := .textOnly Departure.lateStores }, { on := 4, ground := .textOnly Departure.lateStoresUnsure }], none⟩) rfl (fun KQ hK => ?_) AllReadyH.nil)
    rw [if_pos (by rfl)]
    refine wp_store_st 36 _ _ rfl W.heap.size [.slice none 0 0, .bool false] rfl rfl Y5.out.c size36 rfl rfl ?_
    intro w6 hc hb hs
    have Y6 : Hid (PB W W.heap.size (.slice none 0 0) false 0 [] w6) := hid (PB.put Y5.out.bl Y5.out.c Y5.out.o Y5.out.hg hc hb)
    clear hc hb hs Y5
    refine hK.out _ _ Y6.out.c (fun hHeld => ?_)
    clear hK KQ
    try simp only [Act.put]
    refine wpAnyH_ready (rs := [6]) (by kernel_rfl) (by simp) (AllReadyH.cons (o := ⟨some 3, .assign (.tmp 13), 3, "read.go:11", #[⟨2, .data⟩, ⟨5, .chain⟩, ⟨0, .phase⟩, ⟨1, .phase⟩, ⟨2, .phase⟩, { on := 3, ground := .textOnly Departure.lateStores }, { on := 4, ground := .textOnly Departure.lateStoresUnsure }, ⟨5, .phase⟩], none⟩) rfl (fun KQ hK => ?_) AllReadyH.nil)
    go_simp
    refine hK.out _ _ Y6.out.c (fun hHeld => ?_)
    clear hK KQ
    try simp only [Act.put, List.setIfInBounds_toArray, List.set_cons_zero, List.set_cons_succ]
    refine wpAnyH_ready (rs := [7]) (by kernel_rfl) (by simp) (AllReadyH.cons (o := ⟨some 4, .assign (.tmp 15), 45, "read.go:11", #[⟨4, .data⟩, ⟨6, .chain⟩, ⟨0, .phase⟩, ⟨1, .phase⟩, ⟨2, .phase⟩, ⟨3, .phase⟩, ⟨4, .phase⟩, ⟨5, .phase⟩, ⟨6, .phase⟩], none⟩) rfl (fun KQ hK => ?_) AllReadyH.nil)
    go_simp
    refine hK.out _ _ Y6.out.c (fun hHeld => ?_)
    clear hK KQ
    try simp only [Act.put, List.setIfInBounds_toArray, List.set_cons_zero, List.set_cons_succ]
    refine wpAnyH_done (by kernel_rfl) ?_ _
    go_wp2_with fail
    refine ret_q3 rfl rfl W.heap.size [.slice none 0 0, .bool false] rfl Y6.out.c Tryd.underlying36 rfl size36 ?_
    exact PaP.bad Y6.out.bl
end Go.Proofs.YtbpdmkohihgnjaaDoor
