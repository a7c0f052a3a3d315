import Derived.Test.YtbjinmlelchmgaaGreatDoorP30
import Derived.Test.YtbjinmlelchmgaaGreatDoorP01
namespace Go.Proofs.YtbjinmlelchmgaaGreatDoor
open Go.RowKit
set_option maxRecDepth 100000
set_option maxHeartbeats 8000000
theorem flatten_get (s : Nat) (L : List (List Value)) (hL : ∀ l ∈ L, l.length = s) (j : Nat) (l : List Value) (hj : L[j]? = some l) (i : Nat) (v : Value) (hi : l[i]? = some v) : L.flatten[j * s + i]? = some v := by
  induction L generalizing j with
  | nil => simp at hj
  | cons y L ih =>
    have hy := hL y (.head _)
    have hil : i < l.length := (List.getElem?_eq_some_iff.1 hi).1
    rw [List.flatten_cons]
    cases j with
    | zero =>
      simp only [List.getElem?_cons_zero, Option.some.injEq] at hj
      subst hj
      rw [List.getElem?_append_left (by omega)]
      simpa using hi
    | succ j =>
      rw [Nat.succ_mul, List.getElem?_append_right (by omega), hy]
      have := ih (fun l h => hL l (.tail _ h)) j (by simpa using hj)
      rw [show j * s + s + i - s = j * s + i by omega]
      exact this
theorem own_sub {w : World} {B : Nat} {e : TypeId} {s : Nat} {v : Value} {n : Nat} {L : List (List Value)} (h : w.ownsRow B e s v n L.flatten) (hL : ∀ l ∈ L, l.length = s) (hn : 0 < n) (hs : 0 < s) : ∃ g cap, v = .slice (some ⟨g, 0, none⟩) n cap ∧ g < w.heap.size ∧ ∀ j l, L[j]? = some l → w.rangeAt g (j * s) l := by
  obtain ⟨ao, cap, rfl⟩ := own_frm h hs
  obtain ⟨g, rfl⟩ := own_some h hn
  refine ⟨g, cap, rfl, (own_lt2 h rfl).2, fun j l hj i u hi => ?_⟩
  have := own_rng h (j * s + i) u (flatten_get s L hL j l hj i u hi)
  rw [Nat.zero_add] at this
  exact this
theorem rangeAt_on {W w : World} {g off : Nat} {cs : List Value} (h : W.rangeAt g off cs) (hg : g < W.heap.size) (hb : Below W.heap.size W w) : w.rangeAt g off cs := fun j v hv => (hb.cell (p := ⟨g, off + j, none⟩) hg).trans (h j v hv)
theorem hk_rows {w : World} {B : Nat} {e : TypeId} {st n m : Nat} {vl vm : Value} {cs : List Value} (h : Hk.ok w B ⟨e, st, vl, vm, n, m, cs⟩) (hc : cs.length = st) (hs : 0 < st) (hm : 0 < m) :
    ∃ al cl gm cm, vl = .slice al n cl ∧ vm = .slice (some ⟨gm, 0, none⟩) m cm ∧ gm < w.heap.size ∧ (∀ j, j < m → w.rangeAt gm (j * st) cs) ∧ ∀ j, j < n → ∃ gl, al = some ⟨gl, 0, none⟩ ∧ gl < w.heap.size ∧ w.rangeAt gl (j * st) cs := by
  have rep : ∀ n i, i < n → (List.replicate n cs)[i]? = some cs := fun n i hi => by rw [List.getElem?_replicate, if_pos hi]
  obtain ⟨gm, cm, h1, h2, h3⟩ := own_sub (L := List.replicate m cs) h.m (fun l hl => by rw [List.eq_of_mem_replicate hl]; exact hc) hm hs
  obtain ⟨al, cl, h4⟩ := own_frm h.l hs
  refine ⟨al, cl, gm, cm, h4, h1, h2, fun j hj => h3 j _ (rep _ _ hj), fun j hj => ?_⟩
  obtain ⟨gl, cl', l1, l2, l3⟩ := own_sub (L := List.replicate n cs) h.l (fun l hl => by rw [List.eq_of_mem_replicate hl]; exact hc) (by show 0 < n; omega) hs
  replace h4 : vl = .slice al n cl := h4
  replace l1 : vl = .slice (some ⟨gl, 0, none⟩) n cl' := l1
  rw [h4] at l1
  cases l1
  exact ⟨gl, rfl, l2, l3 j _ (rep _ _ hj)⟩
theorem fields61 : (Tryz.prog.fieldsOf 61).toList.map (fun f => (f.type, f.offset)) = [(9, 0), (4, 1), (3, 2)] := by kernel_rfl
theorem under61 : Tryz.prog.underlying 61 = some (.struct (Tryz.prog.fieldsOf 61)) := by kernel_rfl
theorem under9 : Tryz.prog.underlying 9 = some .string := by kernel_rfl
theorem under4 : Tryz.prog.underlying 4 = some .bool := by kernel_rfl
theorem under3 : Tryz.prog.underlying 3 = some (.int .i64) := by kernel_rfl
theorem st61 : Tryz.prog.stoodInHeld 61 = false := by kernel_rfl
theorem guard61 : Tryz.prog.eqGuardType Tryz.prog.depth 61 = false := by kernel_rfl
theorem eq61 (w : World) (s : ByteArray) (b : Bool) (m : Int) : (Op.equalIn 10000 61 (.agg #[.string s, .bool b, .int .i64 m]) (.agg #[.string s, .bool b, .int .i64 m])).run Tryz.prog w = .ok true w := by
  rw [run_equalIn_struct w 9999 61 _ _ under61 st61]
  have h := fields61
  generalize (Tryz.prog.fieldsOf 61).toList = L at h ⊢
  have hl : L.length = 3 := by have := congrArg List.length h; simpa using this
  match L, hl with
  | [f1, f2, f3], _ =>
    simp only [List.map_cons, List.map_nil, List.cons.injEq, Prod.mk.injEq, and_true] at h
    obtain ⟨⟨a1, a2⟩, ⟨b1, b2⟩, c1, c2⟩ := h
    have e1 := run_equalIn_string (P := Tryz.prog) w 9998 9 s s under9
    have e2 := run_equalIn_bool' (P := Tryz.prog) w 9998 4 b b under4
    have e3 := run_equalIn_int (P := Tryz.prog) w 9998 3 .i64 .i64 m m under3
    have p1 : (part 9 #[.string s, .bool b, .int .i64 m] 0).run Tryz.prog w = .ok (.string s) w := by simp [part, isAgg, run_underlying under9]
    have p2 : (part 4 #[.string s, .bool b, .int .i64 m] 1).run Tryz.prog w = .ok (.bool b) w := by simp [part, isAgg, run_underlying under4]
    have p3 : (part 3 #[.string s, .bool b, .int .i64 m] 2).run Tryz.prog w = .ok (.int .i64 m) w := by simp [part, isAgg, run_underlying under3]
    simp only [Op.eqFields, a1, a2, b1, b2, c1, c2, Sem.run_bind, p1, p2, p3, Result.andThen_ok, e1, e2, e3, Sem.run_ite, Sem.run_pure]
    simp
theorem exec_neV {a : Act} {w : World} {o : Oper} (T : TypeId) (x y : Operand) (ho : o.op = .binOp .neq T x y T) (u v : Array Value) (hx : a.eval x = .agg u) (hy : a.eval y = .agg v) (hg : Tryz.prog.eqGuardType Tryz.prog.depth T = false) (c b : Bool) (hb : (Op.equalIn 10000 T (.agg u) (.agg v)).run Tryz.prog w = .ok c w) (hc : (!c) = b) :
    (execOp a.eval o).run Tryz.prog w = .ok (.value (.bool b)) w := by
  have hg' : (eqGuard .neq T x y (.agg u) (.agg v)).run Tryz.prog w = .ok () w := run_eqGuard_agg w .neq T x y _ _ hg
  have hr : (binOp .neq T (.agg u) (.agg v)).run Tryz.prog w = .ok (.bool (!c)) w := by rw [run_neq_struct, hb]; rfl
  unfold execOp
  simp only [ho, hx, hy, Sem.run_bind, Sem.run_pure, hg', hr, Result.andThen_ok, hc]
theorem stays_any (w : World) (B : Nat) (n1 n2 n3 m : Nat) (l1 m1 l2 m2 l3 m3 : Value) (hm : m < 256) (k1 : Hk.ok w B ⟨9, 1, l1, m1, n1, n1 + 1, [.string (mks m)]⟩) (k2 : Hk.ok w B ⟨61, 3, l2, m2, n2, n2 + 1, mkw m⟩) (k3 : Hk.ok w B ⟨5, 1, l3, m3, n3, n3 + 1, mkb m⟩) (h1 : n1 ≤ 10000000) (h2 : n2 ≤ 10000000) (h3 : n3 ≤ 10000000) :
    Calls Tryz.prog 9 #[.agg #[l1, m1, l2, m2, l3, m3, .int .u8 (m : Int)]] w fun e w' => e = .returned (.bool true) ∧ Below w.heap.size w w' := by
  have q1 : (n1 : Int) ≤ 10000000 := by omega
  have q2 : (n2 : Int) ≤ 10000000 := by omega
  have q3 : (n3 : Int) ≤ 10000000 := by omega
  obtain ⟨al, cl, gm, cm, rfl, rfl, u1, u2, u3⟩ := hk_rows k1 rfl (by decide) (by omega)
  obtain ⟨bl, dl, hm', dm, rfl, rfl, u4, u5, u6⟩ := hk_rows k2 rfl (by decide) (by omega)
  obtain ⟨xl, el, pm, em, rfl, rfl, u7, u8, u9⟩ := hk_rows k3 rfl (by decide) (by omega)
  have HU2 := hid (fun (w' : World) (hw : Below w.heap.size w w') (j : Nat) (hj : j < n1 + 1) => rangeAt_on (u2 j hj) u1 hw)
  have HU3 := hid (fun (w' : World) (hw : Below w.heap.size w w') (j : Nat) (hj : j < n1) => (u3 j hj).imp fun g h => And.intro h.1 (rangeAt_on h.2.2 h.2.1 hw))
  have HU5 := hid (fun (w' : World) (hw : Below w.heap.size w w') (j : Nat) (hj : j < n2 + 1) => rangeAt_on (u5 j hj) u4 hw)
  have HU6 := hid (fun (w' : World) (hw : Below w.heap.size w w') (j : Nat) (hj : j < n2) => (u6 j hj).imp fun g h => And.intro h.1 (rangeAt_on h.2.2 h.2.1 hw))
  have HU8 := hid (fun (w' : World) (hw : Below w.heap.size w w') (j : Nat) (hj : j < n3 + 1) => rangeAt_on (u8 j hj) u7 hw)
  have HU9 := hid (fun (w' : World) (hw : Below w.heap.size w w') (j : Nat) (hj : j < n3) => (u9 j hj).imp fun g h => And.intro h.1 (rangeAt_on h.2.2 h.2.1 hw))
  have HB0 := hid (((KS.start w).box 28 [.slice al n1 cl, .slice (some ⟨gm, 0, none⟩) (n1 + 1) cm, .slice bl n2 dl, .slice (some ⟨hm', 0, none⟩) (n2 + 1) dm, .slice xl n3 el, .slice (some ⟨pm, 0, none⟩) (n3 + 1) em, .int .u8 (m : Int)]))
  have HB3 := hid ((HB0.out.on (below_one _ (.cells #[.int .u8 109, .int .u8 (m : Int)] 5))).box 61 (mkw m))
  have hcv := conv_two (w.alloc (Obj.cells #[.slice al n1 cl, .slice (some ⟨gm, 0, none⟩) (n1 + 1) cm, .slice bl n2 dl, .slice (some ⟨hm', 0, none⟩) (n2 + 1) dm, .slice xl n3 el, .slice (some ⟨pm, 0, none⟩) (n3 + 1) em, .int .u8 (m : Int)] 28)) m hm
  rw [World.size_alloc] at hcv
  rw [World.size_alloc, World.size_alloc] at HB3
  clear HB0 u1 u2 u3 u4 u5 u6 u7 u8 u9 k1 k2 k3
  unfold mkw mkb at *
  generalize mks m = s at *
  generalize hm' = hm at *
  go_enter Tryz.func9, Tryz.ntmps9
  go_upto_region 3 with fail
  clear hcv
  generalize (World.alloc (World.alloc (World.alloc w _) _) _) = w3 at *
  generalize hgw : w.heap.size + 1 + 1 = gw at *
  generalize hgh : w.heap.size = gh at *
  go_wp2_with fail
  have HB := HB3
  have HGH := hid hgh
  clear HB3 hgw hgh
  go_loopw [5] (fun i wr => ∃ j : Nat, j ≤ n1 + 1 ∧ i = .int .i64 (j : Int) ∧ Hid (KS w wr [bx 61 gw [.string s, .bool false, .int .i64 (m : Int)], bx 28 gh [.slice al n1 cl, .slice (some ⟨gm, 0, none⟩) (n1 + 1) cm, .slice bl n2 dl, .slice (some ⟨hm, 0, none⟩) (n2 + 1) dm, .slice xl n3 el, .slice (some ⟨pm, 0, none⟩) (n3 + 1) em, .int .u8 (m : Int)]] [])) (fun i _ => n1 + 1 - (intOf i).toNat)
  case atStart => exact ⟨0, Nat.zero_le _, rfl, HB⟩
  case round =>
    clear HB
    obtain ⟨j, hj, rfl, HB⟩ := hrel
    have z0 := (HB.out.cel 1 rfl).cell 0
    have z1 := (HB.out.cel 1 rfl).cell 1
    have z2 := (HB.out.cel 1 rfl).cell 2
    have z3 := (HB.out.cel 1 rfl).cell 3
    have z4 := (HB.out.cel 1 rfl).cell 4
    have z5 := (HB.out.cel 1 rfl).cell 5
    have z6 := (HB.out.cel 1 rfl).cell 6
    simp only [List.getElem?_cons_zero, List.getElem?_cons_succ] at z0 z1 z2 z3 z4 z5 z6
    have v0 := (HB.out.cel 0 rfl).cell 0
    have v1 := (HB.out.cel 0 rfl).cell 1
    have v2 := (HB.out.cel 0 rfl).cell 2
    simp only [List.getElem?_cons_zero, List.getElem?_cons_succ] at v0 v1 v2
    by_cases hlt : j < n1 + 1
    · have p1 : (j : Int) < (n1 : Int) + 1 := by omega
      have p2 : j < n1 + 1 := hlt
      have HY := hid ((HU2.out wr (HGH.out ▸ HB.out.below) j hlt))
      have y0 := HY.out 0 _ rfl
      rw [Nat.mul_one, Nat.add_zero] at y0
      by_cases hin : j < n1
      · have p3 : (j : Int) < (n1 : Int) := by omega
        obtain ⟨gl, rfl, hx⟩ := HU3.out wr (HGH.out ▸ HB.out.below) j hin
        have x0 := hx 0 _ rfl
        rw [Nat.mul_one, Nat.add_zero] at x0
        clear hx
        go_wp2_with fail
        go_roundw
        case measure => simp [intOf] <;> omega
        case rel => exact ⟨j + 1, by omega, by simp, HB⟩
      · have p3 : (n1 : Int) ≤ (j : Int) := by omega
        go_wp2_with fail
        go_roundw
        case measure => simp [intOf] <;> omega
        case rel => exact ⟨j + 1, by omega, by simp, HB⟩
    · have p1 : (n1 : Int) + 1 ≤ (j : Int) := by omega
      go_wp2_with fail
      go_loopw [6] (fun i wr => ∃ j : Nat, j ≤ n2 + 1 ∧ i = .int .i64 (j : Int) ∧ Hid (KS w wr [bx 61 gw [.string s, .bool false, .int .i64 (m : Int)], bx 28 gh [.slice al n1 cl, .slice (some ⟨gm, 0, none⟩) (n1 + 1) cm, .slice bl n2 dl, .slice (some ⟨hm, 0, none⟩) (n2 + 1) dm, .slice xl n3 el, .slice (some ⟨pm, 0, none⟩) (n3 + 1) em, .int .u8 (m : Int)]] [])) (fun i _ => n2 + 1 - (intOf i).toNat)
      case atStart => exact ⟨0, Nat.zero_le _, rfl, HB⟩
      case round =>
        clear HB
        obtain ⟨j, hj, rfl, HB⟩ := hrel
        have z0 := (HB.out.cel 1 rfl).cell 0
        have z1 := (HB.out.cel 1 rfl).cell 1
        have z2 := (HB.out.cel 1 rfl).cell 2
        have z3 := (HB.out.cel 1 rfl).cell 3
        have z4 := (HB.out.cel 1 rfl).cell 4
        have z5 := (HB.out.cel 1 rfl).cell 5
        have z6 := (HB.out.cel 1 rfl).cell 6
        simp only [List.getElem?_cons_zero, List.getElem?_cons_succ] at z0 z1 z2 z3 z4 z5 z6
        have v0 := (HB.out.cel 0 rfl).cell 0
        have v1 := (HB.out.cel 0 rfl).cell 1
        have v2 := (HB.out.cel 0 rfl).cell 2
        simp only [List.getElem?_cons_zero, List.getElem?_cons_succ] at v0 v1 v2
        by_cases hlt : j < n2 + 1
        · have p1 : (j : Int) < (n2 : Int) + 1 := by omega
          have p2 : j < n2 + 1 := hlt
          have HY := hid ((HU5.out wr (HGH.out ▸ HB.out.below) j hlt))
          have y0 := HY.out 0 _ rfl
          have y1 := HY.out 1 _ rfl
          have y2 := HY.out 2 _ rfl
          rw [Nat.add_zero] at y0
          by_cases hin : j < n2
          · have p3 : (j : Int) < (n2 : Int) := by omega
            obtain ⟨gl, rfl, hx⟩ := HU6.out wr (HGH.out ▸ HB.out.below) j hin
            have x0 := hx 0 _ rfl
            have x1 := hx 1 _ rfl
            have x2 := hx 2 _ rfl
            rw [Nat.add_zero] at x0
            clear hx
            go_upto_region 11 with fail
            have HB5 := hid (HB.out.on (Below.refl _ _).drew)
            refine wp_region_held_drew (S := fun w => w = World.drew wr) (by kernel_rfl) rfl (fun hHeld => ?_)
            refine tk 0 ⟨some 54, .fieldAddr 28 (.tmp 1) 3, 0, "law.go:169", #[], none⟩ (.pointer (some ⟨gh, 3, none⟩)) ?_
            simp only [Act.put, List.setIfInBounds_toArray, List.set_cons_zero, List.set_cons_succ]
            refine tk 1 ⟨some 55, .load 25 (.tmp 54), 25, "law.go:169", #[⟨0, .data⟩], none⟩ (.slice (some ⟨hm, 0, none⟩) (n2 + 1) dm) ?_ (hy := Or.inl ⟨by rfl, by intro w hSw; have e : w = World.drew wr := hSw; subst e; go_simp⟩)
            simp only [Act.put, List.setIfInBounds_toArray, List.set_cons_zero, List.set_cons_succ]
            refine tk 2 ⟨some 56, .move (.tmp 6), 3, "law.go:169", #[], none⟩ (.int .i64 (j : Int)) ?_
            simp only [Act.put, List.setIfInBounds_toArray, List.set_cons_zero, List.set_cons_succ]
            refine tk 3 ⟨some 57, .indexAddr 25 (.tmp 55) (.tmp 56), 0, "law.go:169", #[⟨1, .data⟩, ⟨2, .data⟩], none⟩ (.pointer (some ⟨hm, j * 3, none⟩)) ?_
            simp only [Act.put, List.setIfInBounds_toArray, List.set_cons_zero, List.set_cons_succ]
            refine tk 4 ⟨some 58, .load 61 (.tmp 57), 61, "law.go:169", #[⟨3, .data⟩], none⟩ (.agg #[.string s, .bool false, .int .i64 (m : Int)]) ?_ (hy := Or.inl ⟨by rfl, by intro w hSw; have e : w = World.drew wr := hSw; subst e; go_simp⟩)
            simp only [Act.put, List.setIfInBounds_toArray, List.set_cons_zero, List.set_cons_succ]
            refine tk 5 ⟨some 59, .load 61 (.tmp 4), 61, "law.go:169", #[], none⟩ (.agg #[.string s, .bool false, .int .i64 (m : Int)]) ?_ (hy := Or.inl ⟨by rfl, by intro w hSw; have e : w = World.drew wr := hSw; subst e; go_simp⟩)
            simp only [Act.put, List.setIfInBounds_toArray, List.set_cons_zero, List.set_cons_succ]
            refine tk 6 ⟨some 60, .binOp .neq 61 (.tmp 58) (.tmp 59) 61, 4, "law.go:169", #[⟨4, .data⟩, ⟨5, .data⟩], none⟩ (.bool false) ?_ (hy := Or.inl ⟨by rfl, fun w hSw => exec_neV 61 _ _ rfl _ _ rfl rfl guard61 _ _ (eq61 w s false (m : Int)) rfl⟩)
            simp only [Act.put, List.setIfInBounds_toArray, List.set_cons_zero, List.set_cons_succ]
            refine tk 7 ⟨some 61, .move (.tmp 60), 4, "law.go:169", #[⟨6, .data⟩], none⟩ (.bool false) ?_
            simp only [Act.put, List.setIfInBounds_toArray, List.set_cons_zero, List.set_cons_succ]
            refine tk 8 ⟨some 62, .move (.tmp 6), 3, "law.go:169", #[⟨7, .guard⟩], some (7, false)⟩ (.int .i64 (j : Int)) ?_
            simp only [Act.put, List.setIfInBounds_toArray, List.set_cons_zero, List.set_cons_succ]
            refine tk 9 ⟨some 63, .fieldAddr 28 (.tmp 1) 2, 0, "law.go:169", #[⟨7, .guard⟩], some (7, false)⟩ (.pointer (some ⟨gh, 2, none⟩)) ?_
            simp only [Act.put, List.setIfInBounds_toArray, List.set_cons_zero, List.set_cons_succ]
            refine tk 10 ⟨some 64, .load 25 (.tmp 63), 25, "law.go:169", #[⟨9, .data⟩, ⟨7, .guard⟩], some (7, false)⟩ (.slice (some ⟨gl, 0, none⟩) n2 dl) ?_ (hy := Or.inl ⟨by rfl, by intro w hSw; have e : w = World.drew wr := hSw; subst e; go_simp⟩)
            simp only [Act.put, List.setIfInBounds_toArray, List.set_cons_zero, List.set_cons_succ]
            refine tk 11 ⟨some 65, .call { callee := .builtin .len, args := #[.tmp 64], argTypes := #[25] }, 3, "law.go:169", #[⟨10, .data⟩, ⟨7, .guard⟩], some (7, false)⟩ (.int .i64 (n2 : Int)) ?_
            simp only [Act.put, List.setIfInBounds_toArray, List.set_cons_zero, List.set_cons_succ]
            refine tk 12 ⟨some 66, .binOp .lss 3 (.tmp 62) (.tmp 65) 3, 4, "law.go:169", #[⟨8, .data⟩, ⟨11, .data⟩, ⟨7, .guard⟩], some (7, false)⟩ (.bool true) ?_ (hy := Or.inl ⟨by rfl, by intro w hSw; have e : w = World.drew wr := hSw; subst e; go_simp⟩)
            simp only [Act.put, List.setIfInBounds_toArray, List.set_cons_zero, List.set_cons_succ]
            refine tk 13 ⟨some 67, .move (.tmp 66), 4, "law.go:169", #[⟨12, .data⟩, ⟨7, .chain⟩, ⟨7, .guard⟩], some (7, false)⟩ (.bool true) ?_
            simp only [Act.put, List.setIfInBounds_toArray, List.set_cons_zero, List.set_cons_succ]
            refine tk 14 ⟨some 68, .fieldAddr 28 (.tmp 1) 2, 0, "law.go:169", #[⟨13, .guard⟩], some (13, true)⟩ (.pointer (some ⟨gh, 2, none⟩)) ?_
            simp only [Act.put, List.setIfInBounds_toArray, List.set_cons_zero, List.set_cons_succ]
            refine tk 15 ⟨some 69, .load 25 (.tmp 68), 25, "law.go:169", #[⟨14, .data⟩, ⟨13, .guard⟩], some (13, true)⟩ (.slice (some ⟨gl, 0, none⟩) n2 dl) ?_ (hy := Or.inl ⟨by rfl, by intro w hSw; have e : w = World.drew wr := hSw; subst e; go_simp⟩)
            simp only [Act.put, List.setIfInBounds_toArray, List.set_cons_zero, List.set_cons_succ]
            refine tk 16 ⟨some 70, .move (.tmp 6), 3, "law.go:169", #[⟨13, .guard⟩], some (13, true)⟩ (.int .i64 (j : Int)) ?_
            simp only [Act.put, List.setIfInBounds_toArray, List.set_cons_zero, List.set_cons_succ]
            refine tk 17 ⟨some 71, .indexAddr 25 (.tmp 69) (.tmp 70), 0, "law.go:169", #[⟨15, .data⟩, ⟨16, .data⟩, ⟨13, .guard⟩], some (13, true)⟩ (.pointer (some ⟨gl, j * 3, none⟩)) ?_
            simp only [Act.put, List.setIfInBounds_toArray, List.set_cons_zero, List.set_cons_succ]
            refine tk 18 ⟨some 72, .load 61 (.tmp 71), 61, "law.go:169", #[⟨17, .data⟩, ⟨13, .guard⟩], some (13, true)⟩ (.agg #[.string s, .bool false, .int .i64 (m : Int)]) ?_ (hy := Or.inl ⟨by rfl, by intro w hSw; have e : w = World.drew wr := hSw; subst e; go_simp⟩)
            simp only [Act.put, List.setIfInBounds_toArray, List.set_cons_zero, List.set_cons_succ]
            refine tk 19 ⟨some 73, .load 61 (.tmp 4), 61, "law.go:169", #[⟨13, .guard⟩], some (13, true)⟩ (.agg #[.string s, .bool false, .int .i64 (m : Int)]) ?_ (hy := Or.inl ⟨by rfl, by intro w hSw; have e : w = World.drew wr := hSw; subst e; go_simp⟩)
            simp only [Act.put, List.setIfInBounds_toArray, List.set_cons_zero, List.set_cons_succ]
            refine tk 20 ⟨some 74, .binOp .neq 61 (.tmp 72) (.tmp 73) 61, 4, "law.go:169", #[⟨18, .data⟩, ⟨19, .data⟩, ⟨13, .guard⟩], some (13, true)⟩ (.bool false) ?_ (hy := Or.inl ⟨by rfl, fun w hSw => exec_neV 61 _ _ rfl _ _ rfl rfl guard61 _ _ (eq61 w s false (m : Int)) rfl⟩)
            simp only [Act.put, List.setIfInBounds_toArray, List.set_cons_zero, List.set_cons_succ]
            refine tk 21 ⟨some 75, .pick (.tmp 67) (.tmp 74) (.const (.bool false)), 4, "law.go:169", #[⟨13, .data⟩, ⟨20, .data⟩, ⟨7, .guard⟩], some (7, false)⟩ (.bool false) ?_
            simp only [Act.put, List.setIfInBounds_toArray, List.set_cons_zero, List.set_cons_succ]
            refine tk 22 ⟨some 76, .pick (.tmp 61) (.const (.bool true)) (.tmp 75), 4, "law.go:169", #[⟨7, .data⟩, ⟨21, .data⟩], none⟩ (.bool false) ?_
            simp only [Act.put, List.setIfInBounds_toArray, List.set_cons_zero, List.set_cons_succ]
            refine wpAnyH_done (by kernel_rfl) ?_ _
            go_wp2_with fail
            go_roundw
            case measure => simp [intOf] <;> omega
            case rel => exact ⟨j + 1, by omega, by simp, HB5⟩
          · have p3 : (n2 : Int) ≤ (j : Int) := by omega
            go_upto_region 11 with fail
            have HB5 := hid (HB.out.on (Below.refl _ _).drew)
            refine wp_region_held_drew (S := fun w => w = World.drew wr) (by kernel_rfl) rfl (fun hHeld => ?_)
            refine tk 0 ⟨some 54, .fieldAddr 28 (.tmp 1) 3, 0, "law.go:169", #[], none⟩ (.pointer (some ⟨gh, 3, none⟩)) ?_
            simp only [Act.put, List.setIfInBounds_toArray, List.set_cons_zero, List.set_cons_succ]
            refine tk 1 ⟨some 55, .load 25 (.tmp 54), 25, "law.go:169", #[⟨0, .data⟩], none⟩ (.slice (some ⟨hm, 0, none⟩) (n2 + 1) dm) ?_ (hy := Or.inl ⟨by rfl, by intro w hSw; have e : w = World.drew wr := hSw; subst e; go_simp⟩)
            simp only [Act.put, List.setIfInBounds_toArray, List.set_cons_zero, List.set_cons_succ]
            refine tk 2 ⟨some 56, .move (.tmp 6), 3, "law.go:169", #[], none⟩ (.int .i64 (j : Int)) ?_
            simp only [Act.put, List.setIfInBounds_toArray, List.set_cons_zero, List.set_cons_succ]
            refine tk 3 ⟨some 57, .indexAddr 25 (.tmp 55) (.tmp 56), 0, "law.go:169", #[⟨1, .data⟩, ⟨2, .data⟩], none⟩ (.pointer (some ⟨hm, j * 3, none⟩)) ?_
            simp only [Act.put, List.setIfInBounds_toArray, List.set_cons_zero, List.set_cons_succ]
            refine tk 4 ⟨some 58, .load 61 (.tmp 57), 61, "law.go:169", #[⟨3, .data⟩], none⟩ (.agg #[.string s, .bool false, .int .i64 (m : Int)]) ?_ (hy := Or.inl ⟨by rfl, by intro w hSw; have e : w = World.drew wr := hSw; subst e; go_simp⟩)
            simp only [Act.put, List.setIfInBounds_toArray, List.set_cons_zero, List.set_cons_succ]
            refine tk 5 ⟨some 59, .load 61 (.tmp 4), 61, "law.go:169", #[], none⟩ (.agg #[.string s, .bool false, .int .i64 (m : Int)]) ?_ (hy := Or.inl ⟨by rfl, by intro w hSw; have e : w = World.drew wr := hSw; subst e; go_simp⟩)
            simp only [Act.put, List.setIfInBounds_toArray, List.set_cons_zero, List.set_cons_succ]
            refine tk 6 ⟨some 60, .binOp .neq 61 (.tmp 58) (.tmp 59) 61, 4, "law.go:169", #[⟨4, .data⟩, ⟨5, .data⟩], none⟩ (.bool false) ?_ (hy := Or.inl ⟨by rfl, fun w hSw => exec_neV 61 _ _ rfl _ _ rfl rfl guard61 _ _ (eq61 w s false (m : Int)) rfl⟩)
            simp only [Act.put, List.setIfInBounds_toArray, List.set_cons_zero, List.set_cons_succ]
            refine tk 7 ⟨some 61, .move (.tmp 60), 4, "law.go:169", #[⟨6, .data⟩], none⟩ (.bool false) ?_
            simp only [Act.put, List.setIfInBounds_toArray, List.set_cons_zero, List.set_cons_succ]
            refine tk 8 ⟨some 62, .move (.tmp 6), 3, "law.go:169", #[⟨7, .guard⟩], some (7, false)⟩ (.int .i64 (j : Int)) ?_
            simp only [Act.put, List.setIfInBounds_toArray, List.set_cons_zero, List.set_cons_succ]
            refine tk 9 ⟨some 63, .fieldAddr 28 (.tmp 1) 2, 0, "law.go:169", #[⟨7, .guard⟩], some (7, false)⟩ (.pointer (some ⟨gh, 2, none⟩)) ?_
            simp only [Act.put, List.setIfInBounds_toArray, List.set_cons_zero, List.set_cons_succ]
            refine tk 10 ⟨some 64, .load 25 (.tmp 63), 25, "law.go:169", #[⟨9, .data⟩, ⟨7, .guard⟩], some (7, false)⟩ (.slice bl n2 dl) ?_ (hy := Or.inl ⟨by rfl, by intro w hSw; have e : w = World.drew wr := hSw; subst e; go_simp⟩)
            simp only [Act.put, List.setIfInBounds_toArray, List.set_cons_zero, List.set_cons_succ]
            refine tk 11 ⟨some 65, .call { callee := .builtin .len, args := #[.tmp 64], argTypes := #[25] }, 3, "law.go:169", #[⟨10, .data⟩, ⟨7, .guard⟩], some (7, false)⟩ (.int .i64 (n2 : Int)) ?_
            simp only [Act.put, List.setIfInBounds_toArray, List.set_cons_zero, List.set_cons_succ]
            refine tk 12 ⟨some 66, .binOp .lss 3 (.tmp 62) (.tmp 65) 3, 4, "law.go:169", #[⟨8, .data⟩, ⟨11, .data⟩, ⟨7, .guard⟩], some (7, false)⟩ (.bool false) ?_ (hy := Or.inl ⟨by rfl, by intro w hSw; have e : w = World.drew wr := hSw; subst e; go_simp⟩)
            simp only [Act.put, List.setIfInBounds_toArray, List.set_cons_zero, List.set_cons_succ]
            refine tk 13 ⟨some 67, .move (.tmp 66), 4, "law.go:169", #[⟨12, .data⟩, ⟨7, .chain⟩, ⟨7, .guard⟩], some (7, false)⟩ (.bool false) ?_
            simp only [Act.put, List.setIfInBounds_toArray, List.set_cons_zero, List.set_cons_succ]
            refine tk 14 ⟨some 68, .fieldAddr 28 (.tmp 1) 2, 0, "law.go:169", #[⟨13, .guard⟩], some (13, true)⟩ undef ?_ (hy := Or.inr ⟨by rfl, rfl⟩)
            simp only [Act.put, List.setIfInBounds_toArray, List.set_cons_zero, List.set_cons_succ]
            refine tk 15 ⟨some 69, .load 25 (.tmp 68), 25, "law.go:169", #[⟨14, .data⟩, ⟨13, .guard⟩], some (13, true)⟩ undef ?_ (hy := Or.inr ⟨by rfl, rfl⟩)
            simp only [Act.put, List.setIfInBounds_toArray, List.set_cons_zero, List.set_cons_succ]
            refine tk 16 ⟨some 70, .move (.tmp 6), 3, "law.go:169", #[⟨13, .guard⟩], some (13, true)⟩ undef ?_ (hy := Or.inr ⟨by rfl, rfl⟩)
            simp only [Act.put, List.setIfInBounds_toArray, List.set_cons_zero, List.set_cons_succ]
            refine tk 17 ⟨some 71, .indexAddr 25 (.tmp 69) (.tmp 70), 0, "law.go:169", #[⟨15, .data⟩, ⟨16, .data⟩, ⟨13, .guard⟩], some (13, true)⟩ undef ?_ (hy := Or.inr ⟨by rfl, rfl⟩)
            simp only [Act.put, List.setIfInBounds_toArray, List.set_cons_zero, List.set_cons_succ]
            refine tk 18 ⟨some 72, .load 61 (.tmp 71), 61, "law.go:169", #[⟨17, .data⟩, ⟨13, .guard⟩], some (13, true)⟩ undef ?_ (hy := Or.inr ⟨by rfl, rfl⟩)
            simp only [Act.put, List.setIfInBounds_toArray, List.set_cons_zero, List.set_cons_succ]
            refine tk 19 ⟨some 73, .load 61 (.tmp 4), 61, "law.go:169", #[⟨13, .guard⟩], some (13, true)⟩ undef ?_ (hy := Or.inr ⟨by rfl, rfl⟩)
            simp only [Act.put, List.setIfInBounds_toArray, List.set_cons_zero, List.set_cons_succ]
            refine tk 20 ⟨some 74, .binOp .neq 61 (.tmp 72) (.tmp 73) 61, 4, "law.go:169", #[⟨18, .data⟩, ⟨19, .data⟩, ⟨13, .guard⟩], some (13, true)⟩ undef ?_ (hy := Or.inr ⟨by rfl, rfl⟩)
            simp only [Act.put, List.setIfInBounds_toArray, List.set_cons_zero, List.set_cons_succ]
            refine tk 21 ⟨some 75, .pick (.tmp 67) (.tmp 74) (.const (.bool false)), 4, "law.go:169", #[⟨13, .data⟩, ⟨20, .data⟩, ⟨7, .guard⟩], some (7, false)⟩ (.bool false) ?_
            simp only [Act.put, List.setIfInBounds_toArray, List.set_cons_zero, List.set_cons_succ]
            refine tk 22 ⟨some 76, .pick (.tmp 61) (.const (.bool true)) (.tmp 75), 4, "law.go:169", #[⟨7, .data⟩, ⟨21, .data⟩], none⟩ (.bool false) ?_
            simp only [Act.put, List.setIfInBounds_toArray, List.set_cons_zero, List.set_cons_succ]
            refine wpAnyH_done (by kernel_rfl) ?_ _
            go_wp2_with fail
            go_roundw
            case measure => simp [intOf] <;> omega
            case rel => exact ⟨j + 1, by omega, by simp, HB5⟩
        · have p1 : (n2 : Int) + 1 ≤ (j : Int) := by omega
          go_wp2_with fail
          go_loopw [7] (fun i wr => ∃ j : Nat, j ≤ n3 + 1 ∧ i = .int .i64 (j : Int) ∧ Hid (KS w wr [bx 61 gw [.string s, .bool false, .int .i64 (m : Int)], bx 28 gh [.slice al n1 cl, .slice (some ⟨gm, 0, none⟩) (n1 + 1) cm, .slice bl n2 dl, .slice (some ⟨hm, 0, none⟩) (n2 + 1) dm, .slice xl n3 el, .slice (some ⟨pm, 0, none⟩) (n3 + 1) em, .int .u8 (m : Int)]] [])) (fun i _ => n3 + 1 - (intOf i).toNat)
          case atStart => exact ⟨0, Nat.zero_le _, rfl, HB⟩
          case round =>
            clear HB
            obtain ⟨j, hj, rfl, HB⟩ := hrel
            have z0 := (HB.out.cel 1 rfl).cell 0
            have z1 := (HB.out.cel 1 rfl).cell 1
            have z2 := (HB.out.cel 1 rfl).cell 2
            have z3 := (HB.out.cel 1 rfl).cell 3
            have z4 := (HB.out.cel 1 rfl).cell 4
            have z5 := (HB.out.cel 1 rfl).cell 5
            have z6 := (HB.out.cel 1 rfl).cell 6
            simp only [List.getElem?_cons_zero, List.getElem?_cons_succ] at z0 z1 z2 z3 z4 z5 z6
            have v0 := (HB.out.cel 0 rfl).cell 0
            have v1 := (HB.out.cel 0 rfl).cell 1
            have v2 := (HB.out.cel 0 rfl).cell 2
            simp only [List.getElem?_cons_zero, List.getElem?_cons_succ] at v0 v1 v2
            by_cases hlt : j < n3 + 1
            · have p1 : (j : Int) < (n3 : Int) + 1 := by omega
              have p2 : j < n3 + 1 := hlt
              have HY := hid ((HU8.out wr (HGH.out ▸ HB.out.below) j hlt))
              have y0 := HY.out 0 _ rfl
              rw [Nat.mul_one, Nat.add_zero] at y0
              by_cases hin : j < n3
              · have p3 : (j : Int) < (n3 : Int) := by omega
                obtain ⟨gl, rfl, hx⟩ := HU9.out wr (HGH.out ▸ HB.out.below) j hin
                have x0 := hx 0 _ rfl
                rw [Nat.mul_one, Nat.add_zero] at x0
                clear hx
                go_upto_region 16 with fail
                have HB5 := hid (HB.out.on (Below.refl _ _).drew)
                refine wp_region_held_drew (S := fun w => w = World.drew wr) (by kernel_rfl) rfl (fun hHeld => ?_)
                refine tk 0 ⟨some 84, .fieldAddr 28 (.tmp 1) 5, 0, "law.go:174", #[], none⟩ (.pointer (some ⟨gh, 5, none⟩)) ?_
                simp only [Act.put, List.setIfInBounds_toArray, List.set_cons_zero, List.set_cons_succ]
                refine tk 1 ⟨some 85, .load 26 (.tmp 84), 26, "law.go:174", #[⟨0, .data⟩], none⟩ (.slice (some ⟨pm, 0, none⟩) (n3 + 1) em) ?_ (hy := Or.inl ⟨by rfl, by intro w hSw; have e : w = World.drew wr := hSw; subst e; go_simp⟩)
                simp only [Act.put, List.setIfInBounds_toArray, List.set_cons_zero, List.set_cons_succ]
                refine tk 2 ⟨some 86, .move (.tmp 7), 3, "law.go:174", #[], none⟩ (.int .i64 (j : Int)) ?_
                simp only [Act.put, List.setIfInBounds_toArray, List.set_cons_zero, List.set_cons_succ]
                refine tk 3 ⟨some 87, .indexAddr 26 (.tmp 85) (.tmp 86), 0, "law.go:174", #[⟨1, .data⟩, ⟨2, .data⟩], none⟩ (.pointer (some ⟨pm, j, none⟩)) ?_
                simp only [Act.put, List.setIfInBounds_toArray, List.set_cons_zero, List.set_cons_succ]
                refine tk 4 ⟨some 88, .load 5 (.tmp 87), 5, "law.go:174", #[⟨3, .data⟩], none⟩ (.int .u8 (m : Int)) ?_ (hy := Or.inl ⟨by rfl, by intro w hSw; have e : w = World.drew wr := hSw; subst e; go_simp⟩)
                simp only [Act.put, List.setIfInBounds_toArray, List.set_cons_zero, List.set_cons_succ]
                refine tk 5 ⟨some 89, .fieldAddr 28 (.tmp 1) 6, 0, "law.go:174", #[], none⟩ (.pointer (some ⟨gh, 6, none⟩)) ?_
                simp only [Act.put, List.setIfInBounds_toArray, List.set_cons_zero, List.set_cons_succ]
                refine tk 6 ⟨some 90, .load 5 (.tmp 89), 5, "law.go:174", #[⟨5, .data⟩], none⟩ (.int .u8 (m : Int)) ?_ (hy := Or.inl ⟨by rfl, by intro w hSw; have e : w = World.drew wr := hSw; subst e; go_simp⟩)
                simp only [Act.put, List.setIfInBounds_toArray, List.set_cons_zero, List.set_cons_succ]
                refine tk 7 ⟨some 91, .binOp .neq 5 (.tmp 88) (.tmp 90) 5, 4, "law.go:174", #[⟨4, .data⟩, ⟨6, .data⟩], none⟩ (.bool false) ?_ (hy := Or.inl ⟨by rfl, by intro w hSw; have e : w = World.drew wr := hSw; subst e; go_simp⟩)
                simp only [Act.put, List.setIfInBounds_toArray, List.set_cons_zero, List.set_cons_succ]
                refine tk 8 ⟨some 92, .move (.tmp 91), 4, "law.go:174", #[⟨7, .data⟩], none⟩ (.bool false) ?_
                simp only [Act.put, List.setIfInBounds_toArray, List.set_cons_zero, List.set_cons_succ]
                refine tk 9 ⟨some 93, .move (.tmp 7), 3, "law.go:174", #[⟨8, .guard⟩], some (8, false)⟩ (.int .i64 (j : Int)) ?_
                simp only [Act.put, List.setIfInBounds_toArray, List.set_cons_zero, List.set_cons_succ]
                refine tk 10 ⟨some 94, .fieldAddr 28 (.tmp 1) 4, 0, "law.go:174", #[⟨8, .guard⟩], some (8, false)⟩ (.pointer (some ⟨gh, 4, none⟩)) ?_
                simp only [Act.put, List.setIfInBounds_toArray, List.set_cons_zero, List.set_cons_succ]
                refine tk 11 ⟨some 95, .load 26 (.tmp 94), 26, "law.go:174", #[⟨10, .data⟩, ⟨8, .guard⟩], some (8, false)⟩ (.slice (some ⟨gl, 0, none⟩) n3 el) ?_ (hy := Or.inl ⟨by rfl, by intro w hSw; have e : w = World.drew wr := hSw; subst e; go_simp⟩)
                simp only [Act.put, List.setIfInBounds_toArray, List.set_cons_zero, List.set_cons_succ]
                refine tk 12 ⟨some 96, .call { callee := .builtin .len, args := #[.tmp 95], argTypes := #[26] }, 3, "law.go:174", #[⟨11, .data⟩, ⟨8, .guard⟩], some (8, false)⟩ (.int .i64 (n3 : Int)) ?_
                simp only [Act.put, List.setIfInBounds_toArray, List.set_cons_zero, List.set_cons_succ]
                refine tk 13 ⟨some 97, .binOp .lss 3 (.tmp 93) (.tmp 96) 3, 4, "law.go:174", #[⟨9, .data⟩, ⟨12, .data⟩, ⟨8, .guard⟩], some (8, false)⟩ (.bool true) ?_ (hy := Or.inl ⟨by rfl, by intro w hSw; have e : w = World.drew wr := hSw; subst e; go_simp⟩)
                simp only [Act.put, List.setIfInBounds_toArray, List.set_cons_zero, List.set_cons_succ]
                refine tk 14 ⟨some 98, .move (.tmp 97), 4, "law.go:174", #[⟨13, .data⟩, ⟨8, .chain⟩, ⟨8, .guard⟩], some (8, false)⟩ (.bool true) ?_
                simp only [Act.put, List.setIfInBounds_toArray, List.set_cons_zero, List.set_cons_succ]
                refine tk 15 ⟨some 99, .fieldAddr 28 (.tmp 1) 4, 0, "law.go:174", #[⟨14, .guard⟩], some (14, true)⟩ (.pointer (some ⟨gh, 4, none⟩)) ?_
                simp only [Act.put, List.setIfInBounds_toArray, List.set_cons_zero, List.set_cons_succ]
                refine tk 16 ⟨some 100, .load 26 (.tmp 99), 26, "law.go:174", #[⟨15, .data⟩, ⟨14, .guard⟩], some (14, true)⟩ (.slice (some ⟨gl, 0, none⟩) n3 el) ?_ (hy := Or.inl ⟨by rfl, by intro w hSw; have e : w = World.drew wr := hSw; subst e; go_simp⟩)
                simp only [Act.put, List.setIfInBounds_toArray, List.set_cons_zero, List.set_cons_succ]
                refine tk 17 ⟨some 101, .move (.tmp 7), 3, "law.go:174", #[⟨14, .guard⟩], some (14, true)⟩ (.int .i64 (j : Int)) ?_
                simp only [Act.put, List.setIfInBounds_toArray, List.set_cons_zero, List.set_cons_succ]
                refine tk 18 ⟨some 102, .indexAddr 26 (.tmp 100) (.tmp 101), 0, "law.go:174", #[⟨16, .data⟩, ⟨17, .data⟩, ⟨14, .guard⟩], some (14, true)⟩ (.pointer (some ⟨gl, j, none⟩)) ?_
                simp only [Act.put, List.setIfInBounds_toArray, List.set_cons_zero, List.set_cons_succ]
                refine tk 19 ⟨some 103, .load 5 (.tmp 102), 5, "law.go:174", #[⟨18, .data⟩, ⟨14, .guard⟩], some (14, true)⟩ (.int .u8 (m : Int)) ?_ (hy := Or.inl ⟨by rfl, by intro w hSw; have e : w = World.drew wr := hSw; subst e; go_simp⟩)
                simp only [Act.put, List.setIfInBounds_toArray, List.set_cons_zero, List.set_cons_succ]
                refine tk 20 ⟨some 104, .fieldAddr 28 (.tmp 1) 6, 0, "law.go:174", #[⟨14, .guard⟩], some (14, true)⟩ (.pointer (some ⟨gh, 6, none⟩)) ?_
                simp only [Act.put, List.setIfInBounds_toArray, List.set_cons_zero, List.set_cons_succ]
                refine tk 21 ⟨some 105, .load 5 (.tmp 104), 5, "law.go:174", #[⟨20, .data⟩, ⟨14, .guard⟩], some (14, true)⟩ (.int .u8 (m : Int)) ?_ (hy := Or.inl ⟨by rfl, by intro w hSw; have e : w = World.drew wr := hSw; subst e; go_simp⟩)
                simp only [Act.put, List.setIfInBounds_toArray, List.set_cons_zero, List.set_cons_succ]
                refine tk 22 ⟨some 106, .binOp .neq 5 (.tmp 103) (.tmp 105) 5, 4, "law.go:174", #[⟨19, .data⟩, ⟨21, .data⟩, ⟨14, .guard⟩], some (14, true)⟩ (.bool false) ?_ (hy := Or.inl ⟨by rfl, by intro w hSw; have e : w = World.drew wr := hSw; subst e; go_simp⟩)
                simp only [Act.put, List.setIfInBounds_toArray, List.set_cons_zero, List.set_cons_succ]
                refine tk 23 ⟨some 107, .pick (.tmp 98) (.tmp 106) (.const (.bool false)), 4, "law.go:174", #[⟨14, .data⟩, ⟨22, .data⟩, ⟨8, .guard⟩], some (8, false)⟩ (.bool false) ?_
                simp only [Act.put, List.setIfInBounds_toArray, List.set_cons_zero, List.set_cons_succ]
                refine tk 24 ⟨some 108, .pick (.tmp 92) (.const (.bool true)) (.tmp 107), 4, "law.go:174", #[⟨8, .data⟩, ⟨23, .data⟩], none⟩ (.bool false) ?_
                simp only [Act.put, List.setIfInBounds_toArray, List.set_cons_zero, List.set_cons_succ]
                refine wpAnyH_done (by kernel_rfl) ?_ _
                go_wp2_with fail
                go_roundw
                case measure => simp [intOf] <;> omega
                case rel => exact ⟨j + 1, by omega, by simp, HB5⟩
              · have p3 : (n3 : Int) ≤ (j : Int) := by omega
                go_upto_region 16 with fail
                have HB5 := hid (HB.out.on (Below.refl _ _).drew)
                refine wp_region_held_drew (S := fun w => w = World.drew wr) (by kernel_rfl) rfl (fun hHeld => ?_)
                refine tk 0 ⟨some 84, .fieldAddr 28 (.tmp 1) 5, 0, "law.go:174", #[], none⟩ (.pointer (some ⟨gh, 5, none⟩)) ?_
                simp only [Act.put, List.setIfInBounds_toArray, List.set_cons_zero, List.set_cons_succ]
                refine tk 1 ⟨some 85, .load 26 (.tmp 84), 26, "law.go:174", #[⟨0, .data⟩], none⟩ (.slice (some ⟨pm, 0, none⟩) (n3 + 1) em) ?_ (hy := Or.inl ⟨by rfl, by intro w hSw; have e : w = World.drew wr := hSw; subst e; go_simp⟩)
                simp only [Act.put, List.setIfInBounds_toArray, List.set_cons_zero, List.set_cons_succ]
                refine tk 2 ⟨some 86, .move (.tmp 7), 3, "law.go:174", #[], none⟩ (.int .i64 (j : Int)) ?_
                simp only [Act.put, List.setIfInBounds_toArray, List.set_cons_zero, List.set_cons_succ]
                refine tk 3 ⟨some 87, .indexAddr 26 (.tmp 85) (.tmp 86), 0, "law.go:174", #[⟨1, .data⟩, ⟨2, .data⟩], none⟩ (.pointer (some ⟨pm, j, none⟩)) ?_
                simp only [Act.put, List.setIfInBounds_toArray, List.set_cons_zero, List.set_cons_succ]
                refine tk 4 ⟨some 88, .load 5 (.tmp 87), 5, "law.go:174", #[⟨3, .data⟩], none⟩ (.int .u8 (m : Int)) ?_ (hy := Or.inl ⟨by rfl, by intro w hSw; have e : w = World.drew wr := hSw; subst e; go_simp⟩)
                simp only [Act.put, List.setIfInBounds_toArray, List.set_cons_zero, List.set_cons_succ]
                refine tk 5 ⟨some 89, .fieldAddr 28 (.tmp 1) 6, 0, "law.go:174", #[], none⟩ (.pointer (some ⟨gh, 6, none⟩)) ?_
                simp only [Act.put, List.setIfInBounds_toArray, List.set_cons_zero, List.set_cons_succ]
                refine tk 6 ⟨some 90, .load 5 (.tmp 89), 5, "law.go:174", #[⟨5, .data⟩], none⟩ (.int .u8 (m : Int)) ?_ (hy := Or.inl ⟨by rfl, by intro w hSw; have e : w = World.drew wr := hSw; subst e; go_simp⟩)
                simp only [Act.put, List.setIfInBounds_toArray, List.set_cons_zero, List.set_cons_succ]
                refine tk 7 ⟨some 91, .binOp .neq 5 (.tmp 88) (.tmp 90) 5, 4, "law.go:174", #[⟨4, .data⟩, ⟨6, .data⟩], none⟩ (.bool false) ?_ (hy := Or.inl ⟨by rfl, by intro w hSw; have e : w = World.drew wr := hSw; subst e; go_simp⟩)
                simp only [Act.put, List.setIfInBounds_toArray, List.set_cons_zero, List.set_cons_succ]
                refine tk 8 ⟨some 92, .move (.tmp 91), 4, "law.go:174", #[⟨7, .data⟩], none⟩ (.bool false) ?_
                simp only [Act.put, List.setIfInBounds_toArray, List.set_cons_zero, List.set_cons_succ]
                refine tk 9 ⟨some 93, .move (.tmp 7), 3, "law.go:174", #[⟨8, .guard⟩], some (8, false)⟩ (.int .i64 (j : Int)) ?_
                simp only [Act.put, List.setIfInBounds_toArray, List.set_cons_zero, List.set_cons_succ]
                refine tk 10 ⟨some 94, .fieldAddr 28 (.tmp 1) 4, 0, "law.go:174", #[⟨8, .guard⟩], some (8, false)⟩ (.pointer (some ⟨gh, 4, none⟩)) ?_
                simp only [Act.put, List.setIfInBounds_toArray, List.set_cons_zero, List.set_cons_succ]
                refine tk 11 ⟨some 95, .load 26 (.tmp 94), 26, "law.go:174", #[⟨10, .data⟩, ⟨8, .guard⟩], some (8, false)⟩ (.slice xl n3 el) ?_ (hy := Or.inl ⟨by rfl, by intro w hSw; have e : w = World.drew wr := hSw; subst e; go_simp⟩)
                simp only [Act.put, List.setIfInBounds_toArray, List.set_cons_zero, List.set_cons_succ]
                refine tk 12 ⟨some 96, .call { callee := .builtin .len, args := #[.tmp 95], argTypes := #[26] }, 3, "law.go:174", #[⟨11, .data⟩, ⟨8, .guard⟩], some (8, false)⟩ (.int .i64 (n3 : Int)) ?_
                simp only [Act.put, List.setIfInBounds_toArray, List.set_cons_zero, List.set_cons_succ]
                refine tk 13 ⟨some 97, .binOp .lss 3 (.tmp 93) (.tmp 96) 3, 4, "law.go:174", #[⟨9, .data⟩, ⟨12, .data⟩, ⟨8, .guard⟩], some (8, false)⟩ (.bool false) ?_ (hy := Or.inl ⟨by rfl, by intro w hSw; have e : w = World.drew wr := hSw; subst e; go_simp⟩)
                simp only [Act.put, List.setIfInBounds_toArray, List.set_cons_zero, List.set_cons_succ]
                refine tk 14 ⟨some 98, .move (.tmp 97), 4, "law.go:174", #[⟨13, .data⟩, ⟨8, .chain⟩, ⟨8, .guard⟩], some (8, false)⟩ (.bool false) ?_
                simp only [Act.put, List.setIfInBounds_toArray, List.set_cons_zero, List.set_cons_succ]
                refine tk 15 ⟨some 99, .fieldAddr 28 (.tmp 1) 4, 0, "law.go:174", #[⟨14, .guard⟩], some (14, true)⟩ undef ?_ (hy := Or.inr ⟨by rfl, rfl⟩)
                simp only [Act.put, List.setIfInBounds_toArray, List.set_cons_zero, List.set_cons_succ]
                refine tk 16 ⟨some 100, .load 26 (.tmp 99), 26, "law.go:174", #[⟨15, .data⟩, ⟨14, .guard⟩], some (14, true)⟩ undef ?_ (hy := Or.inr ⟨by rfl, rfl⟩)
                simp only [Act.put, List.setIfInBounds_toArray, List.set_cons_zero, List.set_cons_succ]
                refine tk 17 ⟨some 101, .move (.tmp 7), 3, "law.go:174", #[⟨14, .guard⟩], some (14, true)⟩ undef ?_ (hy := Or.inr ⟨by rfl, rfl⟩)
                simp only [Act.put, List.setIfInBounds_toArray, List.set_cons_zero, List.set_cons_succ]
                refine tk 18 ⟨some 102, .indexAddr 26 (.tmp 100) (.tmp 101), 0, "law.go:174", #[⟨16, .data⟩, ⟨17, .data⟩, ⟨14, .guard⟩], some (14, true)⟩ undef ?_ (hy := Or.inr ⟨by rfl, rfl⟩)
                simp only [Act.put, List.setIfInBounds_toArray, List.set_cons_zero, List.set_cons_succ]
                refine tk 19 ⟨some 103, .load 5 (.tmp 102), 5, "law.go:174", #[⟨18, .data⟩, ⟨14, .guard⟩], some (14, true)⟩ undef ?_ (hy := Or.inr ⟨by rfl, rfl⟩)
                simp only [Act.put, List.setIfInBounds_toArray, List.set_cons_zero, List.set_cons_succ]
                refine tk 20 ⟨some 104, .fieldAddr 28 (.tmp 1) 6, 0, "law.go:174", #[⟨14, .guard⟩], some (14, true)⟩ undef ?_ (hy := Or.inr ⟨by rfl, rfl⟩)
                simp only [Act.put, List.setIfInBounds_toArray, List.set_cons_zero, List.set_cons_succ]
                refine tk 21 ⟨some 105, .load 5 (.tmp 104), 5, "law.go:174", #[⟨20, .data⟩, ⟨14, .guard⟩], some (14, true)⟩ undef ?_ (hy := Or.inr ⟨by rfl, rfl⟩)
                simp only [Act.put, List.setIfInBounds_toArray, List.set_cons_zero, List.set_cons_succ]
                refine tk 22 ⟨some 106, .binOp .neq 5 (.tmp 103) (.tmp 105) 5, 4, "law.go:174", #[⟨19, .data⟩, ⟨21, .data⟩, ⟨14, .guard⟩], some (14, true)⟩ undef ?_ (hy := Or.inr ⟨by rfl, rfl⟩)
                simp only [Act.put, List.setIfInBounds_toArray, List.set_cons_zero, List.set_cons_succ]
                refine tk 23 ⟨some 107, .pick (.tmp 98) (.tmp 106) (.const (.bool false)), 4, "law.go:174", #[⟨14, .data⟩, ⟨22, .data⟩, ⟨8, .guard⟩], some (8, false)⟩ (.bool false) ?_
                simp only [Act.put, List.setIfInBounds_toArray, List.set_cons_zero, List.set_cons_succ]
                refine tk 24 ⟨some 108, .pick (.tmp 92) (.const (.bool true)) (.tmp 107), 4, "law.go:174", #[⟨8, .data⟩, ⟨23, .data⟩], none⟩ (.bool false) ?_
                simp only [Act.put, List.setIfInBounds_toArray, List.set_cons_zero, List.set_cons_succ]
                refine wpAnyH_done (by kernel_rfl) ?_ _
                go_wp2_with fail
                go_roundw
                case measure => simp [intOf] <;> omega
                case rel => exact ⟨j + 1, by omega, by simp, HB5⟩
            · have p1 : (n3 : Int) + 1 ≤ (j : Int) := by omega
              go_wp2_with fail
              go_ret
              exact ⟨rfl, HB.out.below⟩
end Go.Proofs.YtbjinmlelchmgaaGreatDoor
