import Derived.Test.YtmomidkodjihjaaDoorP29
import Derived.Test.YtmomidkodjihjaaDoorP01
namespace Go.Proofs.YtmomidkodjihjaaDoor
open Go.RowKit
open H
set_option maxRecDepth 100000
set_option maxHeartbeats 8000000
theorem info22 : (Tryd.prog.info? 22).map (fun i => (i.zero, i.size, i.bytes)) = some (some (.slice none 0 0), 1, 24) := by kernel_rfl
theorem wpList_append_at {w : World} {ops : Array Oper} {rest : List Oper} {o : Oper} {ac : Act} {Q : Exit → Act → World → Prop} (hgd : o.guard = none) (s x : Operand) (ho : o.op = .call { callee := .builtin .append, args := #[s, x], argTypes := #[22, 22] }) {B n m c : Nat} {p : Option Addr} {v : Value} {xs : List Value} {L : List Int} (hs : ac.eval s = v) (hown : w.ownsRow B 24 1 v n xs) (hB : B ≤ w.heap.size) (hx : ac.eval x = .slice p m c) (hl : L.length = m) (hat : At w .u32 p L) (hn : n + m ≤ 2000000)
    (h : ∀ v' w', Two2 w w' B 24 1 v v' n m (xs ++ L.map (Value.int .u32)) → wpList Tryd.prog ops Q rest (ac.put o.dst v') w') : wpList Tryd.prog ops Q (o :: rest) ac w := by
  obtain ⟨i, hi, hz, hsize, hby⟩ := info_parts Tryd.info24
  cases p with
  | none =>
    have hL : L = [] := by
      rcases hat with h0 | ⟨b, off, h0, _⟩
      · exact h0
      · cases h0
    subst hL
    simp only [List.length_nil] at hl
    subst hl
    refine wpList_append_q hgd s x ho v hs _ hx (w' := w) (v' := v) ?_ (h v w ?_)
    · have hc : ac.eval x = .slice none 0 c := hx
      rcases hown.2 with ⟨rfl, rfl⟩ | ⟨g, cap, cur, rfl, _⟩
      · exact run_append_owned_none (P := Tryd.prog) (w := w) B 22 o.type 24 i 1 Tryd.underlying22 hi _ _ _ hown
      · exact run_append_owned_none (P := Tryd.prog) (w := w) B 22 o.type 24 i 1 Tryd.underlying22 hi _ _ _ hown
    · rw [List.map_nil, List.append_nil]
      rcases hown.2 with ⟨rfl, rfl⟩ | ⟨g, cap, cur, rfl, _⟩
      · exact .inr ⟨⟨hown.1, .inl ⟨rfl, rfl⟩⟩, Below.refl _ _⟩
      · exact .inl ⟨g, cap, rfl, rfl, hown, ⟨rfl, rfl, rfl, Nat.le_refl _, fun _ _ _ => rfl⟩⟩
  | some ad =>
    exact wpList_append_two hgd s x 22 ho Tryd.underlying22 hi hz hsize hby rfl (by decide) hs hown hB hx (by rw [List.length_map, hl, Nat.mul_one]) hat.cells (fun u hu => by obtain ⟨y, _, rfl⟩ := List.mem_map.1 hu; rfl) (by unfold maxLen; omega) (by omega) h
theorem wpList_append_1 {w : World} {ops : Array Oper} {rest : List Oper} {o : Oper} {ac : Act} {Q : Exit → Act → World → Prop} (hgd : o.guard = none) (s x : Operand) (t e : TypeId) (ho : o.op = .call { callee := .builtin .append, args := #[s, x], argTypes := #[t, t] }) (ht : Tryd.prog.underlying t = some (.slice e)) {z : Value} {st by_ : Nat} (hi : (Tryd.prog.info? e).map (fun i => (i.zero, i.size, i.bytes)) = some (some z, st, by_)) (hzs : z.cells.size = st) (hst : 0 < st) (hb8 : by_ ≤ 56) {B n g : Nat} {v : Value} {xs news : List Value} (hs : ac.eval s = v) (hown : w.ownsRow B e st v n xs) (hB : B ≤ w.heap.size) (hx : ac.eval x = .slice (some ⟨g, 0, none⟩) 1 1) (hl : news.length = st) (hg : Cel w g e news) (h1 : ∀ u ∈ news, u.oneCell' = true) (hn : n ≤ 2000000)
    (h : ∀ v' w', Two2 w w' B e st v v' n 1 (xs ++ news) → wpList Tryd.prog ops Q rest (ac.put o.dst v') w') : wpList Tryd.prog ops Q (o :: rest) ac w := by
  obtain ⟨i, hi, hz, hsize, hby⟩ := info_parts hi
  exact wpList_append_two hgd s x t ho ht hi hz hsize hby hzs hst hs hown hB hx (by rw [hl, Nat.one_mul]) (fun j u hu => by rw [addr_add, Nat.zero_add, hg.cell j]; exact hu) h1 (by unfold maxLen; omega) (by
    have : (n + 1) * by_ ≤ (n + 1) * 56 := Nat.mul_le_mul_left _ hb8
    omega) h
theorem run_append_1 {w : World} (t e ty : TypeId) (ht : Tryd.prog.underlying t = some (.slice e)) {z : Value} {st by_ : Nat} (hi : (Tryd.prog.info? e).map (fun i => (i.zero, i.size, i.bytes)) = some (some z, st, by_)) (hzs : z.cells.size = st) (hst : 0 < st) (hb8 : by_ ≤ 56) {B n g : Nat} {v : Value} {xs news : List Value} (hown : w.ownsRow B e st v n xs) (hB : B ≤ w.heap.size) (hl : news.length = st) (hg : Cel w g e news) (h1 : ∀ u ∈ news, u.oneCell' = true) (hn : n ≤ 2000000) :
    ∃ v' w', (Builtin.append_ #[t, t] ty #[v, .slice (some ⟨g, 0, none⟩) 1 1]).run Tryd.prog w = .ok v' w' ∧ Two2 w w' B e st v v' n 1 (xs ++ news) := by
  obtain ⟨i, hi, hz, hsize, hby⟩ := info_parts hi
  exact run_append_two (P := Tryd.prog) ht hi hz hsize hby hzs hst hown hB (by rw [hl, Nat.one_mul]) (fun j u hu => by rw [addr_add, Nat.zero_add, hg.cell j]; exact hu) h1 (by unfold maxLen; omega) (by
    have : (n + 1) * by_ ≤ (n + 1) * 56 := Nat.mul_le_mul_left _ hb8
    omega)
theorem wp_append_1 {w : World} {o : Oper} {ac : Act} {K : Act → World → Prop} {Q : Exit → Act → World → Prop} (s x : Operand) (t e : TypeId) (ho : o.op = .call { callee := .builtin .append, args := #[s, x], argTypes := #[t, t] }) (ht : Tryd.prog.underlying t = some (.slice e)) {z : Value} {st by_ : Nat} (hi : (Tryd.prog.info? e).map (fun i => (i.zero, i.size, i.bytes)) = some (some z, st, by_)) (hzs : z.cells.size = st) (hst : 0 < st) (hb8 : by_ ≤ 56) {B n g : Nat} {v : Value} {xs news : List Value} (hs : ac.eval s = v) (hown : w.ownsRow B e st v n xs) (hB : B ≤ w.heap.size) (hx : ac.eval x = .slice (some ⟨g, 0, none⟩) 1 1) (hl : news.length = st) (hg : Cel w g e news) (h1 : ∀ u ∈ news, u.oneCell' = true) (hn : n ≤ 2000000)
    (h : ∀ v' w', Two2 w w' B e st v v' n 1 (xs ++ news) → K (ac.put o.dst v') w') : o.wp Tryd.prog ac w K Q := by
  obtain ⟨v', w', hr, h2⟩ := run_append_1 t e o.type ht hi hzs hst hb8 hown hB hl hg h1 hn
  unfold Oper.wp execOp
  simp only [ho, resolve, invoke, builtin, Sem.run_bind, Sem.run_pure, Result.andThen_ok, List.map_toArray, List.map_cons, List.map_nil, hs, hx, hr]
  exact h _ _ h2
def mk : Value := .int .u32 4276993775
def wrow (x : Ov) : Rr := ⟨24, 1, .slice x.p (x.o.ws.length + 100) x.c, x.o.ws.length + 100, x.o.ws.map (Value.int .u32) ++ rp 100 [mk]⟩
def t50 (j : Nat) : List Value := ((List.range j).map (fun (i : Nat) => [Value.int .i64 77, .int .u32 (i : Int), .slice none 0 0])).flatten
theorem t50_succ (j : Nat) : t50 (j + 1) = t50 j ++ [.int .i64 77, .int .u32 (j : Int), .slice none 0 0] := by
  unfold t50
  rw [List.range_succ, List.map_append, List.flatten_append]
  rfl
def mrow (v : Value) (lo : List Ov) (j : Nat) : Rr := ⟨43, 3, v, lo.length + j, lo.flatMap Ov.cs ++ t50 j⟩
def orow (v : Value) (lo : List Ov) : Rr := ⟨22, 1, v, lo.length, lo.map (fun x => .slice x.p (x.o.ws.length + 100) x.c)⟩
def mrow0 (v : Value) (lo : List Ov) : Rr := ⟨43, 3, v, lo.length, lo.flatMap Ov.cs⟩
theorem mrow0_snoc (v : Value) (lo : List Ov) (y : Ov) : (⟨43, 3, v, lo.length + 1, lo.flatMap Ov.cs ++ y.cs⟩ : Rr) = mrow0 v (lo ++ [y]) := by simp [mrow0]
theorem orow_snoc (v : Value) (lo : List Ov) (y : Ov) : (⟨22, 1, v, lo.length + 1, lo.map (fun x => .slice x.p (x.o.ws.length + 100) x.c) ++ [.slice y.p (y.o.ws.length + 100) y.c]⟩ : Rr) = orow v (lo ++ [y]) := by simp [orow]
theorem mrow_0 (v : Value) (lo : List Ov) : mrow0 v lo = mrow v lo 0 := by simp [mrow0, mrow, t50]
theorem mrow_succ (v : Value) (lo : List Ov) (j : Nat) : (⟨43, 3, v, lo.length + j + 1, lo.flatMap Ov.cs ++ t50 j ++ [.int .i64 77, .int .u32 (j : Int), .slice none 0 0]⟩ : Rr) = mrow v lo (j + 1) := by
  unfold mrow
  rw [t50_succ, ← List.append_assoc]
  rfl
theorem snoc_rows {W w : World} {a b c : Rr} {L R : List Rr} {H : List Hk} (h : KS W w (a :: b :: c :: (L ++ R)) H) : KS W w (b :: c :: ((L ++ [a]) ++ R)) H :=
  h.perm (by
    have : (a :: ((b :: c :: L) ++ R)).Perm ((b :: c :: L) ++ a :: R) := List.perm_middle.symm
    simpa using this)
theorem lent_any (W w : World) (R : List Rr) (H : List Hk) (h : KS W w R H) (ao : Option Addr) (n c : Nat) (l : List Ov) (hn : l.length = n) (hl : OL W ao l) (hb : n ≤ 100) (hws : ∀ x ∈ l, x.o.ws.length ≤ 1024) :
    Calls Tryd.prog 22 #[.slice ao n c] w fun e w' => ∃ vm vo lo, e = .returned (.tuple #[vm, vo]) ∧ lo.map Ov.o = l.map Ov.o ∧ KS W w' (mrow vm lo 50 :: orow vo lo :: (lo.map wrow ++ R)) H := by
  have n1 : (n : Int) ≤ 100 := by omega
  have HOL := hid (fun (k : Nat) (x : Ov) (hx : l[k]? = some x) => hl.at hx)
  have HWs := hid (fun (k : Nat) (x : Ov) (hx : l[k]? = some x) => And.intro (hl.ws x (List.mem_of_getElem? hx)) (hws x (List.mem_of_getElem? hx)))
  have HN := hid hn
  have H0 : Hid (KS W w (mrow0 (.slice none 0 0) [] :: orow (.slice none 0 0) [] :: (([] : List Ov).map wrow ++ R)) H) := hid ((h.add (orow (.slice none 0 0) []) (Below.refl _ _) (World.ownsRow_nil _ _ _ _)).add (mrow0 (.slice none 0 0) []) (Below.refl _ _) (World.ownsRow_nil _ _ _ _))
  clear h hl hws hn
  go_enter Tryd.func22, Tryd.ntmps22
  go_wp2_with fail
  go_loopw [4, 5, 6] (fun v4 v5 i wr => ∃ (k : Nat) (u4 u5 : Value) (lo : List Ov), k ≤ n ∧ i = .int .i64 (k : Int) ∧ v4 = u4 ∧ v5 = u5 ∧ lo.map Ov.o = (l.take k).map Ov.o ∧ Hid (KS W wr (mrow0 u4 lo :: orow u5 lo :: (lo.map wrow ++ R)) H)) (fun _ _ i _ => n - (intOf i).toNat)
  case atStart => exact ⟨0, _, _, [], Nat.zero_le _, rfl, rfl, rfl, rfl, H0⟩
  case round =>
    clear H0
    obtain ⟨k, u4, u5, lo, hk, rfl, rfl, rfl, hlo, HK⟩ := hrel
    have hlen : lo.length ≤ 100 := by have := congrArg List.length hlo; rw [List.length_map, List.length_map, List.length_take] at this; omega
    by_cases hlt : k < n
    · have q1 : (k : Int) < (n : Int) := by omega
      obtain ⟨x, hx⟩ : ∃ x, l[k]? = some x := ⟨_, List.getElem?_eq_getElem (by rw [HN.out]; exact hlt)⟩
      obtain ⟨b, off, rfl, hat⟩ := HOL.out k x hx
      have HAT := hid hat
      have HX := hid hx
      obtain ⟨hxw, hxl⟩ := HWs.out k x hx
      have x1 : ((x.o.ws.length : Nat) : Int) ≤ 1024 := by omega
      have HXw := hid hxw
      clear hat hx hxw HOL HWs
      obtain ⟨c0, c1, c2⟩ := HAT.out wr HK.out.below
      have H1 := hid (HK.out.add ⟨24, 1, .slice none 0 0, 0, []⟩ (Below.refl _ _) (World.ownsRow_nil _ _ _ _))
      clear HK
      go_upto_region 8 with (at_builtin; refine wpList_append_at rfl _ _ rfl rfl H1.out.own0 H1.out.below.size rfl rfl (HXw.out.below H1.out.below) (by omega) ?_; intro v7 w2 hal; obtain ⟨a7, c7, hv7⟩ := two_frm hal (by decide); rw [Nat.zero_add] at hv7; subst hv7; have H2 := hid (H1.out.app 0 rfl hal); clear hal)
      simp only [List.set_cons_zero, Nat.zero_add, List.nil_append] at H2
      clear H1 c0 c1 c2
      go_wp2_with fail
      go_loopw [7, 8] (fun v7 i w3 => ∃ (j : Nat) (a : Option Addr) (c' : Nat), j ≤ 100 ∧ i = .int .i64 (j : Int) ∧ v7 = .slice a (x.o.ws.length + j) c' ∧ Hid (KS W w3 (⟨24, 1, .slice a (x.o.ws.length + j) c', x.o.ws.length + j, x.o.ws.map (Value.int .u32) ++ rp j [mk]⟩ :: mrow0 u4 lo :: orow u5 lo :: (lo.map wrow ++ R)) H)) (fun _ i _ => 100 - (intOf i).toNat)
      case atStart => exact ⟨0, a7, c7, by omega, rfl, rfl, by rw [show rp 0 [mk] = [] from rfl, List.append_nil]; exact H2⟩
      case round =>
        clear H2
        obtain ⟨j, a7, c7, hj, rfl, rfl, HB⟩ := hrel
        by_cases hj2 : j < 100
        · have q2 : (j : Int) < 100 := by omega
          go_wp2_with (at_builtin; refine wpList_append_w rfl _ _ rfl (news := [mk]) rfl (HB.out.on (below_one _ _)).own0 (HB.out.on (below_one _ _)).below.size rfl rfl (fun j u hu => ((cel_new _ 24 [mk]).cell j).trans hu) (by simp [mk, Value.oneCell']) (by omega) ?_; intro v8 w4 hal; obtain ⟨a8, c8, rfl⟩ := two_frm hal (by decide); have HB2 := hid ((HB.out.on (below_one _ _)).app 0 rfl hal); clear hal)
          go_roundw
          case measure => simp [intOf] <;> omega
          case rel => exact ⟨j + 1, a8, c8, by omega, by simp, rfl, by rw [rp_succ, ← List.append_assoc]; exact HB2⟩
        · have hj3 : j = 100 := by omega
          subst hj3
          have hcap := own_cap HB.out.own0
          go_upto_region 13 with (at_builtin; refine wpList_append_1 rfl _ _ 58 22 rfl Tryd.underlying58 info22 rfl (by decide) (by decide) rfl ((HB.out.on (below_one _ _)).mem (i := 2) rfl) (HB.out.on (below_one _ _)).below.size rfl rfl (cel_new _ 22 [.slice a7 (x.o.ws.length + 100) c7]) (by simp [Value.oneCell']) (by show lo.length ≤ 2000000; omega) ?_; intro v5 w5 hal; have HC : Hid (KS W w5 (wrow (⟨x.o, a7, c7⟩ : Ov) :: mrow0 u4 lo :: orow v5 (lo ++ [(⟨x.o, a7, c7⟩ : Ov)]) :: (lo.map wrow ++ R)) H) := hid (by have := (HB.out.on (below_one _ _)).app 2 rfl hal; rw [← orow_snoc]; exact this); clear hal)
          have HK0 := hid (HC.out.on (Below.refl _ _).drew)
          clear HB HC
          refine wp_region_held_drew (S := fun w => Below W.heap.size W w) (by kernel_rfl) HK0.out.below (fun hHeld => ?_)
          generalize World.drew _ = w6 at *
          refine tk 0 ⟨some 34, .move (.tmp 4), 25, "outright.go:147", #[], none⟩ u4 ?_
          simp only [Act.put, List.setIfInBounds_toArray, List.set_cons_zero, List.set_cons_succ]
          refine tk 1 ⟨some 35, .move (.tmp 0), 25, "outright.go:147", #[], none⟩ (.slice (some ⟨b, off, none⟩) n c) ?_
          simp only [Act.put, List.setIfInBounds_toArray, List.set_cons_zero, List.set_cons_succ]
          refine tk 2 ⟨some 36, .move (.tmp 6), 3, "outright.go:147", #[], none⟩ (.int .i64 (k : Int)) ?_
          simp only [Act.put, List.setIfInBounds_toArray, List.set_cons_zero, List.set_cons_succ]
          refine tk 3 ⟨some 37, .indexAddr 25 (.tmp 35) (.tmp 36), 0, "outright.go:147", #[⟨1, .data⟩, ⟨2, .data⟩], none⟩ (.pointer (some ⟨b, off + k * 3, none⟩)) ?_
          simp only [Act.put, List.setIfInBounds_toArray, List.set_cons_zero, List.set_cons_succ]
          refine tk 4 ⟨some 38, .fieldAddr 43 (.tmp 37) 0, 0, "outright.go:147", #[⟨3, .data⟩], none⟩ (.pointer (some ⟨b, off + k * 3, none⟩)) ?_
          simp only [Act.put, List.setIfInBounds_toArray, List.set_cons_zero, List.set_cons_succ]
          refine tk 5 ⟨some 39, .load 41 (.tmp 38), 41, "outright.go:147", #[⟨4, .data⟩], none⟩ (.int .i64 x.o.k) ?_ (hy := Or.inl ⟨by rfl, by intro w hSw; have hc := (HAT.out w hSw).1; go_simp⟩)
          simp only [Act.put, List.setIfInBounds_toArray, List.set_cons_zero, List.set_cons_succ]
          refine tk 6 ⟨some 40, .move (.tmp 0), 25, "outright.go:147", #[], none⟩ (.slice (some ⟨b, off, none⟩) n c) ?_
          simp only [Act.put, List.setIfInBounds_toArray, List.set_cons_zero, List.set_cons_succ]
          refine tk 7 ⟨some 41, .move (.tmp 6), 3, "outright.go:147", #[], none⟩ (.int .i64 (k : Int)) ?_
          simp only [Act.put, List.setIfInBounds_toArray, List.set_cons_zero, List.set_cons_succ]
          refine tk 8 ⟨some 42, .indexAddr 25 (.tmp 40) (.tmp 41), 0, "outright.go:147", #[⟨6, .data⟩, ⟨7, .data⟩], none⟩ (.pointer (some ⟨b, off + k * 3, none⟩)) ?_
          simp only [Act.put, List.setIfInBounds_toArray, List.set_cons_zero, List.set_cons_succ]
          refine tk 9 ⟨some 43, .fieldAddr 43 (.tmp 42) 1, 0, "outright.go:147", #[⟨8, .data⟩], none⟩ (.pointer (some ⟨b, off + k * 3 + 1, none⟩)) ?_
          simp only [Act.put, List.setIfInBounds_toArray, List.set_cons_zero, List.set_cons_succ]
          refine tk 10 ⟨some 44, .load 24 (.tmp 43), 24, "outright.go:147", #[⟨9, .data⟩], none⟩ (.int .u32 x.o.a) ?_ (hy := Or.inl ⟨by rfl, by intro w hSw; have hc := (HAT.out w hSw).2.1; go_simp⟩)
          simp only [Act.put, List.setIfInBounds_toArray, List.set_cons_zero, List.set_cons_succ]
          refine tk 11 ⟨some 45, .move (.tmp 7), 22, "outright.go:147", #[], none⟩ (.slice a7 (x.o.ws.length + 100) c7) ?_
          simp only [Act.put, List.setIfInBounds_toArray, List.set_cons_zero, List.set_cons_succ]
          refine tk 12 ⟨some 46, .move (.tmp 0), 25, "outright.go:147", #[], none⟩ (.slice (some ⟨b, off, none⟩) n c) ?_
          simp only [Act.put, List.setIfInBounds_toArray, List.set_cons_zero, List.set_cons_succ]
          refine tk 13 ⟨some 47, .move (.tmp 6), 3, "outright.go:147", #[], none⟩ (.int .i64 (k : Int)) ?_
          simp only [Act.put, List.setIfInBounds_toArray, List.set_cons_zero, List.set_cons_succ]
          refine tk 14 ⟨some 48, .indexAddr 25 (.tmp 46) (.tmp 47), 0, "outright.go:147", #[⟨12, .data⟩, ⟨13, .data⟩], none⟩ (.pointer (some ⟨b, off + k * 3, none⟩)) ?_
          simp only [Act.put, List.setIfInBounds_toArray, List.set_cons_zero, List.set_cons_succ]
          refine tk 15 ⟨some 49, .fieldAddr 43 (.tmp 48) 2, 0, "outright.go:147", #[⟨14, .data⟩], none⟩ (.pointer (some ⟨b, off + k * 3 + 2, none⟩)) ?_
          simp only [Act.put, List.setIfInBounds_toArray, List.set_cons_zero, List.set_cons_succ]
          refine tk 16 ⟨some 50, .load 22 (.tmp 49), 22, "outright.go:147", #[⟨15, .data⟩], none⟩ (.slice x.p x.o.ws.length x.c) ?_ (hy := Or.inl ⟨by rfl, by intro w hSw; have hc := (HAT.out w hSw).2.2; go_simp⟩)
          simp only [Act.put, List.setIfInBounds_toArray, List.set_cons_zero, List.set_cons_succ]
          refine tk 17 ⟨some 51, .call { callee := .builtin .len, args := #[.tmp 50], argTypes := #[22] }, 3, "outright.go:147", #[⟨16, .data⟩], none⟩ (.int .i64 (x.o.ws.length : Int)) ?_
          simp only [Act.put, List.setIfInBounds_toArray, List.set_cons_zero, List.set_cons_succ]
          refine tk 18 ⟨some 52, .slice 22 (.tmp 45) none (some (.tmp 51)) none, 22, "outright.go:147", #[⟨11, .data⟩, ⟨17, .data⟩], none⟩ (.slice a7 x.o.ws.length c7) ?_ (hy := Or.inl ⟨by rfl, by intro w hSw; have q1 : ((x.o.ws.length : Nat) : Int) ≤ (c7 : Int) := (by omega); have q2 : (0 : Int) ≤ ((x.o.ws.length : Nat) : Int) := (by omega); go_simp⟩)
          simp only [Act.put, List.setIfInBounds_toArray, List.set_cons_zero, List.set_cons_succ]
          refine tk 19 ⟨some 53, .build 43 #[(0, .tmp 39), (1, .tmp 44), (2, .tmp 52)], 43, "outright.go:147", #[⟨5, .data⟩, ⟨10, .data⟩, ⟨18, .data⟩], none⟩ (.agg #[.int .i64 x.o.k, .int .u32 x.o.a, .slice a7 x.o.ws.length c7]) ?_
          simp only [Act.put, List.setIfInBounds_toArray, List.set_cons_zero, List.set_cons_succ]
          refine wpAnyH_ready (rs := [20]) (by kernel_rfl) (by simp) (AllReadyH.cons (o := ⟨some 54, .buildSlice 25 1 #[(0, .tmp 53)], 25, "outright.go:147", #[⟨19, .data⟩], none⟩) rfl (fun KQ hK => ?_) AllReadyH.nil)
          go_simp
          have HC1 := hid (cel_new w6 43 [.int .i64 x.o.k, .int .u32 x.o.a, .slice a7 x.o.ws.length c7])
          have HK1 := hid (HK0.out.on (below_one w6 (.cells #[.int .i64 x.o.k, .int .u32 x.o.a, .slice a7 x.o.ws.length c7] 43)))
          refine hK.out _ _ HK1.out.below (fun hHeld => ?_)
          clear hK KQ
          try simp only [Act.put, List.setIfInBounds_toArray, List.set_cons_zero, List.set_cons_succ]
          generalize w6.alloc _ = w7 at *
          generalize w6.heap.size = g7 at *
          refine wpAnyH_ready (rs := [21]) (by kernel_rfl) (by simp) (AllReadyH.cons (o := ⟨some 55, .call { callee := .builtin .append, args := #[.tmp 34, .tmp 54], argTypes := #[25, 25] }, 25, "outright.go:147", #[⟨0, .data⟩, ⟨20, .data⟩], none⟩) rfl (fun KQ hK => ?_) AllReadyH.nil)
          rw [if_pos (by rfl)]
          refine wp_append_1 _ _ 25 43 rfl Tryd.underlying25 Tryd.info43 rfl (by decide) (by decide) rfl (HK1.out.mem (i := 1) rfl) HK1.out.below.size rfl rfl HC1.out (by simp [Value.oneCell']) (by show lo.length ≤ 2000000; omega) ?_
          intro v8 w8 hal
          have HK2 : Hid (KS W w8 (wrow (⟨x.o, a7, c7⟩ : Ov) :: mrow0 v8 (lo ++ [(⟨x.o, a7, c7⟩ : Ov)]) :: orow v5 (lo ++ [(⟨x.o, a7, c7⟩ : Ov)]) :: (lo.map wrow ++ R)) H) := hid (by have := HK1.out.app 1 rfl hal; rw [← mrow0_snoc]; exact this)
          clear hal
          refine hK.out _ _ HK2.out.below (fun hHeld => ?_)
          clear hK KQ
          try simp only [Act.put, List.setIfInBounds_toArray, List.set_cons_zero, List.set_cons_succ]
          refine wpAnyH_ready (rs := [22]) (by kernel_rfl) (by simp) (AllReadyH.cons (o := ⟨some 4, .assign (.tmp 55), 25, "outright.go:147", #[⟨21, .data⟩, ⟨21, .chain⟩, ⟨0, .phase⟩, ⟨1, .phase⟩, ⟨2, .phase⟩, ⟨3, .phase⟩, ⟨4, .phase⟩, ⟨5, .phase⟩, ⟨6, .phase⟩, ⟨7, .phase⟩, ⟨8, .phase⟩, ⟨9, .phase⟩, ⟨10, .phase⟩, ⟨11, .phase⟩, ⟨12, .phase⟩, ⟨13, .phase⟩, ⟨14, .phase⟩, ⟨15, .phase⟩, ⟨16, .phase⟩, ⟨17, .phase⟩, ⟨18, .phase⟩, ⟨19, .phase⟩, ⟨20, .phase⟩, ⟨21, .phase⟩], none⟩) rfl (fun KQ hK => ?_) AllReadyH.nil)
          go_simp
          refine hK.out _ _ HK2.out.below (fun hHeld => ?_)
          clear hK KQ
          try simp only [Act.put, List.setIfInBounds_toArray, List.set_cons_zero, List.set_cons_succ]
          refine wpAnyH_done (by kernel_rfl) ?_ _
          go_wp2_with fail
          go_roundw
          case measure => simp [intOf] <;> omega
          case rel => exact ⟨k + 1, v8, v5, lo ++ [(⟨x.o, a7, c7⟩ : Ov)], by omega, by simp, rfl, rfl, by rw [List.map_append, hlo, take_snoc_map l k x HX.out]; rfl, hid (by have := snoc_rows HK2.out; rw [List.map_append]; exact this)⟩
    · have hkn : k = n := by omega
      subst hkn
      have HK9 := hid (show KS W wr (mrow u4 lo 0 :: orow u5 lo :: (lo.map wrow ++ R)) H by rw [← mrow_0]; exact HK.out)
      have hlo2 := hlo
      rw [List.take_of_length_le (by rw [HN.out]; exact Nat.le_refl _)] at hlo2
      clear HK hlo HOL HWs
      go_wp2_with fail
      go_loopw [4, 9] (fun v4 i w2 => ∃ (j : Nat) (u : Value), j ≤ 50 ∧ i = .int .i64 (j : Int) ∧ v4 = u ∧ Hid (KS W w2 (mrow u lo j :: orow u5 lo :: (lo.map wrow ++ R)) H)) (fun _ i _ => 50 - (intOf i).toNat)
      case atStart => exact ⟨0, _, by omega, rfl, rfl, HK9⟩
      case round =>
        clear HK9
        obtain ⟨j, u, hj, rfl, rfl, HB⟩ := hrel
        by_cases hj2 : j < 50
        · have q2 : (j : Int) < 50 := by omega
          go_wp2_with (at_builtin; refine wpList_append_1 rfl _ _ 25 43 rfl Tryd.underlying25 Tryd.info43 rfl (by decide) (by decide) rfl ((HB.out.on (below_one _ _)).mem (i := 0) rfl) (HB.out.on (below_one _ _)).below.size rfl rfl (cel_new _ 43 [.int .i64 77, .int .u32 (j : Int), .slice none 0 0]) (by simp [Value.oneCell']) (by show lo.length + j ≤ 2000000; omega) ?_; intro v5 w5 hal; have HC : Hid (KS W w5 (mrow v5 lo (j + 1) :: orow u5 lo :: (lo.map wrow ++ R)) H) := hid (by have := (HB.out.on (below_one _ _)).app 0 rfl hal; rw [← mrow_succ]; exact this); clear hal)
          go_roundw
          case measure => simp [intOf] <;> omega
          case rel => exact ⟨j + 1, v5, by omega, by simp, rfl, HC⟩
        · have hj3 : j = 50 := by omega
          subst hj3
          go_wp2_with fail
          go_returns
          exact ⟨_, _, lo, rfl, hlo2, HB.out⟩
end Go.Proofs.YtmomidkodjihjaaDoor
namespace Go.Proofs.YtmomidkodjihjaaDoor
open Go.RowKit
open H
set_option maxRecDepth 100000
set_option maxHeartbeats 8000000
theorem rp_map (n : Nat) (a : Int) : rp n [.int .u32 a] = (List.replicate n a).map (Value.int .u32) := by
  induction n with
  | zero => rfl
  | succ n ih => rw [rp_succ, ih, List.replicate_succ', List.map_append]; rfl
theorem at_head {w : World} {p : Option Addr} {xs ys : List Int} (h : At w .u32 p (xs ++ ys)) : At w .u32 p xs := by
  rcases h with h | ⟨b, off, h1, h2, h3⟩
  · exact .inl (List.append_eq_nil_iff.1 h).1
  · exact .inr ⟨b, off, h1, h2, h3.head⟩
theorem wrow_at {w : World} {B : Nat} {x : Ov} (h : (wrow x).ok w B) : At w .u32 x.p (x.o.ws ++ List.replicate 100 4276993775) := by
  have h1 : w.ownsRow B 24 1 (.slice x.p (x.o.ws.length + 100) x.c) (x.o.ws.length + 100) (x.o.ws.map (Value.int .u32) ++ rp 100 [mk]) := h
  unfold mk at h1
  rw [rp_map, ← List.map_append] at h1
  exact own_at h1
def tl : List Ov := (List.range 50).map (fun (i : Nat) => ⟨⟨77, (i : Int), []⟩, none, 0⟩)
theorem tl_cs : tl.flatMap Ov.cs = t50 50 := by
  unfold tl t50
  rw [List.flatMap_map]
  rfl
theorem tl_len : tl.length = 50 := by simp [tl]
theorem tl_ws : ∀ x ∈ tl, x.o.ws = [] := fun x hx => by
  obtain ⟨i, _, rfl⟩ := List.mem_map.1 hx
  rfl
theorem ol_row {w : World} {B : Nat} {ao : Option Addr} {n c : Nat} {L : List Ov} (h : w.ownsRow B 43 3 (.slice ao n c) n (L.flatMap Ov.cs)) (hl : L.length = n) (hw : ∀ x ∈ L, At w .u32 x.p x.o.ws) : OL w ao L := by
  refine ⟨?_, hw⟩
  rcases Nat.eq_zero_or_pos n with h0 | h0
  · exact .inl (List.eq_nil_of_length_eq_zero (by omega))
  · obtain ⟨g, rfl⟩ := own_some h h0
    refine .inr ⟨g, 0, rfl, (own_lt2 h rfl).2, fun i x hx => ?_⟩
    have e := fun (j : Nat) (hj : j < 3) => flat_get L i j x hx hj
    have r := own_rng h
    refine ⟨?_, ?_, ?_⟩
    · exact r (i * 3) _ (e 0 (by decide))
    · have := r (i * 3 + 1) _ (e 1 (by decide)); rw [Nat.add_assoc]; exact this
    · have := r (i * 3 + 2) _ (e 2 (by decide)); rw [Nat.add_assoc]; exact this
theorem mrow_ol {W w : World} {R : List Rr} {H : List Hk} (h : KS W w R H) {mo : Option Addr} {mn mc : Nat} {lo : List Ov} (hm : mrow (.slice mo mn mc) lo 50 ∈ R) (hmn : lo.length + 50 = mn) (hw : ∀ x ∈ lo, wrow x ∈ R) : OL w mo (lo ++ tl) := by
  have h1 : w.ownsRow W.heap.size 43 3 (.slice mo mn mc) (lo.length + 50) (lo.flatMap Ov.cs ++ t50 50) := h.inn hm
  rw [← tl_cs, ← List.flatMap_append, hmn] at h1
  refine ol_row h1 (by rw [List.length_append, tl_len]; exact hmn) fun x hx => ?_
  rcases List.mem_append.1 hx with hx | hx
  · exact at_head (wrow_at (h.inn (hw x hx)))
  · rw [tl_ws x hx]; exact .inl rfl
theorem clean_any (W w : World) (R : List Rr) (H : List Hk) (h : KS W w R H) (lo : List Ov) (vm vo : Value) (hm : mrow vm lo 50 ∈ R) (ho : orow vo lo ∈ R) (hw : ∀ x ∈ lo, wrow x ∈ R) (ao : Option Addr) (n c : Nat) (l : List Ov) (hn : l.length = n) (hl : OL W ao l) (hlo : lo.map Ov.o = l.map Ov.o) (hb : n ≤ 100) (hws : ∀ x ∈ l, x.o.ws.length ≤ 1024) :
    Calls Tryd.prog 23 #[vm, vo, .slice ao n c] w fun e w' => e = .returned (.bool true) ∧ KS W w' R H := by
  have hN : lo.length = n := by rw [← hn]; have := congrArg List.length hlo; simpa using this
  have n1 : (n : Int) ≤ 100 := by omega
  have hm1 : w.ownsRow W.heap.size 43 3 vm (lo.length + 50) (lo.flatMap Ov.cs ++ t50 50) := h.inn hm
  have ho1 : w.ownsRow W.heap.size 22 1 vo lo.length (lo.map (fun x => .slice x.p (x.o.ws.length + 100) x.c)) := h.inn ho
  obtain ⟨mo, mc, rfl⟩ := own_frm hm1 (by decide)
  obtain ⟨wo, wc, rfl⟩ := own_frm ho1 (by decide)
  have HK := hid h
  have HL := hid (fun (w : World) (h : KS W w R H) => lent_any W w R H h ao n c l hn hl hb hws)
  have HM := hid hm
  have HO := hid ho
  have HW := hid hw
  have HLo := hid hlo
  have HWs := hid hws
  have HNn := hid hn
  clear h hm ho hw hl hlo hws hm1 ho1 hn
  rw [hN] at HM HO ⊢
  go_enter Tryd.func23, Tryd.ntmps23
  go_upto_region 2 with (go_at_call 22; refine (HL.out _ HK.out).mono ?_; rintro e w1 ⟨vm2, vo2, lo2, rfl, hlo2, h1⟩; have HK1 := hid h1; clear h1)
  have hN2 : lo2.length = n := by rw [← HNn.out]; have := congrArg List.length hlo2; simpa using this
  have hm2 : w1.ownsRow W.heap.size 43 3 vm2 (lo2.length + 50) (lo2.flatMap Ov.cs ++ t50 50) := HK1.out.mem (i := 0) rfl
  have ho2 : w1.ownsRow W.heap.size 22 1 vo2 lo2.length (lo2.map (fun x => .slice x.p (x.o.ws.length + 100) x.c)) := HK1.out.mem (i := 1) rfl
  rw [hN2] at hm2 ho2
  obtain ⟨m2, mc2, rfl⟩ := own_frm hm2 (by decide)
  obtain ⟨o2, vc, rfl⟩ := own_frm ho2 (by decide)
  have HL2 := hid hlo2
  have HN2 := hid hN2
  clear hm2 ho2 hlo2 hN2 HL HK
  go_wp2_with fail
  go_loopw [9] (fun i wr => ∃ k : Nat, k ≤ n ∧ i = .int .i64 (k : Int) ∧ Hid (KS W wr (mrow (.slice m2 (n + 50) mc2) lo2 50 :: orow (.slice o2 n vc) lo2 :: (lo2.map wrow ++ R)) H)) (fun i _ => n - (intOf i).toNat)
  case atStart => exact ⟨0, Nat.zero_le _, rfl, HK1⟩
  case round =>
    clear HK1
    obtain ⟨i, hi, rfl, HK1⟩ := hrel
    by_cases hlt : i < n
    · have q1 : (i : Int) < (n : Int) := by omega
      obtain ⟨x, hx⟩ : ∃ x, lo[i]? = some x := ⟨_, List.getElem?_eq_getElem (by omega)⟩
      obtain ⟨y, hy⟩ : ∃ y, lo2[i]? = some y := ⟨_, List.getElem?_eq_getElem (by rw [HN2.out]; exact hlt)⟩
      have hxy : y.o = x.o := by
        have e1 := congrArg (·[i]?) (HL2.out.trans HLo.out.symm)
        simp only [List.getElem?_map, hx, hy, Option.map_some, Option.some.injEq] at e1
        exact e1
      obtain ⟨yo, yp, yc⟩ := y
      simp only at hxy
      subst hxy
      obtain ⟨xo, xp, xc⟩ := x
      have hR : ∀ r ∈ R, r ∈ (mrow (.slice m2 (n + 50) mc2) lo2 50 :: orow (.slice o2 n vc) lo2 :: (lo2.map wrow ++ R)) := fun r hr => .tail _ (.tail _ (List.mem_append_right _ hr))
      have hwx := HW.out _ (List.mem_of_getElem? hx)
      have hlen : xo.ws.length ≤ 1024 := by
        have e1 := congrArg (·[i]?) HLo.out
        simp only [List.getElem?_map, hx, Option.map_some] at e1
        obtain ⟨z, hz, hz2⟩ := Option.map_eq_some_iff.1 e1.symm
        have := HWs.out z (List.mem_of_getElem? hz)
        rw [hz2] at this
        exact this
      have so : ∀ w, KS W w (mrow (.slice m2 (n + 50) mc2) lo2 50 :: orow (.slice o2 n vc) lo2 :: (lo2.map wrow ++ R)) H → w.ownsRow W.heap.size 22 1 (.slice wo n wc) n (lo.map (fun x => .slice x.p (x.o.ws.length + 100) x.c)) := fun w h => by have := h.inn (hR _ HO.out); rw [← hN]; rw [← hN] at this; exact this
      have sv : ∀ w, KS W w (mrow (.slice m2 (n + 50) mc2) lo2 50 :: orow (.slice o2 n vc) lo2 :: (lo2.map wrow ++ R)) H → w.ownsRow W.heap.size 22 1 (.slice o2 n vc) n (lo2.map (fun x => .slice x.p (x.o.ws.length + 100) x.c)) := fun w h => by have : w.ownsRow W.heap.size 22 1 (.slice o2 n vc) lo2.length (lo2.map (fun x => .slice x.p (x.o.ws.length + 100) x.c)) := h.mem (i := 1) rfl; rw [HN2.out] at this; exact this
      obtain ⟨gw, rfl⟩ := own_some (so _ HK1.out) (by omega)
      obtain ⟨gv, rfl⟩ := own_some (sv _ HK1.out) (by omega)
      have HCw := hid (fun (w : World) (h : KS W w (mrow (.slice m2 (n + 50) mc2) lo2 50 :: orow (.slice (some ⟨gv, 0, none⟩) n vc) lo2 :: (lo2.map wrow ++ R)) H) => (by have := own_rng (so w h) i (.slice xp (xo.ws.length + 100) xc) (by rw [List.getElem?_map, hx]; rfl); rw [Nat.zero_add] at this; exact this : w.cell? ⟨gw, i, none⟩ = some (.slice xp (xo.ws.length + 100) xc)))
      have HCv := hid (fun (w : World) (h : KS W w (mrow (.slice m2 (n + 50) mc2) lo2 50 :: orow (.slice (some ⟨gv, 0, none⟩) n vc) lo2 :: (lo2.map wrow ++ R)) H) => (by have := own_rng (sv w h) i (.slice yp (xo.ws.length + 100) yc) (by rw [List.getElem?_map, hy]; rfl); rw [Nat.zero_add] at this; exact this : w.cell? ⟨gv, i, none⟩ = some (.slice yp (xo.ws.length + 100) yc)))
      have HAx := hid (fun (w : World) (h : KS W w (mrow (.slice m2 (n + 50) mc2) lo2 50 :: orow (.slice (some ⟨gv, 0, none⟩) n vc) lo2 :: (lo2.map wrow ++ R)) H) => wrow_at (h.inn (hR _ hwx)))
      have HAy := hid (fun (w : World) (h : KS W w (mrow (.slice m2 (n + 50) mc2) lo2 50 :: orow (.slice (some ⟨gv, 0, none⟩) n vc) lo2 :: (lo2.map wrow ++ R)) H) => wrow_at (h.inn (r := wrow ⟨xo, yp, yc⟩) (.tail _ (.tail _ (List.mem_append_left _ (List.mem_map_of_mem (List.mem_of_getElem? hy)))))))
      clear so sv hR hwx hx hy HW HWs
      go_upto_region 5 with fail
      have HK2 := hid (HK1.out.on (Below.refl _ _).drew)
      clear HK1
      refine wp_region_held_drew (S := fun w => KS W w (mrow (.slice m2 (n + 50) mc2) lo2 50 :: orow (.slice (some ⟨gv, 0, none⟩) n vc) lo2 :: (lo2.map wrow ++ R)) H) (by kernel_rfl) HK2.out (fun hHeld => ?_)
      generalize World.drew _ = w3 at *
      refine tk 0 ⟨some 21, .move (.tmp 1), 58, "outright.go:159", #[], none⟩ (.slice (some ⟨gw, 0, none⟩) n wc) ?_
      simp only [Act.put, List.setIfInBounds_toArray, List.set_cons_zero, List.set_cons_succ]
      refine tk 1 ⟨some 22, .move (.tmp 9), 3, "outright.go:159", #[], none⟩ (.int .i64 (i : Int)) ?_
      simp only [Act.put, List.setIfInBounds_toArray, List.set_cons_zero, List.set_cons_succ]
      refine tk 2 ⟨some 23, .indexAddr 58 (.tmp 21) (.tmp 22), 0, "outright.go:159", #[⟨0, .data⟩, ⟨1, .data⟩], none⟩ (.pointer (some ⟨gw, i, none⟩)) ?_
      simp only [Act.put, List.setIfInBounds_toArray, List.set_cons_zero, List.set_cons_succ]
      refine tk 3 ⟨some 24, .load 22 (.tmp 23), 22, "outright.go:159", #[⟨2, .data⟩], none⟩ (.slice xp (xo.ws.length + 100) xc) ?_ (hy := Or.inl ⟨by rfl, by intro w hSw; have hc := HCw.out w hSw; go_simp⟩)
      simp only [Act.put, List.setIfInBounds_toArray, List.set_cons_zero, List.set_cons_succ]
      refine tk 4 ⟨some 25, .move (.tmp 8), 58, "outright.go:159", #[], none⟩ (.slice (some ⟨gv, 0, none⟩) n vc) ?_
      simp only [Act.put, List.setIfInBounds_toArray, List.set_cons_zero, List.set_cons_succ]
      refine tk 5 ⟨some 26, .move (.tmp 9), 3, "outright.go:159", #[], none⟩ (.int .i64 (i : Int)) ?_
      simp only [Act.put, List.setIfInBounds_toArray, List.set_cons_zero, List.set_cons_succ]
      refine tk 6 ⟨some 27, .indexAddr 58 (.tmp 25) (.tmp 26), 0, "outright.go:159", #[⟨4, .data⟩, ⟨5, .data⟩], none⟩ (.pointer (some ⟨gv, i, none⟩)) ?_
      simp only [Act.put, List.setIfInBounds_toArray, List.set_cons_zero, List.set_cons_succ]
      refine tk 7 ⟨some 28, .load 22 (.tmp 27), 22, "outright.go:159", #[⟨6, .data⟩], none⟩ (.slice yp (xo.ws.length + 100) yc) ?_ (hy := Or.inl ⟨by rfl, by intro w hSw; have hc := HCv.out w hSw; go_simp⟩)
      simp only [Act.put, List.setIfInBounds_toArray, List.set_cons_zero, List.set_cons_succ]
      refine wpAnyH_ready (rs := [8]) (by kernel_rfl) (by simp) (AllReadyH.cons (o := ⟨some 29, .call { callee := .value (.func 11), args := #[.tmp 24, .tmp 28], argTypes := #[22, 22] }, 4, "outright.go:159", #[⟨3, .data⟩, ⟨7, .data⟩], none⟩) rfl (fun KQ hK => ?_) AllReadyH.nil)
      go_simp
      refine (same_any _ xp yp _ _ xc yc _ _ (by rw [List.length_append, List.length_replicate]) (by rw [List.length_append, List.length_replicate]) (HAx.out _ HK2.out) (HAy.out _ HK2.out) (by omega)).mono ?_
      rintro e w4 ⟨rfl, hb⟩
      rw [decide_eq_true rfl]
      have HK3 := hid (HK2.out.on hb)
      clear hb
      go_wp2_with fail
      refine hK.out _ _ HK3.out (fun hHeld => ?_)
      clear hK KQ
      try simp only [Act.put, List.setIfInBounds_toArray, List.set_cons_zero, List.set_cons_succ]
      refine tk 9 ⟨some 30, .unOp .not 4 (.tmp 29), 4, "outright.go:159", #[⟨8, .data⟩], none⟩ (.bool false) ?_
      simp only [Act.put, List.setIfInBounds_toArray, List.set_cons_zero, List.set_cons_succ]
      refine wpAnyH_done (by kernel_rfl) ?_ _
      go_wp2_with fail
      go_roundw
      case measure => simp [intOf] <;> omega
      case rel => exact ⟨i + 1, by omega, by simp, HK3⟩
    · have q1 : (n : Int) ≤ (i : Int) := by omega
      clear hlt
      have hOL := mrow_ol (HK1.out) (mo := m2) (mn := n + 50) (mc := mc2) (lo := lo2) (by simp) (by rw [HN2.out]) (fun x hx => .tail _ (.tail _ (List.mem_append_left _ (List.mem_map_of_mem hx))))
      have hOM := mrow_ol (HK1.out) (mo := mo) (mn := n + 50) (mc := mc) (lo := lo) (.tail _ (.tail _ (List.mem_append_right _ HM.out))) (by rw [hN]) (fun x hx => .tail _ (.tail _ (List.mem_append_right _ (HW.out x hx))))
      have HA := hid (alike_any wr mo m2 (n + 50) (n + 50) mc mc2 (lo ++ tl) (lo2 ++ tl) (by rw [List.length_append, tl_len, hN]) (by rw [List.length_append, tl_len, HN2.out]) hOM hOL (by omega) (fun x hx => by
        rcases List.mem_append.1 hx with hx | hx
        · have hx2 : x.o ∈ l.map Ov.o := by rw [← HLo.out]; exact List.mem_map_of_mem hx
          obtain ⟨z, hz, hz2⟩ := List.mem_map.1 hx2
          have := HWs.out z hz
          rw [hz2] at this
          omega
        · rw [tl_ws x hx]; simp) true (by simp [HL2.out, HLo.out]))
      clear hOL hOM
      go_wp2_with (go_at_call 19; refine HA.out.mono ?_; rintro e w5 ⟨rfl, hb5⟩; have HK5 := hid (HK1.out.on hb5); clear hb5)
      go_ret
      exact ⟨rfl, HK5.out.emb (fun i => i + (2 + lo2.length)) (fun i r hr => by
        rw [show i + (2 + lo2.length) = (i + lo2.length) + 1 + 1 by omega, List.getElem?_cons_succ, List.getElem?_cons_succ, List.getElem?_append_right (by rw [List.length_map]; omega), List.length_map]
        rw [show i + lo2.length - lo2.length = i by omega]
        exact hr) (fun i j hij => by omega)⟩
end Go.Proofs.YtmomidkodjihjaaDoor
