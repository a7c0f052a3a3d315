import Derived.Test.YtllcbgdcepfdkaaGreatDoorP31
import Derived.Test.YtllcbgdcepfdkaaGreatDoorP30
namespace Go.Proofs.YtllcbgdcepfdkaaGreatDoor.H
open Go.RowKit

/-- What a digest of these words saves. -/
def saveOf (L : List Int) : List Int := saveL (S.run S.First L (L.length / 16)) L.length (L.drop (16 * (L.length / 16)))
theorem saveOf_length (L : List Int) : (saveOf L).length = 26 := saveL_length _ _ _ (run_length _ _ rfl _) (by rw [List.length_drop]; omega)
theorem saveOfL_any (W : World) (g : Nat) (L : List Int) (D : DigL W g L) :
    Calls Tryz.prog 102 #[.pointer (some ⟨g, 0, none⟩)] W fun e W' => e = .returned (.agg ((saveOf L).map (Value.int .u32)).toArray) ∧ Below W.heap.size W W' := save_any W g _ _ _ D
theorem saveL_head (A : List Int) (n : Nat) (p : List Int) (hA : A.length = 8) : (saveL A n p).take 8 = A := by
  unfold saveL
  rw [List.append_assoc, List.take_append_of_le_length (by omega), List.take_of_length_le (by omega)]
theorem saveL_ten (A : List Int) (n : Nat) (p : List Int) (hA : A.length = 8) : (saveL A n p).drop 10 = p ++ List.replicate (16 - p.length) 0 := by
  unfold saveL
  rw [List.drop_append_of_le_length (by simp [hA]), List.drop_eq_nil_of_le (by simp [hA]), List.nil_append]
theorem saveL_8 (A : List Int) (n : Nat) (p : List Int) (hA : A.length = 8) : (saveL A n p).getD 8 0 = (n : Int) / 4294967296 := by
  unfold saveL
  rw [List.append_assoc, List.getD_eq_getElem?_getD, List.getElem?_append_right (by omega), hA]
  rfl
theorem saveL_9 (A : List Int) (n : Nat) (p : List Int) (hA : A.length = 8) : (saveL A n p).getD 9 0 = (n : Int) % 4294967296 := by
  unfold saveL
  rw [List.append_assoc, List.getD_eq_getElem?_getD, List.getElem?_append_right (by omega), hA]
  rfl
theorem saveL_num (A : List Int) (n : Nat) (p : List Int) (hA : A.length = 8) : numL (saveL A n p) = n := by
  unfold numL
  rw [saveL_8 _ _ _ hA, saveL_9 _ _ _ hA]
  omega
theorem saveL_wait (A : List Int) (n : Nat) (p : List Int) (hA : A.length = 8) (hp : p.length = n % 16) : waitL (saveL A n p) = p := by
  unfold waitL
  rw [saveL_num _ _ _ hA, saveL_ten _ _ _ hA, ← hp, List.take_append_of_le_length (Nat.le_refl _), List.take_of_length_le (Nat.le_refl _)]
theorem saveL_ok (A : List Int) (n : Nat) (p : List Int) (hA : A.length = 8) (hp : p.length = n % 16) (hn : n ≤ 36028797018963968) (hf : 16 ≤ n ∨ A = S.First) : LoadOk (saveL A n p) := by
  refine ⟨by rw [saveL_num _ _ _ hA]; exact hn, ?_, ?_⟩
  · rw [saveL_num _ _ _ hA, saveL_head _ _ _ hA]; exact hf
  · rw [saveL_num _ _ _ hA, saveL_head _ _ _ hA, saveL_wait _ _ _ hA hp]
theorem wds_append {xs ys : List Int} (h : Wds xs) (h' : Wds ys) : Wds (xs ++ ys) := fun i => by
  rcases Nat.lt_or_ge i xs.length with hi | hi
  · have := h i
    simpa [List.getD_eq_getElem?_getD, List.getElem?_append_left hi] using this
  · have := h' (i - xs.length)
    simpa [List.getD_eq_getElem?_getD, List.getElem?_append_right hi] using this
theorem wds_drop {xs : List Int} (h : Wds xs) (n : Nat) : Wds (xs.drop n) := fun i => by
  rw [getD_drop]; exact h _
theorem wds_zeros (n : Nat) : Wds (List.replicate n 0) := fun i => by
  simp only [List.getD_eq_getElem?_getD, List.getElem?_replicate]
  split <;> simp
theorem wds_block (A B : List Int) : Wds (S.block A B) := fun i => by
  unfold S.block
  generalize S.rounds A (S.sched B 48) 64 = R
  by_cases hi : i < 8
  · simp only [S.plus, List.getD_eq_getElem?_getD, List.getElem?_map, List.getElem?_range hi, Option.map_some, Option.getD_some, if_pos hi, S.ad]
    omega
  · simp [List.getD_eq_getElem?_getD, List.getElem?_eq_none (show (S.plus R A 8).length ≤ i by rw [plus_length]; omega)]
theorem wds_first : Wds S.First := fun i => by
  match i with
  | 0 | 1 | 2 | 3 | 4 | 5 | 6 | 7 => decide
  | i + 8 => simp [S.First]
theorem wds_run (L : List Int) (k : Nat) : Wds (S.run S.First L k) := by
  cases k with
  | zero => exact wds_first
  | succ k => exact wds_block _ _
theorem wds_saveOf {L : List Int} (h : Wds L) (hL : L.length ≤ 36028797018963968) : Wds (saveOf L) := by
  refine wds_append (wds_append (wds_run _ _) fun i => ?_) (wds_append (wds_drop h _) (wds_zeros _))
  match i with
  | 0 => simp only [List.getD_cons_zero]; omega
  | 1 => simp only [List.getD_cons_succ, List.getD_cons_zero]; omega
  | i + 2 => simp
end Go.Proofs.YtllcbgdcepfdkaaGreatDoor.H
namespace Go.Proofs.YtllcbgdcepfdkaaGreatDoor.Q
open Go.RowKit
open Go.Proofs.YtllcbgdcepfdkaaGreatDoor.H
set_option maxHeartbeats 4000000
set_option maxRecDepth 100000
theorem MOp.ext' {o p : MOp} (h1 : o.k = p.k) (h2 : o.a = p.a) (h3 : o.ws = p.ws) : o = p := by cases o; cases p; simp_all
theorem wds_split {o p : MOp} (ho : o.Ok) (hp : p.Ok) {s t : List Int} (h : o.wds ++ s = p.wds ++ t) : o = p ∧ s = t := by
  unfold MOp.wds at h
  simp only [List.cons_append, List.cons.injEq] at h
  obtain ⟨h1, h2, h3⟩ := h
  have hl : o.ws.length = p.ws.length := by rw [ho.2.2, hp.2.2, h1]
  obtain ⟨h4, h5⟩ := List.append_inj h3 hl
  exact ⟨MOp.ext' h1 h2 h4, h5⟩
theorem enc_cons (o : MOp) (l : List MOp) : enc (o :: l) = o.wds ++ enc l := by simp [enc]
theorem enc_split : ∀ (l m : List MOp) (r : List Int), (∀ o ∈ l, o.Ok) → (∀ o ∈ m, o.Ok) → enc m = enc l ++ r → ∃ q, m = l ++ q ∧ enc q = r
  | [], m, r, _, _, h => ⟨m, rfl, by simpa [enc] using h⟩
  | o :: l, [], r, _, _, h => by
    rw [enc_cons] at h
    simp [enc, MOp.wds] at h
  | o :: l, p :: m, r, hl, hm, h => by
    rw [enc_cons, enc_cons, List.append_assoc] at h
    obtain ⟨h1, h2⟩ := wds_split (hm p (by simp)) (hl o (by simp)) h
    obtain ⟨q, h3, h4⟩ := enc_split l m r (fun x hx => hl x (by simp [hx])) (fun x hx => hm x (by simp [hx])) h2
    exact ⟨q, by rw [h1, h3]; rfl, h4⟩
def decR (ws : List Int) (e : Ending) (W W' : World) : Prop :=
  262144 < ws.length ∧ e = .returned (.tuple #[.slice none 0 0, .int .i64 2]) ∨
  ws.length ≤ 262144 ∧ (∀ l, (∀ o ∈ l, o.Ok) → enc l ≠ ws) ∧ e = .returned (.tuple #[.slice none 0 0, .int .i64 150]) ∨
  ws.length ≤ 262144 ∧ ∃ v l, e = .returned (.tuple #[v, .int .i64 0]) ∧ HO W W' v l ∧ (∀ o ∈ l.map Ov.o, o.Ok) ∧ enc (l.map Ov.o) = ws
/-- What Decode has told so far. -/
structure DecJ (W wr : World) (ws : List Int) (v : Value) (l : List Ov) (r : List Int) : Prop where
  ho : HO W wr v l
  ok : ∀ o ∈ l.map Ov.o, o.Ok
  is : ws = enc (l.map Ov.o) ++ r
theorem DecJ.no {W wr : World} {ws : List Int} {v : Value} {l : List Ov} {r : List Int} (h : DecJ W wr ws v l r) (hr : r ≠ []) (hn : ∀ (o : MOp) (t : List Int), o.Ok → r ≠ o.wds ++ t) : ∀ m, (∀ o ∈ m, o.Ok) → enc m ≠ ws := fun m hm he => by
  obtain ⟨q, h1, h2⟩ := enc_split (l.map Ov.o) m r h.ok hm (by rw [he]; exact h.is)
  cases q with
  | nil => exact hr (by simpa [enc] using h2.symm)
  | cons o q => exact hn o (enc q) (hm o (by rw [h1]; simp)) (by rw [← h2, enc_cons])
theorem cel_new2 (w : World) (o : Obj) (t : TypeId) (cs : List Value) : Cel ((w.alloc o).alloc (.cells cs.toArray t)) (w.heap.size + 1) t cs := by
  have := heap_alloc_new (w.alloc o) (.cells cs.toArray t)
  rwa [show (w.alloc o).heap.size = w.heap.size + 1 by simp] at this
end Go.Proofs.YtllcbgdcepfdkaaGreatDoor.Q
namespace Go.Proofs.YtllcbgdcepfdkaaGreatDoor.Q
open Go.RowKit
open Go.Proofs.YtllcbgdcepfdkaaGreatDoor.H
set_option maxHeartbeats 4000000
set_option maxRecDepth 100000
/-- The rest, from 0 on. -/
def wit (x d : Int) : Int := if x.tmod d < 0 then x.tmod d + d else x.tmod d
end Go.Proofs.YtllcbgdcepfdkaaGreatDoor.Q
namespace Go.Proofs.YtllcbgdcepfdkaaGreatDoor.Q
open Go.RowKit
open Go.Proofs.YtllcbgdcepfdkaaGreatDoor.H
set_option maxHeartbeats 4000000
set_option maxRecDepth 100000
attribute [-simp] Tryz.isAgg56 Tryz.sizeOf56 Tryz.zeroValue56
end Go.Proofs.YtllcbgdcepfdkaaGreatDoor.Q
namespace Go.Proofs.YtllcbgdcepfdkaaGreatDoor.Q
open Go.RowKit
open Go.Proofs.YtllcbgdcepfdkaaGreatDoor.H
set_option maxHeartbeats 4000000
set_option maxRecDepth 100000
attribute [-simp] Tryz.isAgg59 Tryz.sizeOf59 Tryz.zeroValue59 Tryz.isAgg56 Tryz.sizeOf56 Tryz.zeroValue56
theorem start_any (W : World) : Calls Tryz.prog 47 #[] W fun e W' => e = .returned (Ag (saveOf [])) ∧ Below W.heap.size W W' := by
  obtain ⟨Z, hZ⟩ : ∃ Z : List Int, Z = List.replicate 26 0 := ⟨_, rfl⟩
  have hZl : Z.length = 26 := by rw [hZ]; simp
  have hz : ∀ w, (zeroValue 59).run Tryz.prog w = .ok (.agg (Z.map (Value.int .u32)).toArray) w := fun w => by rw [Tryz.zeroValue59, hZ]; rfl
  clear hZ
  have B1 : Hid (Below W.heap.size W (W.alloc (Obj.cells (List.map (Value.int IntKind.u32) Z).toArray 59))) := below_one _ _
  have Z1 : Hid (Blk (W.alloc (Obj.cells (List.map (Value.int IntKind.u32) Z).toArray 59)) W.heap.size .u32 59 Z) := Blk.new W .u32 59 Z
  have hMl := saveOf_length []
  have HN := hid (fun w => newL_any w)
  have HS := hid (fun w g (D : DigL w g []) => saveOfL_any w g [] D)
  simp only [show ∀ M : List Int, Value.agg (M.map (Value.int .u32)).toArray = Ag M from fun _ => rfl] at HS
  generalize saveOf [] = M at *
  go_enter Tryz.func47, Tryz.ntmps47
  go_wp2_with (first | (go_at_call 101; refine (HN.out _).mono ?_; rintro e w1 ⟨g, hg, rfl, hd, hb⟩; have D1 := hid hd; have B2 := hid (below_on B1.out hb); have Z2 := hid (Z1.out.on hb); clear hd hb hg) | (go_at_call 102; refine (HS.out _ _ D1.out).mono ?_; rintro e w2 ⟨rfl, hb⟩; have B3 := hid (below_on B2.out hb); have Z3 := hid (Z2.out.on hb); clear hb) | (refine wpList_store_blk rfl 59 _ _ rfl W.heap.size M rfl rfl Z3.out (by rw [hMl]; exact size40) (by rw [hZl, hMl]) ?_))
  refine ret_cell rfl rfl W.heap.size M rfl (Z3.out.setRow _) Tryz.underlying59 (by rw [hMl]; exact size40) ⟨rfl, below_setRow B3.out (Nat.le_refl _) _⟩
end Go.Proofs.YtllcbgdcepfdkaaGreatDoor.Q
namespace Go.Proofs.YtllcbgdcepfdkaaGreatDoor.Q
open Go.RowKit
open Go.Proofs.YtllcbgdcepfdkaaGreatDoor.H
set_option maxHeartbeats 4000000
set_option maxRecDepth 100000
attribute [-simp] Tryz.isAgg59 Tryz.sizeOf59 Tryz.zeroValue59 Tryz.isAgg56 Tryz.sizeOf56 Tryz.zeroValue56
/-- The three boxes of Extend. -/
def exW (W : World) (s : List Int) (k a : Int) (ao : Option Addr) (n c : Nat) (Z : List Int) : World := ((W.alloc (Obj.cells (List.map (Value.int IntKind.u32) s).toArray 59)).alloc (Obj.cells #[.int .i64 k, .int .u32 a, .slice ao n c] 54)).alloc (Obj.cells (List.map (Value.int IntKind.u32) Z).toArray 59)
structure EX (W w : World) (s : List Int) (Z : List Int) : Prop where
  below : Below W.heap.size W w
  bs : Blk w W.heap.size .u32 59 s
  bz : Blk w (W.heap.size + 1 + 1) .u32 59 Z
theorem EX.on {W w w' : World} {s Z : List Int} (h : EX W w s Z) (hb : Below w.heap.size w w') : EX W w' s Z := ⟨below_on h.below hb, h.bs.on hb, h.bz.on hb⟩
theorem EX.but {W w w' : World} {s Z : List Int} {g : Nat} (h : EX W w s Z) (hb : But g w w') (hg : W.heap.size + 1 + 1 < g) : EX W w' s Z := ⟨h.below.trans (hb.below (by omega) h.below.size), hb.blk h.bs (by omega), hb.blk h.bz (by omega)⟩
theorem exW_ex (W : World) (s : List Int) (k a : Int) (ao : Option Addr) (n c : Nat) (Z : List Int) : EX W (exW W s k a ao n c Z) s Z ∧ Cel (exW W s k a ao n c Z) (W.heap.size + 1) 54 [.int .i64 k, .int .u32 a, .slice ao n c] := by
  refine ⟨⟨below_on (below_on (below_one _ _) (below_one _ _)) (below_one _ _), ((Blk.new W .u32 59 s).alloc _).alloc _, Blk.newAt (by simp) .u32 59 Z⟩, ?_⟩
  exact (cel_new2 W _ 54 [.int .i64 k, .int .u32 a, .slice ao n c]).on (below_one _ _)
end Go.Proofs.YtllcbgdcepfdkaaGreatDoor.Q
