import Derived.Test.YtdfnbcbnmiohnaaGreatDoorP10
import Derived.Test.YtdfnbcbnmiohnaaGreatDoorP13
import Derived.Test.YtdfnbcbnmiohnaaGreatDoorP01
namespace Go.Proofs.YtdfnbcbnmiohnaaGreatDoor.Q
open Go.RowKit
open Go.Proofs.YtdfnbcbnmiohnaaGreatDoor.H
set_option maxHeartbeats 4000000
set_option maxRecDepth 100000
theorem MOp.ext' {o p : MOp} (h1 : o.k = p.k) (h2 : o.a = p.a) (h3 : o.ws = p.ws) : o = p := by cases o; cases p; simp_all
theorem wds_split {o p : MOp} (ho : o.Ok) (hp : p.Ok) {s t : List Int} (h : o.wds ++ s = p.wds ++ t) : o = p ∧ s = t := by
  unfold MOp.wds at h
  simp only [List.cons_append, List.cons.injEq] at h
  obtain ⟨h1, h2, h3⟩ := h
  have hl : o.ws.length = p.ws.length := by rw [ho.2.2, hp.2.2, h1]
  obtain ⟨h4, h5⟩ := List.append_inj h3 hl
  exact ⟨MOp.ext' h1 h2 h4, h5⟩
theorem enc_cons (o : MOp) (l : List MOp) : enc (o :: l) = o.wds ++ enc l := by simp [enc]
theorem enc_split : ∀ (l m : List MOp) (r : List Int), (∀ o ∈ l, o.Ok) → (∀ o ∈ m, o.Ok) → enc m = enc l ++ r → ∃ q, m = l ++ q ∧ enc q = r
  | [], m, r, _, _, h => ⟨m, rfl, by simpa [enc] using h⟩
  | o :: l, [], r, _, _, h => by
    rw [enc_cons] at h
    simp [enc, MOp.wds] at h
  | o :: l, p :: m, r, hl, hm, h => by
    rw [enc_cons, enc_cons, List.append_assoc] at h
    obtain ⟨h1, h2⟩ := wds_split (hm p (by simp)) (hl o (by simp)) h
    obtain ⟨q, h3, h4⟩ := enc_split l m r (fun x hx => hl x (by simp [hx])) (fun x hx => hm x (by simp [hx])) h2
    exact ⟨q, by rw [h1, h3]; rfl, h4⟩
def decR (ws : List Int) (e : Ending) (W W' : World) : Prop :=
  262144 < ws.length ∧ e = .returned (.tuple #[.slice none 0 0, .int .i64 2]) ∨
  ws.length ≤ 262144 ∧ (∀ l, (∀ o ∈ l, o.Ok) → enc l ≠ ws) ∧ e = .returned (.tuple #[.slice none 0 0, .int .i64 150]) ∨
  ws.length ≤ 262144 ∧ ∃ v l, e = .returned (.tuple #[v, .int .i64 0]) ∧ HO W W' v l ∧ (∀ o ∈ l.map Ov.o, o.Ok) ∧ enc (l.map Ov.o) = ws
structure DecJ (W wr : World) (ws : List Int) (v : Value) (l : List Ov) (r : List Int) : Prop where
  ho : HO W wr v l
  ok : ∀ o ∈ l.map Ov.o, o.Ok
  is : ws = enc (l.map Ov.o) ++ r
theorem DecJ.no {W wr : World} {ws : List Int} {v : Value} {l : List Ov} {r : List Int} (h : DecJ W wr ws v l r) (hr : r ≠ []) (hn : ∀ (o : MOp) (t : List Int), o.Ok → r ≠ o.wds ++ t) : ∀ m, (∀ o ∈ m, o.Ok) → enc m ≠ ws := fun m hm he => by
  obtain ⟨q, h1, h2⟩ := enc_split (l.map Ov.o) m r h.ok hm (by rw [he]; exact h.is)
  cases q with
  | nil => exact hr (by simpa [enc] using h2.symm)
  | cons o q => exact hn o (enc q) (hm o (by rw [h1]; simp)) (by rw [← h2, enc_cons])
theorem cel_new2 (w : World) (o : Obj) (t : TypeId) (cs : List Value) : Cel ((w.alloc o).alloc (.cells cs.toArray t)) (w.heap.size + 1) t cs := by
  have := heap_alloc_new (w.alloc o) (.cells cs.toArray t)
  rwa [show (w.alloc o).heap.size = w.heap.size + 1 by simp] at this
end Go.Proofs.YtdfnbcbnmiohnaaGreatDoor.Q
namespace Go.Proofs.YtdfnbcbnmiohnaaGreatDoor.Q
open Go.RowKit
open Go.Proofs.YtdfnbcbnmiohnaaGreatDoor.H
set_option maxHeartbeats 4000000
set_option maxRecDepth 100000
def wit (x d : Int) : Int := if x.tmod d < 0 then x.tmod d + d else x.tmod d
end Go.Proofs.YtdfnbcbnmiohnaaGreatDoor.Q
namespace Go.Proofs.YtdfnbcbnmiohnaaGreatDoor.Q
open Go.RowKit
open Go.Proofs.YtdfnbcbnmiohnaaGreatDoor.H
set_option maxHeartbeats 4000000
set_option maxRecDepth 100000
attribute [-simp] Tryz.isAgg55 Tryz.sizeOf55 Tryz.zeroValue55
end Go.Proofs.YtdfnbcbnmiohnaaGreatDoor.Q
namespace Go.Proofs.YtdfnbcbnmiohnaaGreatDoor.Q
open Go.RowKit
open Go.Proofs.YtdfnbcbnmiohnaaGreatDoor.H
set_option maxHeartbeats 4000000
set_option maxRecDepth 100000
attribute [-simp] Tryz.isAgg44 Tryz.sizeOf44 Tryz.zeroValue44 Tryz.isAgg55 Tryz.sizeOf55 Tryz.zeroValue55
theorem start_any (W : World) : Calls Tryz.prog 17 #[] W fun e W' => e = .returned (Ag (saveOf [])) ∧ Below W.heap.size W W' := by
  obtain ⟨Z, hZ⟩ : ∃ Z : List Int, Z = List.replicate 26 0 := ⟨_, rfl⟩
  have hZl : Z.length = 26 := by rw [hZ]; simp
  have hz : ∀ w, (zeroValue 44).run Tryz.prog w = .ok (.agg (Z.map (Value.int .u32)).toArray) w := fun w => by rw [Tryz.zeroValue44, hZ]; rfl
  clear hZ
  have B1 : Hid (Below W.heap.size W (W.alloc (Obj.cells (List.map (Value.int IntKind.u32) Z).toArray 44))) := below_one _ _
  have Z1 : Hid (Blk (W.alloc (Obj.cells (List.map (Value.int IntKind.u32) Z).toArray 44)) W.heap.size .u32 44 Z) := Blk.new W .u32 44 Z
  have hMl := saveOf_length []
  have HN := hid (fun w => newL_any w)
  have HS := hid (fun w g (D : DigL w g []) => saveOfL_any w g [] D)
  simp only [show ∀ M : List Int, Value.agg (M.map (Value.int .u32)).toArray = Ag M from fun _ => rfl] at HS
  generalize saveOf [] = M at *
  go_enter Tryz.func17, Tryz.ntmps17
  go_wp2_with (first | (go_at_call 55; refine (HN.out _).mono ?_; rintro e w1 ⟨g, hg, rfl, hd, hb⟩; have D1 := hid hd; have B2 := hid (below_on B1.out hb); have Z2 := hid (Z1.out.on hb); clear hd hb hg) | (go_at_call 56; refine (HS.out _ _ D1.out).mono ?_; rintro e w2 ⟨rfl, hb⟩; have B3 := hid (below_on B2.out hb); have Z3 := hid (Z2.out.on hb); clear hb) | (refine wpList_store_blk rfl 44 _ _ rfl W.heap.size M rfl rfl Z3.out (by rw [hMl]; exact size40) (by rw [hZl, hMl]) ?_))
  refine ret_cell rfl rfl W.heap.size M rfl (Z3.out.setRow _) Tryz.underlying44 (by rw [hMl]; exact size40) ⟨rfl, below_setRow B3.out (Nat.le_refl _) _⟩
end Go.Proofs.YtdfnbcbnmiohnaaGreatDoor.Q
namespace Go.Proofs.YtdfnbcbnmiohnaaGreatDoor.Q
open Go.RowKit
open Go.Proofs.YtdfnbcbnmiohnaaGreatDoor.H
set_option maxHeartbeats 4000000
set_option maxRecDepth 100000
attribute [-simp] Tryz.isAgg44 Tryz.sizeOf44 Tryz.zeroValue44 Tryz.isAgg55 Tryz.sizeOf55 Tryz.zeroValue55
def exW (W : World) (s : List Int) (k a : Int) (ao : Option Addr) (n c : Nat) (Z : List Int) : World := ((W.alloc (Obj.cells (List.map (Value.int IntKind.u32) s).toArray 44)).alloc (Obj.cells #[.int .i64 k, .int .u32 a, .slice ao n c] 53)).alloc (Obj.cells (List.map (Value.int IntKind.u32) Z).toArray 44)
structure EX (W w : World) (s : List Int) (Z : List Int) : Prop where
  below : Below W.heap.size W w
  bs : Blk w W.heap.size .u32 44 s
  bz : Blk w (W.heap.size + 1 + 1) .u32 44 Z
theorem EX.on {W w w' : World} {s Z : List Int} (h : EX W w s Z) (hb : Below w.heap.size w w') : EX W w' s Z := ⟨below_on h.below hb, h.bs.on hb, h.bz.on hb⟩
theorem EX.but {W w w' : World} {s Z : List Int} {g : Nat} (h : EX W w s Z) (hb : But g w w') (hg : W.heap.size + 1 + 1 < g) : EX W w' s Z := ⟨h.below.trans (hb.below (by omega) h.below.size), hb.blk h.bs (by omega), hb.blk h.bz (by omega)⟩
theorem exW_ex (W : World) (s : List Int) (k a : Int) (ao : Option Addr) (n c : Nat) (Z : List Int) : EX W (exW W s k a ao n c Z) s Z ∧ Cel (exW W s k a ao n c Z) (W.heap.size + 1) 53 [.int .i64 k, .int .u32 a, .slice ao n c] := by
  refine ⟨⟨below_on (below_on (below_one _ _) (below_one _ _)) (below_one _ _), ((Blk.new W .u32 44 s).alloc _).alloc _, Blk.newAt (by simp) .u32 44 Z⟩, ?_⟩
  exact (cel_new2 W _ 53 [.int .i64 k, .int .u32 a, .slice ao n c]).on (below_one _ _)
end Go.Proofs.YtdfnbcbnmiohnaaGreatDoor.Q
namespace Go.Proofs.YtdfnbcbnmiohnaaGreatDoor.Q
open Go.RowKit
open Go.Proofs.YtdfnbcbnmiohnaaGreatDoor.H
set_option maxHeartbeats 4000000
set_option maxRecDepth 100000
theorem wds_cons {a : Int} {xs : List Int} (h0 : 0 ≤ a) (h1 : a < 4294967296) (h : Wds xs) : Wds (a :: xs) := fun i => by
  cases i with
  | zero => exact ⟨h0, h1⟩
  | succ i => simpa using h i
theorem wds_take {xs : List Int} (h : Wds xs) (n : Nat) : Wds (xs.take n) := fun i => by
  by_cases hi : i < n
  · have := h i
    rwa [List.getD_eq_getElem?_getD, List.getElem?_take_of_lt hi, ← List.getD_eq_getElem?_getD]
  · rw [List.getD_eq_getElem?_getD, List.getElem?_eq_none (by simp; omega)]
    simp
attribute [-simp] Tryz.isAgg44 Tryz.sizeOf44 Tryz.zeroValue44 Tryz.isAgg55 Tryz.sizeOf55 Tryz.zeroValue55
def exQ (s xs : List Int) : Nat := (numL s % 16 + xs.length) / 16
def exS (s xs : List Int) : List Int := if numL s + xs.length ≤ 36028797018963968 then saveL (S.run (s.take 8) (waitL s ++ xs) (exQ s xs)) (numL s + xs.length) ((waitL s ++ xs).drop (16 * exQ s xs)) else s
def fiS (s : List Int) : List Int := S.fin (s.take 8) (waitL s ++ [2147483648]) (32 * (numL s : Int))
theorem wait_len {s : List Int} (hs : s.length = 26) : (waitL s).length = numL s % 16 := by
  unfold waitL
  rw [List.length_take, List.length_drop, hs]
  omega
theorem exS_len {s xs : List Int} (hs : s.length = 26) : (exS s xs).length = 26 := by
  unfold exS
  split
  · refine saveL_length _ _ _ (run_length _ _ (by rw [List.length_take, hs]; rfl) _) ?_
    rw [List.length_drop, List.length_append, wait_len hs]
    unfold exQ
    omega
  · exact hs
theorem wds_runA {A : List Int} (hA : Wds A) (L : List Int) (k : Nat) : Wds (S.run A L k) := by
  cases k with
  | zero => exact hA
  | succ k => exact wds_block _ _
theorem fiS_len {s : List Int} (hs : s.length = 26) : (fiS s).length = 8 := run_length _ _ (by rw [List.length_take, hs]; rfl) _
theorem wds_saveL {A : List Int} {n : Nat} {p : List Int} (hA : Wds A) (hn : n ≤ 36028797018963968) (hp : Wds p) : Wds (saveL A n p) := by
  unfold saveL
  refine wds_append (wds_append hA (wds_cons (by omega) (by omega) (wds_cons (by omega) (by omega) (fun i => by simp)))) (wds_append hp (wds_zeros _))
theorem exS_wds {s xs : List Int} (hs : Wds s) (hx : Wds xs) : Wds (exS s xs) := by
  unfold exS
  split
  · rename_i h
    exact wds_saveL (wds_runA (wds_take hs 8) _ _) h (wds_drop (wds_append (wds_take (wds_drop hs 10) _) hx) _)
  · exact hs
theorem load_yes (W : World) (gs : Nat) (s : List Int) (hs : s.length = 26) (ws : Wds s) (hok : LoadOk s) (hb : Blk W gs .u32 44 s) :
    Calls Tryz.prog 106 #[.slice (some ⟨gs, 0, none⟩) 26 26] W fun e W' => ∃ g, W.heap.size ≤ g ∧ e = .returned (.tuple #[.pointer (some ⟨g, 0, none⟩), .int .i64 0]) ∧ Dig W' g (s.take 8) (numL s) (waitL s) ∧ Below W.heap.size W W' := by
  refine (load_any W gs 0 26 s hs ws hb.row hb.lt (Nat.le_refl _)).mono ?_
  rintro e w ⟨hw, ⟨_, g, hg, rfl, D⟩ | ⟨hno, _⟩⟩
  · exact ⟨g, hg, rfl, D, hw⟩
  · exact absurd hok hno
theorem load_no (W : World) (gs : Nat) (s : List Int) (hs : s.length = 26) (ws : Wds s) (hok : ¬ LoadOk s) (hb : Blk W gs .u32 44 s) :
    Calls Tryz.prog 106 #[.slice (some ⟨gs, 0, none⟩) 26 26] W fun e W' => e = .returned (.tuple #[.pointer none, .int .i64 20]) ∧ Below W.heap.size W W' := by
  refine (load_any W gs 0 26 s hs ws hb.row hb.lt (Nat.le_refl _)).mono ?_
  rintro e w ⟨hw, ⟨h1, _⟩ | ⟨_, h1⟩⟩
  · exact absurd h1 hok
  · exact ⟨h1, hw⟩
theorem add_save (W w : World) (hT : Tab W) (h2 : 1 < W.heap.size) (hw : Below W.heap.size W w) (s xs : List Int) (hok : LoadOk s) (hx : xs.length ≤ 1026) (g : Nat) (D : Dig w g (s.take 8) (numL s) (waitL s)) (p : Option Addr) (cp : Nat) (hp : At w .u32 p xs) :
    Calls Tryz.prog 107 #[.pointer (some ⟨g, 0, none⟩), .slice p xs.length cp] w fun e W' => e = .returned (.tuple #[]) ∧ But g w W' ∧ ∃ A n q, Dig W' g A n q ∧ saveL A n q = exS s xs := by
  by_cases h : numL s + xs.length ≤ 36028797018963968
  · refine (add_fits w (hT.below hw h2) (by have := hw.size; omega) g _ _ _ D p _ cp xs rfl hp (by omega) h).mono ?_
    rintro e w' ⟨rfl, hd, hb⟩
    exact ⟨rfl, hb, _, _, _, hd, by unfold exS; rw [if_pos h]; rfl⟩
  · refine (add_over w g _ _ _ D p _ cp (by omega) (by omega)).mono ?_
    rintro e w' ⟨rfl, rfl⟩
    exact ⟨rfl, ⟨rfl, rfl, rfl, Nat.le_refl _, fun _ _ _ => rfl⟩, _, _, _, D, by unfold exS; rw [if_neg h]; exact hok.2.2⟩
theorem extend_gen (W : World) (hT : Tab W) (h2 : 1 < W.heap.size) (s : List Int) (hs : s.length = 26) (ws : Wds s) (hok : LoadOk s) (o : MOp) (ho : o.Ok) (ao : Option Addr) (c : Nat) (hat : At W .u32 ao o.ws) :
    Calls Tryz.prog 57 #[Ag s, .agg #[.int .i64 o.k, .int .u32 o.a, .slice ao o.ws.length c]] W fun e W' => e = .returned (.tuple #[Ag (exS s o.wds), .int .i64 0]) ∧ Below W.heap.size W W' := by
  obtain ⟨Z, hZ⟩ : ∃ Z : List Int, Z = List.replicate 26 0 := ⟨_, rfl⟩
  have hZl : Z.length = 26 := by rw [hZ]; simp
  have hz : ∀ w, (zeroValue 44).run Tryz.prog w = .ok (.agg (Z.map (Value.int .u32)).toArray) w := fun w => by rw [Tryz.zeroValue44, hZ]; rfl
  clear hZ
  have hMl := exS_len (xs := o.wds) hs
  have hwl := wds_len o ho
  have HLd := hid (fun w gs (hb : Blk w gs .u32 44 s) => load_yes w gs s hs ws hok hb)
  have HLy := hid (fun w (hw : Below W.heap.size W w) => lay_any w w (.slice none 0 0) [] (Holds.start w .u32 43) (by decide) o ho ao c (hat.below hw))
  have HAd := hid (fun w (hw : Below W.heap.size W w) g D p cp hp => add_save W w hT h2 hw s o.wds hok hwl.2 g D p cp hp)
  have HSv := hid (fun w g A n q (D : Dig w g A n q) => save_any w g A n q D)
  have HO := hid (fun w => opOf_any w o.k o.a ao o.ws.length c)
  rw [(okk_iff o).2 ho] at HO
  simp only [if_true] at HO
  simp only [List.nil_append] at HLy
  obtain ⟨x0, hc⟩ := exW_ex W s o.k o.a ao o.ws.length c Z
  have X0 := hid x0
  have c0 := hc.cell 0
  have c1 := hc.cell 1
  have c2 := hc.cell 2
  simp only [tqG, tqH] at c0 c1 c2
  clear x0 hc ho hat ws hok hT h2 hwl
  generalize exS s o.wds = M at *
  generalize s.take 8 = A0 at *
  generalize numL s = n0 at *
  generalize waitL s = p0 at *
  generalize ivk o.k o.a ao o.ws.length c = iv at *
  generalize o.wds = E at *
  unfold exW at *
  unfold Ag
  go_enter Tryz.func57, Tryz.ntmps57
  go_wp2_with (first | (go_at_call 105; refine (HO.out _).mono ?_; rintro e w1 ⟨rfl, hb⟩; have X1 := hid (X0.out.on hb); clear hb c0 c1 c2 X0) | (go_at_call 106; refine (HLd.out _ _ X1.out.bs).mono ?_; rintro e w2 ⟨g, hg, rfl, hd, hb⟩; have X2 := hid (X1.out.on hb); have D2 := hid hd; have HG : Hid (W.heap.size + 1 + 1 < g) := hid (by have := X1.out.bz.lt; omega); clear hb hd hg X1) | (go_at_call 108; refine (HLy.out _ X2.out.below).mono ?_; rintro e w3 ⟨v3, rfl, h3⟩; obtain ⟨p3, c3, hv3, _, ha3, _⟩ := h3.at'; subst hv3; have X3 := hid (X2.out.on h3.below); have D3 := hid (D2.out.below h3.below D2.out.lt); have A3 := hid ha3; clear h3 ha3 X2 D2) | (go_at_call 107; refine (HAd.out _ X3.out.below _ D3.out _ _ A3.out).mono ?_; rintro e w4 ⟨rfl, hb, A4, n4, q4, hd, hsv⟩; have X4 := hid (X3.out.but hb HG.out); have D4 := hid hd; have HSV := hid hsv; clear hb hd hsv X3 D3 A3) | (go_at_call 56; refine (HSv.out _ _ _ _ _ D4.out).mono ?_; rintro e w5 ⟨rfl, hb⟩; rw [HSV.out]; have X5 := hid (X4.out.on hb); clear hb X4 D4) | (refine wpList_store_blk rfl 44 _ _ rfl (W.heap.size + 1 + 1) M rfl rfl X5.out.bz (by rw [hMl]; exact size40) (by rw [hZl, hMl]) ?_))
  refine ret_cell2 rfl rfl (W.heap.size + 1 + 1) M rfl (X5.out.bz.setRow _) Tryz.underlying44 (by rw [hMl]; exact size40) ⟨rfl, below_setRow X5.out.below (by omega) _⟩
theorem extend_no (W : World) (s : List Int) (hs : s.length = 26) (ws : Wds s) (hok : ¬ LoadOk s) (o : MOp) (ho : o.Ok) (ao : Option Addr) (c : Nat) :
    Calls Tryz.prog 57 #[Ag s, .agg #[.int .i64 o.k, .int .u32 o.a, .slice ao o.ws.length c]] W fun e W' => e = .returned (.tuple #[Ag (List.replicate 26 0), .int .i64 20]) ∧ Below W.heap.size W W' := by
  obtain ⟨Z, hZ⟩ : ∃ Z : List Int, Z = List.replicate 26 0 := ⟨_, rfl⟩
  have hZl : Z.length = 26 := by rw [hZ]; simp
  have hz : ∀ w, (zeroValue 44).run Tryz.prog w = .ok (.agg (Z.map (Value.int .u32)).toArray) w := fun w => by rw [Tryz.zeroValue44, hZ]; rfl
  rw [← hZ]
  clear hZ
  have HLd := hid (fun w gs (hb : Blk w gs .u32 44 s) => load_no w gs s hs ws hok hb)
  have HO := hid (fun w => opOf_any w o.k o.a ao o.ws.length c)
  rw [(okk_iff o).2 ho] at HO
  simp only [if_true] at HO
  obtain ⟨x0, hc⟩ := exW_ex W s o.k o.a ao o.ws.length c Z
  have X0 := hid x0
  have c0 := hc.cell 0
  have c1 := hc.cell 1
  have c2 := hc.cell 2
  simp only [tqG, tqH] at c0 c1 c2
  clear x0 hc ho ws hok
  generalize ivk o.k o.a ao o.ws.length c = iv at *
  unfold exW at *
  unfold Ag
  go_enter Tryz.func57, Tryz.ntmps57
  go_wp2_with (first | (go_at_call 105; refine (HO.out _).mono ?_; rintro e w1 ⟨rfl, hb⟩; have X1 := hid (X0.out.on hb); clear hb c0 c1 c2 X0) | (go_at_call 106; refine (HLd.out _ _ X1.out.bs).mono ?_; rintro e w2 ⟨rfl, hb⟩; have X2 := hid (X1.out.on hb); clear hb X1) | (revert X2; intro X2; refine wpList_store_blk rfl 44 _ _ rfl (W.heap.size + 1 + 1) Z rfl rfl X2.out.bz (by rw [hZl]; exact size40) rfl ?_))
  refine ret_cell2 rfl rfl (W.heap.size + 1 + 1) Z rfl (X2.out.bz.setRow _) Tryz.underlying44 (by rw [hZl]; exact size40) ⟨rfl, below_setRow X2.out.below (by omega) _⟩
theorem finish_gen (W : World) (hT : Tab W) (h2 : 1 < W.heap.size) (s : List Int) (hs : s.length = 26) (ws : Wds s) (hok : LoadOk s) :
    Calls Tryz.prog 113 #[Ag s] W fun e W' => e = .returned (.tuple #[Ag (fiS s), .int .i64 0]) ∧ Below W.heap.size W W' := by
  obtain ⟨Z, hZ⟩ : ∃ Z : List Int, Z = List.replicate 8 0 := ⟨_, rfl⟩
  have hZl : Z.length = 8 := by rw [hZ]; simp
  have hz : ∀ w, (zeroValue 55).run Tryz.prog w = .ok (.agg (Z.map (Value.int .u32)).toArray) w := fun w => by rw [Tryz.zeroValue55, hZ]; rfl
  clear hZ
  have HLd := hid (fun w gs (hb : Blk w gs .u32 44 s) => load_yes w gs s hs ws hok hb)
  have HSu : Hid (∀ w g, Below W.heap.size W w → Dig w g (s.take 8) (numL s) (waitL s) → Calls Tryz.prog 109 #[.pointer (some ⟨g, 0, none⟩)] w fun e W' => e = .returned (Ag (fiS s)) ∧ Below w.heap.size w W') := hid (fun w g hw D => dsum_any w (hT.below hw h2) (by have := hw.size; omega) g _ _ _ D)
  have hMl := fiS_len hs
  generalize fiS s = M at *
  have B1 : Hid (Below W.heap.size W ((W.alloc (Obj.cells (List.map (Value.int IntKind.u32) s).toArray 44)).alloc (Obj.cells (List.map (Value.int IntKind.u32) Z).toArray 55))) := (below_one _ _).alloc (by simp) _
  have S1 : Hid (Blk ((W.alloc (Obj.cells (List.map (Value.int IntKind.u32) s).toArray 44)).alloc (Obj.cells (List.map (Value.int IntKind.u32) Z).toArray 55)) W.heap.size .u32 44 s) := (Blk.new W .u32 44 s).alloc _
  have Z1 : Hid (Blk ((W.alloc (Obj.cells (List.map (Value.int IntKind.u32) s).toArray 44)).alloc (Obj.cells (List.map (Value.int IntKind.u32) Z).toArray 55)) (W.heap.size + 1) .u32 55 Z) := Blk.newAt (by simp) .u32 55 Z
  clear hT h2 ws hok
  generalize s.take 8 = A0 at *
  generalize numL s = n0 at *
  generalize waitL s = p0 at *
  unfold Ag
  go_enter Tryz.func113, Tryz.ntmps113
  go_wp2_with (first | (go_at_call 106; refine (HLd.out _ _ S1.out).mono ?_; rintro e w1 ⟨g, hg, rfl, hd, hb⟩; have D1 := hid hd; have B2 := hid (below_on B1.out hb); have Z2 := hid (Z1.out.on hb); clear hd hb hg) | (go_at_call 109; refine (HSu.out _ _ B2.out D1.out).mono ?_; rintro e w2 ⟨rfl, hb⟩; have B3 := hid (below_on B2.out hb); have Z3 := hid (Z2.out.on hb); clear hb) | (refine wpList_store_blk rfl 55 _ _ rfl (W.heap.size + 1) M rfl rfl Z3.out (by rw [hMl]; exact size27) (by rw [hZl, hMl]) ?_))
  refine ret_cell2 rfl rfl (W.heap.size + 1) M rfl (Z3.out.setRow _) Tryz.underlying55 (by rw [hMl]; exact size27) ⟨rfl, below_setRow B3.out (Nat.le_succ _) _⟩
theorem finish_no (W : World) (s : List Int) (hs : s.length = 26) (ws : Wds s) (hok : ¬ LoadOk s) :
    Calls Tryz.prog 113 #[Ag s] W fun e W' => e = .returned (.tuple #[Ag (List.replicate 8 0), .int .i64 20]) ∧ Below W.heap.size W W' := by
  obtain ⟨Z, hZ⟩ : ∃ Z : List Int, Z = List.replicate 8 0 := ⟨_, rfl⟩
  have hZl : Z.length = 8 := by rw [hZ]; simp
  have hz : ∀ w, (zeroValue 55).run Tryz.prog w = .ok (.agg (Z.map (Value.int .u32)).toArray) w := fun w => by rw [Tryz.zeroValue55, hZ]; rfl
  rw [← hZ]
  clear hZ
  have HLd := hid (fun w gs (hb : Blk w gs .u32 44 s) => load_no w gs s hs ws hok hb)
  have B1 : Hid (Below W.heap.size W ((W.alloc (Obj.cells (List.map (Value.int IntKind.u32) s).toArray 44)).alloc (Obj.cells (List.map (Value.int IntKind.u32) Z).toArray 55))) := (below_one _ _).alloc (by simp) _
  have S1 : Hid (Blk ((W.alloc (Obj.cells (List.map (Value.int IntKind.u32) s).toArray 44)).alloc (Obj.cells (List.map (Value.int IntKind.u32) Z).toArray 55)) W.heap.size .u32 44 s) := (Blk.new W .u32 44 s).alloc _
  have Z1 : Hid (Blk ((W.alloc (Obj.cells (List.map (Value.int IntKind.u32) s).toArray 44)).alloc (Obj.cells (List.map (Value.int IntKind.u32) Z).toArray 55)) (W.heap.size + 1) .u32 55 Z) := Blk.newAt (by simp) .u32 55 Z
  clear ws hok
  unfold Ag
  go_enter Tryz.func113, Tryz.ntmps113
  go_wp2_with (first | (go_at_call 106; refine (HLd.out _ _ S1.out).mono ?_; rintro e w1 ⟨rfl, hb⟩; have B2 := hid (below_on B1.out hb); have Z2 := hid (Z1.out.on hb); clear hb) | (revert Z2; intro Z2; refine wpList_store_blk rfl 55 _ _ rfl (W.heap.size + 1) Z rfl rfl Z2.out (by rw [hZl]; exact size27) rfl ?_))
  refine ret_cell2 rfl rfl (W.heap.size + 1) Z rfl (Z2.out.setRow _) Tryz.underlying55 (by rw [hZl]; exact size27) ⟨rfl, below_setRow B2.out (Nat.le_succ _) _⟩
end Go.Proofs.YtdfnbcbnmiohnaaGreatDoor.Q
