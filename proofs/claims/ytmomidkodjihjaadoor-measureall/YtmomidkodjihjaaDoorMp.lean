/- Extend. -/
import Derived.Test.YtmomidkodjihjaaDoorMo
namespace Go.Proofs.YtmomidkodjihjaaDoor
open Go.RowKit
open H
set_option maxHeartbeats 4000000
set_option maxRecDepth 100000
attribute [-simp] Tryd.isAgg37 Tryd.sizeOf37 Tryd.zeroValue37 Tryd.isAgg44 Tryd.sizeOf44 Tryd.zeroValue44
/-- The three boxes of Extend. -/
def exW (W : World) (s : List Int) (k a : Int) (ao : Option Addr) (n c : Nat) (Z : List Int) : World := ((W.alloc (Obj.cells (List.map (Value.int IntKind.u32) s).toArray 37)).alloc (Obj.cells #[.int .i64 k, .int .u32 a, .slice ao n c] 43)).alloc (Obj.cells (List.map (Value.int IntKind.u32) Z).toArray 37)
structure EX (W w : World) (s : List Int) (Z : List Int) : Prop where
  below : Below W.heap.size W w
  bs : Blk w W.heap.size .u32 37 s
  bz : Blk w (W.heap.size + 1 + 1) .u32 37 Z
theorem EX.on {W w w' : World} {s Z : List Int} (h : EX W w s Z) (hb : Below w.heap.size w w') : EX W w' s Z := ⟨below_on h.below hb, h.bs.on hb, h.bz.on hb⟩
theorem EX.but {W w w' : World} {s Z : List Int} {g : Nat} (h : EX W w s Z) (hb : But g w w') (hg : W.heap.size + 1 + 1 < g) : EX W w' s Z := ⟨h.below.trans (hb.below (by omega) h.below.size), hb.blk h.bs (by omega), hb.blk h.bz (by omega)⟩
theorem exW_ex (W : World) (s : List Int) (k a : Int) (ao : Option Addr) (n c : Nat) (Z : List Int) : EX W (exW W s k a ao n c Z) s Z ∧ Cel (exW W s k a ao n c Z) (W.heap.size + 1) 43 [.int .i64 k, .int .u32 a, .slice ao n c] := by
  refine ⟨⟨below_on (below_on (below_one _ _) (below_one _ _)) (below_one _ _), ((Blk.new W .u32 37 s).alloc _).alloc _, Blk.newAt (by simp) .u32 37 Z⟩, ?_⟩
  exact (cel_new2 W _ 43 [.int .i64 k, .int .u32 a, .slice ao n c]).on (below_one _ _)
theorem extend_bad (W : World) (s : List Int) (k a : Int) (ao : Option Addr) (n c : Nat) (ho : okk k n = false) :
    Calls Tryd.prog 16 #[Ag s, .agg #[.int .i64 k, .int .u32 a, .slice ao n c]] W fun e W' => e = .returned (.tuple #[Ag (List.replicate 26 0), .int .i64 150]) ∧ Below W.heap.size W W' := by
  obtain ⟨Z, hZ⟩ : ∃ Z : List Int, Z = List.replicate 26 0 := ⟨_, rfl⟩
  have hZl : Z.length = 26 := by rw [hZ]; simp
  have hz : ∀ w, (zeroValue 37).run Tryd.prog w = .ok (.agg (Z.map (Value.int .u32)).toArray) w := fun w => by rw [Tryd.zeroValue37, hZ]; rfl
  rw [← hZ]
  clear hZ
  obtain ⟨x0, hc⟩ := exW_ex W s k a ao n c Z
  have X0 := hid x0
  have c0 := hc.cell 0
  have c1 := hc.cell 1
  have c2 := hc.cell 2
  simp only [List.getElem?_cons_zero, List.getElem?_cons_succ] at c0 c1 c2
  have HO := hid (fun w => opOf_any w k a ao n c)
  rw [ho] at HO
  simp only [Bool.false_eq_true, if_false] at HO
  clear x0 hc ho
  unfold exW at *
  unfold Ag
  go_enter Tryd.func16, Tryd.ntmps16
  go_wp2_with (first | (go_at_call 38; refine (HO.out _).mono ?_; rintro e w1 ⟨rfl, hb⟩; have X1 := hid (X0.out.on hb); clear hb c0 c1 c2 X0) | (refine wpList_store_blk rfl 37 _ _ rfl (W.heap.size + 1 + 1) Z rfl rfl X1.out.bz (by rw [hZl]; exact size40) rfl ?_))
  refine ret_cell2 rfl rfl (W.heap.size + 1 + 1) Z rfl (X1.out.bz.setRow _) Tryd.underlying37 (by rw [hZl]; exact size40) ⟨rfl, below_setRow X1.out.below (by omega) _⟩
theorem extend_ok (W : World) (hT : Tab W) (h2 : 1 < W.heap.size) (L : List Int) (wL : Wds L) (hL : L.length + 1026 ≤ 36028797018963968) (o : MOp) (ho : o.Ok) (ao : Option Addr) (c : Nat) (hat : At W .u32 ao o.ws) :
    Calls Tryd.prog 16 #[Ag (saveOf L), .agg #[.int .i64 o.k, .int .u32 o.a, .slice ao o.ws.length c]] W fun e W' => e = .returned (.tuple #[Ag (saveOf (L ++ o.wds)), .int .i64 0]) ∧ Below W.heap.size W W' := by
  obtain ⟨Z, hZ⟩ : ∃ Z : List Int, Z = List.replicate 26 0 := ⟨_, rfl⟩
  have hZl : Z.length = 26 := by rw [hZ]; simp
  have hz : ∀ w, (zeroValue 37).run Tryd.prog w = .ok (.agg (Z.map (Value.int .u32)).toArray) w := fun w => by rw [Tryd.zeroValue37, hZ]; rfl
  clear hZ
  have hsl := saveOf_length L
  have hMl := saveOf_length (L ++ o.wds)
  have hwl := wds_len o ho
  have HLd := hid (fun w gs (hb : Blk w gs .u32 37 (saveOf L)) => loadSaved_any w gs L wL (by omega) hb)
  have HLy := hid (fun w (hw : Below W.heap.size W w) => lay_any w w (.slice none 0 0) [] (Holds.start w .u32 24) (by decide) o ho ao c (hat.below hw))
  have HAd := hid (fun w (hw : Below W.heap.size W w) g (D : DigL w g L) p cp (hp : At w .u32 p o.wds) => addL_any w (hT.below hw h2) (by have := hw.size; omega) g L D p o.wds.length cp o.wds rfl hp (by omega) (by omega))
  have HSv := hid (fun w g (D : DigL w g (L ++ o.wds)) => saveOfL_any w g (L ++ o.wds) D)
  simp only [show ∀ M : List Int, Value.agg (M.map (Value.int .u32)).toArray = Ag M from fun _ => rfl] at HSv
  have HO := hid (fun w => opOf_any w o.k o.a ao o.ws.length c)
  rw [(okk_iff o).2 ho] at HO
  simp only [if_true] at HO
  simp only [List.nil_append] at HLy
  obtain ⟨x0, hc⟩ := exW_ex W (saveOf L) o.k o.a ao o.ws.length c Z
  have X0 := hid x0
  have c0 := hc.cell 0
  have c1 := hc.cell 1
  have c2 := hc.cell 2
  simp only [List.getElem?_cons_zero, List.getElem?_cons_succ] at c0 c1 c2
  clear x0 hc ho hat wL hL hT h2 hwl
  generalize saveOf (L ++ o.wds) = M at *
  generalize saveOf L = s at *
  generalize ivk o.k o.a ao o.ws.length c = iv at *
  generalize o.wds = E at *
  unfold exW at *
  unfold Ag
  go_enter Tryd.func16, Tryd.ntmps16
  go_wp2_with (first | (go_at_call 38; refine (HO.out _).mono ?_; rintro e w1 ⟨rfl, hb⟩; have X1 := hid (X0.out.on hb); clear hb c0 c1 c2 X0) | (go_at_call 43; refine (HLd.out _ _ X1.out.bs).mono ?_; rintro e w2 ⟨g, hg, rfl, hd, hb⟩; have X2 := hid (X1.out.on hb); have D2 := hid hd; have HG : Hid (W.heap.size + 1 + 1 < g) := hid (by have := X1.out.bz.lt; omega); clear hb hd hg X1) | (go_at_call 39; refine (HLy.out _ X2.out.below).mono ?_; rintro e w3 ⟨v3, rfl, h3⟩; obtain ⟨p3, c3, hv3, _, ha3, _⟩ := h3.at'; subst hv3; have X3 := hid (X2.out.on h3.below); have D3 := hid (D2.out.below h3.below); have A3 := hid ha3; clear h3 ha3 X2 D2) | (go_at_call 44; refine (HAd.out _ X3.out.below _ D3.out _ _ A3.out).mono ?_; rintro e w4 ⟨rfl, hd, hb⟩; have X4 := hid (X3.out.but hb HG.out); have D4 := hid hd; clear hb hd X3 D3 A3) | (go_at_call 42; refine (HSv.out _ _ D4.out).mono ?_; rintro e w5 ⟨rfl, hb⟩; have X5 := hid (X4.out.on hb); clear hb X4 D4) | (refine wpList_store_blk rfl 37 _ _ rfl (W.heap.size + 1 + 1) M rfl rfl X5.out.bz (by rw [hMl]; exact size40) (by rw [hZl, hMl]) ?_))
  refine ret_cell2 rfl rfl (W.heap.size + 1 + 1) M rfl (X5.out.bz.setRow _) Tryd.underlying37 (by rw [hMl]; exact size40) ⟨rfl, below_setRow X5.out.below (by omega) _⟩
end Go.Proofs.YtmomidkodjihjaaDoor
