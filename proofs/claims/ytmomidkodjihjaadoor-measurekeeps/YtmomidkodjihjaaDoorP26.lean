import Derived.Test.YtmomidkodjihjaaDoorP25
import Derived.Test.YtmomidkodjihjaaDoorP21
namespace Go.Proofs.YtmomidkodjihjaaDoor
open Go.RowKit
open H
set_option maxHeartbeats 4000000
set_option maxRecDepth 100000
theorem co_arg (W : World) (hT : Tab W) (h2 : 1 < W.heap.size) (ao bo : Option Addr) (n c m d N M : Nat) (E F : List Int) (hN : E.length = N) (hM : F.length = M) (lN : N ≤ 262144) (lM : M ≤ 262144) (HA : EncOk W ao n c N E) (HB : EncOk W bo m d M F) (h : E = F ∨ sumW E ≠ sumW F) :
    Calls Tryd.prog 46 #[.slice ao n c, .slice bo m d, .func (.func 20) #[] #[]] W fun e W' => e = .returned (.tuple #[.agg nil2.toArray, .int .i64 1]) ∧ Below W.heap.size W W' := by
  refine (co_two W hT h2 ao bo n c m d N M E F hN hM lN lM HA HB).mono ?_
  rintro e w (⟨_, h1⟩ | ⟨⟨h1, h3⟩, _⟩)
  · exact h1
  · rcases h with h | h
    · exact absurd h h1
    · exact absurd h3 h
theorem EncOk.on {W w : World} {ao : Option Addr} {n c N : Nat} {E : List Int} (h : EncOk W ao n c N E) (hw : Below W.heap.size W w) : EncOk w ao n c N E := fun w' hw' => h w' (below_on hw hw')
theorem EncNo.on {W w : World} {ao : Option Addr} {n c : Nat} {er : Int} (h : EncNo W ao n c er) (hw : Below W.heap.size W w) : EncNo w ao n c er := fun w' hw' => h w' (below_on hw hw')
theorem col_no (W : World) (ao bo : Option Addr) (n c m d : Nat) (er : Int) (H : ∀ w, Below W.heap.size W w → Calls Tryd.prog 46 #[.slice ao n c, .slice bo m d, .func (.func 20) #[] #[]] w fun e W' => e = .returned (.tuple #[.agg nil2.toArray, .int .i64 er]) ∧ Below w.heap.size w W') :
    Calls Tryd.prog 21 #[.slice ao n c, .slice bo m d] W fun e W' => e = .returned (.tuple #[.agg nil2.toArray, .int .i64 er]) ∧ Below W.heap.size W W' := by
  have B1 := hid (below_one W (.cells #[.slice none 0 0, .slice none 0 0] 52))
  have C1 : Hid (Cel (W.alloc (.cells #[.slice none 0 0, .slice none 0 0] 52)) W.heap.size 52 nil2) := hid (heap_alloc_new _ _)
  have HE := hid H
  clear H
  go_enter Tryd.func21, Tryd.ntmps21
  go_wp2_with (first | (go_at_call 46; refine (HE.out _ B1.out).mono ?_; rintro e w1 ⟨rfl, hb⟩; have B2 := hid (below_on B1.out hb); have C2 := hid (C1.out.on hb); clear hb) | (revert C2; intro C2; refine wpList_store_st rfl 52 _ _ rfl W.heap.size nil2 rfl rfl C2.out size52 rfl rfl ?_; intro w3 hc3 hb3 hs3; have X3 := hid (And.intro (B2.out.trans (hb3.below (Nat.le_refl _) B2.out.size)) hc3); clear hc3 hb3 hs3 C2))
  refine ret_pair rfl rfl W.heap.size nil2 rfl X3.out.2 Tryd.underlying52 rfl size52 ⟨rfl, X3.out.1⟩
theorem col_arg (W : World) (hT : Tab W) (h2 : 1 < W.heap.size) (ao bo : Option Addr) (n c m d N M : Nat) (E F : List Int) (hN : E.length = N) (hM : F.length = M) (lN : N ≤ 262144) (lM : M ≤ 262144) (HA : EncOk W ao n c N E) (HB : EncOk W bo m d M F) (h : E = F ∨ sumW E ≠ sumW F) :
    Calls Tryd.prog 21 #[.slice ao n c, .slice bo m d] W fun e W' => e = .returned (.tuple #[.agg nil2.toArray, .int .i64 1]) ∧ Below W.heap.size W W' :=
  col_no W ao bo n c m d 1 (fun w hw => co_arg w (hT.below hw h2) (by have := hw.size; omega) ao bo n c m d N M E F hN hM lN lM (HA.on hw) (HB.on hw) h)
end Go.Proofs.YtmomidkodjihjaaDoor
namespace Go.Proofs.YtmomidkodjihjaaDoor
open Go.RowKit
open H
set_option maxHeartbeats 4000000
set_option maxRecDepth 100000
theorem loadSaved_any (W : World) (gs : Nat) (L : List Int) (wL : Wds L) (hL : L.length ≤ 36028797018963968) (hb : Blk W gs .u32 37 (saveOf L)) :
    Calls Tryd.prog 43 #[.slice (some ⟨gs, 0, none⟩) 26 26] W fun e W' => ∃ g, W.heap.size ≤ g ∧ e = .returned (.tuple #[.pointer (some ⟨g, 0, none⟩), .int .i64 0]) ∧ DigL W' g L ∧ Below W.heap.size W W' := by
  refine (load_any W gs 0 26 (saveOf L) (saveOf_length L) (wds_saveOf wL hL) hb.row hb.lt (Nat.le_refl _)).mono ?_
  have hA := run_length S.First L rfl (L.length / 16)
  have hp : (L.drop (16 * (L.length / 16))).length = L.length % 16 := by rw [List.length_drop]; omega
  rintro e w ⟨hw, ⟨_, g, hg, rfl, D⟩ | ⟨hno, _⟩⟩
  · refine ⟨g, hg, rfl, ?_, hw⟩
    unfold saveOf at D
    rw [saveL_head _ _ _ hA, saveL_num _ _ _ hA, saveL_wait _ _ _ hA hp] at D
    exact D
  · refine absurd ?_ hno
    refine saveL_ok _ _ _ hA hp hL ?_
    by_cases h : 16 ≤ L.length
    · exact .inl h
    · right; rw [show L.length / 16 = 0 by omega]; rfl
attribute [-simp] Tryd.isAgg37 Tryd.sizeOf37 Tryd.zeroValue37 Tryd.isAgg44 Tryd.sizeOf44 Tryd.zeroValue44
theorem start_any (W : World) : Calls Tryd.prog 15 #[] W fun e W' => e = .returned (Ag (saveOf [])) ∧ Below W.heap.size W W' := by
  obtain ⟨Z, hZ⟩ : ∃ Z : List Int, Z = List.replicate 26 0 := ⟨_, rfl⟩
  have hZl : Z.length = 26 := by rw [hZ]; simp
  have hz : ∀ w, (zeroValue 37).run Tryd.prog w = .ok (.agg (Z.map (Value.int .u32)).toArray) w := fun w => by rw [Tryd.zeroValue37, hZ]; rfl
  clear hZ
  have B1 : Hid (Below W.heap.size W (W.alloc (Obj.cells (List.map (Value.int IntKind.u32) Z).toArray 37))) := below_one _ _
  have Z1 : Hid (Blk (W.alloc (Obj.cells (List.map (Value.int IntKind.u32) Z).toArray 37)) W.heap.size .u32 37 Z) := Blk.new W .u32 37 Z
  have hMl := saveOf_length []
  have HN := hid (fun w => newL_any w)
  have HS := hid (fun w g (D : DigL w g []) => saveOfL_any w g [] D)
  simp only [show ∀ M : List Int, Value.agg (M.map (Value.int .u32)).toArray = Ag M from fun _ => rfl] at HS
  generalize saveOf [] = M at *
  go_enter Tryd.func15, Tryd.ntmps15
  go_wp2_with (first | (go_at_call 41; refine (HN.out _).mono ?_; rintro e w1 ⟨g, hg, rfl, hd, hb⟩; have D1 := hid hd; have B2 := hid (below_on B1.out hb); have Z2 := hid (Z1.out.on hb); clear hd hb hg) | (go_at_call 42; refine (HS.out _ _ D1.out).mono ?_; rintro e w2 ⟨rfl, hb⟩; have B3 := hid (below_on B2.out hb); have Z3 := hid (Z2.out.on hb); clear hb) | (refine wpList_store_blk rfl 37 _ _ rfl W.heap.size M rfl rfl Z3.out (by rw [hMl]; exact size40) (by rw [hZl, hMl]) ?_))
  refine ret_cell rfl rfl W.heap.size M rfl (Z3.out.setRow _) Tryd.underlying37 (by rw [hMl]; exact size40) ⟨rfl, below_setRow B3.out (Nat.le_refl _) _⟩
theorem finish_ok (W : World) (hT : Tab W) (h2 : 1 < W.heap.size) (L : List Int) (wL : Wds L) (hL : L.length ≤ 36028797018963968) :
    Calls Tryd.prog 18 #[Ag (saveOf L)] W fun e W' => e = .returned (.tuple #[Ag (sumW L), .int .i64 0]) ∧ Below W.heap.size W W' := by
  obtain ⟨Z, hZ⟩ : ∃ Z : List Int, Z = List.replicate 8 0 := ⟨_, rfl⟩
  have hZl : Z.length = 8 := by rw [hZ]; simp
  have hz : ∀ w, (zeroValue 44).run Tryd.prog w = .ok (.agg (Z.map (Value.int .u32)).toArray) w := fun w => by rw [Tryd.zeroValue44, hZ]; rfl
  clear hZ
  have hsl := saveOf_length L
  have HLd := hid (fun w gs (hb : Blk w gs .u32 37 (saveOf L)) => loadSaved_any w gs L wL hL hb)
  have HSu : Hid (∀ w g, Below W.heap.size W w → DigL w g L → Calls Tryd.prog 45 #[.pointer (some ⟨g, 0, none⟩)] w fun e W' => e = .returned (Ag (sumW L)) ∧ Below w.heap.size w W') := hid (fun w g hw D => dsum_any w (hT.below hw h2) (by have := hw.size; omega) g _ _ _ D)
  have hMl := sumW_length L
  generalize sumW L = M at *
  generalize saveOf L = s at *
  have B1 : Hid (Below W.heap.size W ((W.alloc (Obj.cells (List.map (Value.int IntKind.u32) s).toArray 37)).alloc (Obj.cells (List.map (Value.int IntKind.u32) Z).toArray 44))) := (below_one _ _).alloc (by simp) _
  have S1 : Hid (Blk ((W.alloc (Obj.cells (List.map (Value.int IntKind.u32) s).toArray 37)).alloc (Obj.cells (List.map (Value.int IntKind.u32) Z).toArray 44)) W.heap.size .u32 37 s) := (Blk.new W .u32 37 s).alloc _
  have Z1 : Hid (Blk ((W.alloc (Obj.cells (List.map (Value.int IntKind.u32) s).toArray 37)).alloc (Obj.cells (List.map (Value.int IntKind.u32) Z).toArray 44)) (W.heap.size + 1) .u32 44 Z) := Blk.newAt (by simp) .u32 44 Z
  clear hT h2 wL hL
  unfold Ag
  go_enter Tryd.func18, Tryd.ntmps18
  go_wp2_with (first | (go_at_call 43; refine (HLd.out _ _ S1.out).mono ?_; rintro e w1 ⟨g, hg, rfl, hd, hb⟩; have D1 := hid hd; have B2 := hid (below_on B1.out hb); have Z2 := hid (Z1.out.on hb); clear hd hb hg) | (go_at_call 45; refine (HSu.out _ _ B2.out D1.out).mono ?_; rintro e w2 ⟨rfl, hb⟩; have B3 := hid (below_on B2.out hb); have Z3 := hid (Z2.out.on hb); clear hb) | (refine wpList_store_blk rfl 44 _ _ rfl (W.heap.size + 1) M rfl rfl Z3.out (by rw [hMl]; exact size27) (by rw [hZl, hMl]) ?_))
  refine ret_cell2 rfl rfl (W.heap.size + 1) M rfl (Z3.out.setRow _) Tryd.underlying44 (by rw [hMl]; exact size27) ⟨rfl, below_setRow B3.out (Nat.le_succ _) _⟩
end Go.Proofs.YtmomidkodjihjaaDoor
namespace Go.Proofs.YtmomidkodjihjaaDoor
open Go.RowKit
open H
set_option maxHeartbeats 4000000
set_option maxRecDepth 100000
attribute [-simp] Tryd.isAgg37 Tryd.sizeOf37 Tryd.zeroValue37 Tryd.isAgg44 Tryd.sizeOf44 Tryd.zeroValue44
def exW (W : World) (s : List Int) (k a : Int) (ao : Option Addr) (n c : Nat) (Z : List Int) : World := ((W.alloc (Obj.cells (List.map (Value.int IntKind.u32) s).toArray 37)).alloc (Obj.cells #[.int .i64 k, .int .u32 a, .slice ao n c] 43)).alloc (Obj.cells (List.map (Value.int IntKind.u32) Z).toArray 37)
structure EX (W w : World) (s : List Int) (Z : List Int) : Prop where
  below : Below W.heap.size W w
  bs : Blk w W.heap.size .u32 37 s
  bz : Blk w (W.heap.size + 1 + 1) .u32 37 Z
theorem EX.on {W w w' : World} {s Z : List Int} (h : EX W w s Z) (hb : Below w.heap.size w w') : EX W w' s Z := ⟨below_on h.below hb, h.bs.on hb, h.bz.on hb⟩
theorem EX.but {W w w' : World} {s Z : List Int} {g : Nat} (h : EX W w s Z) (hb : But g w w') (hg : W.heap.size + 1 + 1 < g) : EX W w' s Z := ⟨h.below.trans (hb.below (by omega) h.below.size), hb.blk h.bs (by omega), hb.blk h.bz (by omega)⟩
theorem exW_ex (W : World) (s : List Int) (k a : Int) (ao : Option Addr) (n c : Nat) (Z : List Int) : EX W (exW W s k a ao n c Z) s Z ∧ Cel (exW W s k a ao n c Z) (W.heap.size + 1) 43 [.int .i64 k, .int .u32 a, .slice ao n c] := by
  refine ⟨⟨below_on (below_on (below_one _ _) (below_one _ _)) (below_one _ _), ((Blk.new W .u32 37 s).alloc _).alloc _, Blk.newAt (by simp) .u32 37 Z⟩, ?_⟩
  exact (cel_new2 W _ 43 [.int .i64 k, .int .u32 a, .slice ao n c]).on (below_one _ _)
theorem extend_ok (W : World) (hT : Tab W) (h2 : 1 < W.heap.size) (L : List Int) (wL : Wds L) (hL : L.length + 1026 ≤ 36028797018963968) (o : MOp) (ho : o.Ok) (ao : Option Addr) (c : Nat) (hat : At W .u32 ao o.ws) :
    Calls Tryd.prog 16 #[Ag (saveOf L), .agg #[.int .i64 o.k, .int .u32 o.a, .slice ao o.ws.length c]] W fun e W' => e = .returned (.tuple #[Ag (saveOf (L ++ o.wds)), .int .i64 0]) ∧ Below W.heap.size W W' := by
  obtain ⟨Z, hZ⟩ : ∃ Z : List Int, Z = List.replicate 26 0 := ⟨_, rfl⟩
  have hZl : Z.length = 26 := by rw [hZ]; simp
  have hz : ∀ w, (zeroValue 37).run Tryd.prog w = .ok (.agg (Z.map (Value.int .u32)).toArray) w := fun w => by rw [Tryd.zeroValue37, hZ]; rfl
  clear hZ
  have hsl := saveOf_length L
  have hMl := saveOf_length (L ++ o.wds)
  have hwl := wds_len o ho
  have HLd := hid (fun w gs (hb : Blk w gs .u32 37 (saveOf L)) => loadSaved_any w gs L wL (by omega) hb)
  have HLy := hid (fun w (hw : Below W.heap.size W w) => lay_any w w (.slice none 0 0) [] (Holds.start w .u32 24) (by decide) o ho ao c (hat.below hw))
  have HAd := hid (fun w (hw : Below W.heap.size W w) g (D : DigL w g L) p cp (hp : At w .u32 p o.wds) => addL_any w (hT.below hw h2) (by have := hw.size; omega) g L D p o.wds.length cp o.wds rfl hp (by omega) (by omega))
  have HSv := hid (fun w g (D : DigL w g (L ++ o.wds)) => saveOfL_any w g (L ++ o.wds) D)
  simp only [show ∀ M : List Int, Value.agg (M.map (Value.int .u32)).toArray = Ag M from fun _ => rfl] at HSv
  have HO := hid (fun w => opOf_any w o.k o.a ao o.ws.length c)
  rw [(okk_iff o).2 ho] at HO
  simp only [if_true] at HO
  simp only [List.nil_append] at HLy
  obtain ⟨x0, hc⟩ := exW_ex W (saveOf L) o.k o.a ao o.ws.length c Z
  have X0 := hid x0
  have c0 := hc.cell 0
  have c1 := hc.cell 1
  have c2 := hc.cell 2
  simp only [List.getElem?_cons_zero, List.getElem?_cons_succ] at c0 c1 c2
  clear x0 hc ho hat wL hL hT h2 hwl
  generalize saveOf (L ++ o.wds) = M at *
  generalize saveOf L = s at *
  generalize ivk o.k o.a ao o.ws.length c = iv at *
  generalize o.wds = E at *
  unfold exW at *
  unfold Ag
  go_enter Tryd.func16, Tryd.ntmps16
  go_wp2_with (first | (go_at_call 38; refine (HO.out _).mono ?_; rintro e w1 ⟨rfl, hb⟩; have X1 := hid (X0.out.on hb); clear hb c0 c1 c2 X0) | (go_at_call 43; refine (HLd.out _ _ X1.out.bs).mono ?_; rintro e w2 ⟨g, hg, rfl, hd, hb⟩; have X2 := hid (X1.out.on hb); have D2 := hid hd; have HG : Hid (W.heap.size + 1 + 1 < g) := hid (by have := X1.out.bz.lt; omega); clear hb hd hg X1) | (go_at_call 39; refine (HLy.out _ X2.out.below).mono ?_; rintro e w3 ⟨v3, rfl, h3⟩; obtain ⟨p3, c3, hv3, _, ha3, _⟩ := h3.at'; subst hv3; have X3 := hid (X2.out.on h3.below); have D3 := hid (D2.out.below h3.below); have A3 := hid ha3; clear h3 ha3 X2 D2) | (go_at_call 44; refine (HAd.out _ X3.out.below _ D3.out _ _ A3.out).mono ?_; rintro e w4 ⟨rfl, hd, hb⟩; have X4 := hid (X3.out.but hb HG.out); have D4 := hid hd; clear hb hd X3 D3 A3) | (go_at_call 42; refine (HSv.out _ _ D4.out).mono ?_; rintro e w5 ⟨rfl, hb⟩; have X5 := hid (X4.out.on hb); clear hb X4 D4) | (refine wpList_store_blk rfl 37 _ _ rfl (W.heap.size + 1 + 1) M rfl rfl X5.out.bz (by rw [hMl]; exact size40) (by rw [hZl, hMl]) ?_))
  refine ret_cell2 rfl rfl (W.heap.size + 1 + 1) M rfl (X5.out.bz.setRow _) Tryd.underlying37 (by rw [hMl]; exact size40) ⟨rfl, below_setRow X5.out.below (by omega) _⟩
end Go.Proofs.YtmomidkodjihjaaDoor
