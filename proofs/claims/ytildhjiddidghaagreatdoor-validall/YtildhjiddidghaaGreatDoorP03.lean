import Derived.Test.YtildhjiddidghaaGreatDoorP02
import Derived.Laws.Cover3
namespace Go.Proofs.YtildhjiddidghaaGreatDoor.H
open Go.RowKit

def Tab (W : World) : Prop := Row W .u32 2 0 S.K
theorem Tab.below {W w : World} {B : Nat} (h : Tab W) (hb : Below B W w) (hB : 2 < B) : Tab w := Row.below h hb hB
theorem Tab.cell {W : World} (h : Tab W) (i : Nat) (hi : i < 64) : W.cell? ⟨2, i, none⟩ = some (.int .u32 (S.K.getD i 0)) := by
  have := h i hi
  rwa [Nat.zero_add] at this
theorem rounds_length (A M : List Int) (hA : A.length = 8) (k : Nat) : (S.rounds A M k).length = 8 := by
  cases k with
  | zero => exact hA
  | succ k => rfl
theorem plus_length (a b : List Int) (t : Nat) : (S.plus a b t).length = 8 := by simp [S.plus]
theorem block_length (A B : List Int) : (S.block A B).length = 8 := plus_length _ _ _
theorem plus_zero (a b : List Int) (ha : a.length = 8) : S.plus a b 0 = a := by
  apply List.ext_getElem
  · simp [S.plus, ha]
  · intro i h1 h2
    simp [S.plus, List.getD_eq_getElem?_getD, h2]
theorem plus_getD (a b : List Int) (t : Nat) (ht : t < 8) : (S.plus a b t).getD t 0 = a.getD t 0 := by
  simp [S.plus, List.getD_eq_getElem?_getD, ht]
theorem plus_set (a b : List Int) (t : Nat) (u : Int) (hu : u = (a.getD t 0 + b.getD t 0) % 4294967296) : (S.plus a b t).set t u = S.plus a b (t + 1) := by
  subst hu
  apply List.ext_getElem
  · simp [S.plus]
  · intro i h1 h2
    rw [List.getElem_set]
    simp only [S.plus, List.getElem_map, List.getElem_range]
    split
    · subst_vars
      rw [if_pos (by omega)]
      rfl
    · by_cases h : i < t
      · rw [if_pos h, if_pos (by omega)]
      · rw [if_neg h, if_neg (by omega)]

theorem index_ag {P : Program} {ty : TypeId} {n : Nat} (hu : P.underlying ty = some (.array n 22)) (he : P.underlying 22 = some (.int .u32)) (hs : (P.info? 22).map (·.size) = some 1) (L : List Int) (k : Nat) (hL : L.length = n) (hk : k < n) (w : World) :
    (Instr.index ty (Ag L) (.int .i64 (k : Int))).run P w = .ok (.int .u32 (L.getD k 0)) w := by
  have hk' : (L.map (Value.int .u32)).toArray[k]? = some (.int .u32 (L.getD k 0)) := by simp [List.getD_eq_getElem?_getD, show k < L.length by omega]
  cases hq : P.info? 22 with
  | none => simp [hq] at hs
  | some i =>
    have hi : i.size = 1 := by simpa [hq] using hs
    simp [Instr.index, Ag, asIntOf, run_underlying hu, sizeOf, typeInfo, hq, hi, hk, part, isAgg, run_underlying he, show k < L.length by omega, List.getD_eq_getElem?_getD]
theorem cells_blk {P : Program} {w : World} {g : Nat} {e : TypeId} {L : List Int} (h : Blk w g .u32 e L) (n : Nat) (hn : L.length = n) : (loadCellsFrom ⟨g, 0, none⟩ 0 n #[]).run P w = .ok (L.map (Value.int .u32)).toArray w := by
  subst hn
  have := run_loadCells_list (P := P) w ⟨g, 0, none⟩ (L.map (Value.int .u32)) (fun j v hv => by
    have hadd : (⟨g, 0, none⟩ : Addr).add j = ⟨g, j, none⟩ := by unfold Addr.add; split <;> simp_all
    have := h.at.cells j v hv
    rwa [hadd] at this ⊢)
  simpa [loadCells] using this
theorem storeCells_blk {P : Program} {w : World} {g : Nat} {e : TypeId} {L L' : List Int} (h : Blk w g .u32 e L) (hl : L.length = L'.length) : (storeCells ⟨g, 0, none⟩ (L'.map (Value.int .u32)) 0).run P w = .ok () (w.setRow g (L'.map (Value.int .u32)).toArray) := by
  have := run_storeCells_from (P := P) g e (L'.map (Value.int .u32)) 0 _ w h (by simp [hl]) (ints_oneCell .u32 L')
  rw [this]
  simp

attribute [-simp] Tryz.isAgg130 Tryz.sizeOf130 Tryz.zeroValue130 Tryz.isAgg164 Tryz.sizeOf164 Tryz.isAgg196 Tryz.sizeOf196
set_option maxRecDepth 20000 in
set_option maxHeartbeats 2000000 in
theorem block_any (W : World) (hT : Tab W) (h2 : 2 < W.heap.size) (A B : List Int) (hA : A.length = 8) (hB : B.length = 16) :
    Calls Tryz.prog 153 #[Ag A, Ag B] W fun en W' => en = .returned (Ag (S.block A B)) ∧ Below W.heap.size W W' := by
  obtain ⟨Z, hZ⟩ : ∃ Z : List Int, Z = List.replicate 8 0 := ⟨_, rfl⟩
  have hZl : Z.length = 8 := by rw [hZ]; simp
  have hz : ∀ w, (zeroValue 130).run Tryz.prog w = .ok (.agg (Z.map (Value.int .u32)).toArray) w := fun w => by rw [Tryz.zeroValue130, hZ]; rfl
  clear hZ
  obtain ⟨wl, hwl⟩ : ∃ wl, wl = S.sched B 48 := ⟨_, rfl⟩
  have hwll : wl.length = 64 := by rw [hwl, sched_length, hB]
  have SC : Hid (∀ w, Calls Tryz.prog 175 #[Ag B] w fun en W' => en = .returned (Ag wl) ∧ Below w.heap.size w W') := by rw [hwl]; exact fun w => schedule_any w B hB
  have HF : Hid (S.plus (S.rounds A wl 64) A 8 = S.block A B) := by rw [hwl]; rfl
  clear hwl
  have bA : Blk (((W.alloc (Obj.cells (List.map (Value.int IntKind.u32) A).toArray 130)).alloc (Obj.cells (List.map (Value.int IntKind.u32) B).toArray 164)).alloc (Obj.cells (List.map (Value.int IntKind.u32) Z).toArray 130)) W.heap.size .u32 130 A := ((Blk.new W .u32 130 A).alloc _).alloc _
  have bB : Blk (((W.alloc (Obj.cells (List.map (Value.int IntKind.u32) A).toArray 130)).alloc (Obj.cells (List.map (Value.int IntKind.u32) B).toArray 164)).alloc (Obj.cells (List.map (Value.int IntKind.u32) Z).toArray 130)) (W.heap.size + 1) .u32 164 B := (Blk.newAt (by simp) .u32 164 B).alloc _
  have bZ : Blk (((W.alloc (Obj.cells (List.map (Value.int IntKind.u32) A).toArray 130)).alloc (Obj.cells (List.map (Value.int IntKind.u32) B).toArray 164)).alloc (Obj.cells (List.map (Value.int IntKind.u32) Z).toArray 130)) (W.heap.size + 1 + 1) .u32 130 Z := Blk.newAt (by simp) .u32 130 Z
  have hX : Below W.heap.size W (((W.alloc (Obj.cells (List.map (Value.int IntKind.u32) A).toArray 130)).alloc (Obj.cells (List.map (Value.int IntKind.u32) B).toArray 164)).alloc (Obj.cells (List.map (Value.int IntKind.u32) Z).toArray 130)) := ((below_one W _).alloc (by simp) _).alloc (by simp; omega) _
  have BA : Hid (Blk _ W.heap.size .u32 130 A) := bA
  have BB : Hid (Blk _ (W.heap.size + 1) .u32 164 B) := bB
  have BZ : Hid (Blk _ (W.heap.size + 1 + 1) .u32 130 Z) := bZ
  have HX : Hid _ := hX
  clear bA bB bZ hX
  have z8 : (Tryz.prog.info? 130).map (·.size) = some A.length := by rw [hA]; exact size27
  have z16 : (Tryz.prog.info? 164).map (·.size) = some B.length := by rw [hB]; exact size51
  have zz : Z.length = A.length := by rw [hZl, hA]
  unfold Ag
  go_enter Tryz.func153, Tryz.ntmps153
  go_wp2_with (first | (refine wpList_load_blk rfl 130 _ rfl W.heap.size A rfl BA.out Tryz.underlying130 z8 ?_) | (refine wpList_store_but rfl 130 _ _ rfl (W.heap.size + 1 + 1 + 1) A rfl rfl (Blk.newAt (by simp) .u32 130 Z) z8 zz ?_; intro w1 bs hw1 hs1; have bB := hw1.blk (BB.out.alloc _) (by omega)) | (refine wpList_load_blk rfl 164 _ rfl (W.heap.size + 1) B rfl bB Tryz.underlying164 z16 ?_) | (go_at_call 175; refine (SC.out _).mono ?_; rintro en w2 ⟨rfl, hb2⟩))
  have hs0 : w1.heap.size = W.heap.size + 4 := by rw [hs1]; simp
  have bA := (hw1.blk (BA.out.alloc _) (by omega)).below hb2 (by omega)
  have bZ := (hw1.blk (BZ.out.alloc _) (by omega)).below hb2 (by omega)
  have bS := bs.below hb2 (by omega)
  have hb3 := ((HX.out.alloc (by simp; omega) _).trans (hw1.below (B := W.heap.size) (by omega) (by simp; omega))).trans (hb2.mono (by omega))
  clear hw1 hs1 BA BB BZ HX bs bB hb2
  go_loopw [6, 7, 12] (fun _ _ i wr => ∃ k : Nat, k ≤ 64 ∧ i = .int .i64 (k : Int) ∧ Blk wr W.heap.size .u32 130 A ∧ Blk wr (W.heap.size + 1 + 1) .u32 130 Z ∧ Blk wr (W.heap.size + 1 + 1 + 1) .u32 130 (S.rounds A wl k) ∧ Below W.heap.size W wr) (fun _ _ i _ => 64 - (intOf i).toNat)
  case atStart => exact ⟨0, by decide, rfl, bA, bZ, bS, hb3⟩
  case round =>
    clear bA bZ bS hb3
    obtain ⟨k, hk, rfl, bA, bZ, bS, hb⟩ := hrel
    by_cases hlt : k < 64
    · have hl := rounds_length A wl hA k
      have hc := (hT.below hb h2).cell k hlt
      have hix := index_ag Tryz.underlying196 Tryz.underlying22 size26 wl k hwll hlt
      have HR : Hid (S.round (S.rounds A wl k) ((S.K.getD k 0 + wl.getD k 0) % 4294967296) = S.rounds A wl (k + 1)) := rfl
      generalize S.rounds A wl k = L at *
      generalize S.K.getD k 0 = x at *
      generalize wl.getD k 0 = y at *
      have z27 := Tryz.sizeOf130
      obtain ⟨N, hN⟩ : ∃ N : Nat, N = 8 := ⟨_, rfl⟩
      have hlN : L.length = N := by rw [hN]; exact hl
      have hMN : (S.rounds A wl (k + 1)).length = N := by rw [hN]; exact rounds_length A wl hA (k + 1)
      rw [← hN] at z27
      have hld : (loadCellsFrom ⟨W.heap.size + 1 + 1 + 1, 0, none⟩ 0 N #[]).run Tryz.prog wr.drew = .ok (L.map (Value.int .u32)).toArray wr.drew := cells_blk (e := 130) bS.drew N hlN
      have a27 := Tryz.isAgg130
      have HM : Hid (∀ w, Calls Tryz.prog 176 #[Ag L, .int .u32 ((x + y) % 4294967296)] w fun en w' => en = .returned (Ag (S.rounds A wl (k + 1))) ∧ Below w.heap.size w w') := fun w => by
        rw [← HR.out]; exact round_any w L _ hl
      clear HR
      generalize hE : S.rounds A wl (k + 1) = M at *
      have HE : Hid (S.rounds A wl (k + 1) = M) := hE
      clear hE
      have RD : Hid (Calls Tryz.prog 176 #[.agg (L.map (Value.int .u32)).toArray, .int .u32 ((x + y) % 4294967296)] wr.drew fun en w' => en = .returned (.agg (M.map (Value.int .u32)).toArray) ∧ Below wr.heap.size wr w' ∧ (storeCells ⟨W.heap.size + 1 + 1 + 1, 0, none⟩ (M.map (Value.int .u32)) 0).run Tryz.prog w' = .ok () (w'.setRow (W.heap.size + 1 + 1 + 1) (M.map (Value.int .u32)).toArray)) := by
        refine (HM.out wr.drew).mono ?_
        rintro en w' ⟨rfl, hb'⟩
        have hb'' : Below wr.heap.size wr w' := Below.trans (Below.drew (Below.refl _ _)) hb'
        exact ⟨rfl, hb'', storeCells_blk (e := 130) (bS.below hb'' bS.lt) (by rw [hlN, hMN])⟩
      have HX : Hid (∀ w', Below wr.heap.size wr w' → Blk (w'.setRow (W.heap.size + 1 + 1 + 1) (M.map (Value.int .u32)).toArray) W.heap.size .u32 130 A ∧ Blk (w'.setRow (W.heap.size + 1 + 1 + 1) (M.map (Value.int .u32)).toArray) (W.heap.size + 1 + 1) .u32 130 Z ∧ Blk (w'.setRow (W.heap.size + 1 + 1 + 1) (M.map (Value.int .u32)).toArray) (W.heap.size + 1 + 1 + 1) .u32 130 M ∧ Below W.heap.size W (w'.setRow (W.heap.size + 1 + 1 + 1) (M.map (Value.int .u32)).toArray)) := fun w' hb' =>
        ⟨(bA.below hb' bA.lt).setRow_other _ (by omega), (bZ.below hb' bZ.lt).setRow_other _ (by omega), (bS.below hb' bS.lt).setRow _, below_setRow (hb.trans (hb'.mono hb.size)) (by omega) _⟩
      clear bA bZ bS hb HM hN hl hlN
      go_wp2
      go_region_with (first | (go_at_call 176; refine RD.out.mono ?_; rintro en w' ⟨rfl, hb', hst⟩))
      all_goals
        have HY : Hid _ := HX.out _ hb'
        clear hb' hst
        go_wp2
        go_roundw
        case rel => exact ⟨k + 1, by omega, by go_num, by rw [HE.out]; exact HY.out⟩
        case measure => simp [intOf]; omega
    · obtain rfl : k = 64 := by omega
      go_wp2
      have hl := rounds_length A wl hA 64
      have HF' : Hid _ := HF.out
      clear HF
      generalize S.rounds A wl 64 = L at *
      rw [← plus_zero L A hl] at bS
      go_loopw [8, 24] (fun _ i wr => ∃ k : Nat, k ≤ 8 ∧ i = .int .i64 (k : Int) ∧ Blk wr W.heap.size .u32 130 A ∧ Blk wr (W.heap.size + 1 + 1) .u32 130 Z ∧ Blk wr (W.heap.size + 1 + 1 + 1) .u32 130 (S.plus L A k) ∧ Below W.heap.size W wr) (fun _ i _ => 8 - (intOf i).toNat)
      case atStart => exact ⟨0, by decide, rfl, bA, bZ, bS, hb⟩
      case round =>
        clear bA bZ bS hb
        obtain ⟨k, hk, rfl, bA, bZ, bS, hb⟩ := hrel
        by_cases hlt : k < 8
        · have c1 := bA.cell k (by omega)
          have c2 := bS.cell k (by rw [plus_length]; exact hlt)
          have f2 := bS.free k
          rw [plus_getD L A k hlt] at c2
          have HP : Hid (∀ u, u = _ → _) := plus_set L A k
          have HX : Hid (∀ u, u = (L.getD k 0 + A.getD k 0) % 4294967296 → Blk (wr.drew.setCell ⟨W.heap.size + 1 + 1 + 1, k, none⟩ (.int .u32 u)) W.heap.size .u32 130 A ∧ Blk (wr.drew.setCell ⟨W.heap.size + 1 + 1 + 1, k, none⟩ (.int .u32 u)) (W.heap.size + 1 + 1) .u32 130 Z ∧ Blk (wr.drew.setCell ⟨W.heap.size + 1 + 1 + 1, k, none⟩ (.int .u32 u)) (W.heap.size + 1 + 1 + 1) .u32 130 (S.plus L A (k + 1)) ∧ Below W.heap.size W (wr.drew.setCell ⟨W.heap.size + 1 + 1 + 1, k, none⟩ (.int .u32 u))) := fun u hu => by
            refine ⟨bA.drew.other _ (by omega), bZ.drew.other _ (by omega), ?_, hb.drew.setCell (show W.heap.size ≤ W.heap.size + 1 + 1 + 1 by omega) _⟩
            have := bS.drew.set k u
            rwa [plus_set L A k u hu] at this
          clear bA bZ bS hb HP
          generalize L.getD k 0 = x at *
          generalize A.getD k 0 = y at *
          go_wp2
          go_region
          go_wp2
          go_roundw
          case rel => exact ⟨k + 1, by omega, by go_num, HX.out _ rfl⟩
          case measure => simp [intOf]; omega
        · obtain rfl : k = 8 := by omega
          rw [HF'.out] at bS
          have hbl := block_length A B
          have BS : Hid (Blk wr (W.heap.size + 1 + 1 + 1) .u32 130 (S.block A B)) := bS
          have BZ : Hid (Blk wr (W.heap.size + 1 + 1) .u32 130 Z) := bZ
          have HB : Hid (Below W.heap.size W wr) := hb
          clear bA bZ bS hb
          go_wp2_with (first | (refine wpList_load_blk rfl 130 _ rfl (W.heap.size + 1 + 1 + 1) (S.block A B) rfl BS.out Tryz.underlying130 (by rw [hbl]; exact size27) ?_) | (refine wpList_store_blk rfl 130 _ _ rfl (W.heap.size + 1 + 1) (S.block A B) rfl rfl BZ.out (by rw [hbl]; exact size27) (by rw [hbl, hZl]) ?_))
          refine ret_cell rfl rfl (W.heap.size + 1 + 1) (S.block A B) rfl (BZ.out.setRow _) Tryz.underlying130 (by rw [hbl]; exact size27) ⟨rfl, ?_⟩
          exact below_setRow HB.out (by omega) _
end Go.Proofs.YtildhjiddidghaaGreatDoor.H
namespace Go.Proofs.YtildhjiddidghaaGreatDoor.H
open Go.RowKit

namespace S
def run (A xs : List Int) : Nat → List Int
  | 0 => A
  | m + 1 => block (run A xs m) ((xs.drop (16 * m)).take 16)
end S
theorem run_length (A xs : List Int) (hA : A.length = 8) (m : Nat) : (S.run A xs m).length = 8 := by
  cases m with
  | zero => exact hA
  | succ m => exact block_length _ _
theorem ret_cell2 {P : Program} {fn : Func} {p q : Tmp} {ty e t : TypeId} {n : Nat} {a : Act} {w : World} {post : Ending → World → Prop} (hr : fn.results = #[.cell p ty, .tmp q]) (hd : a.defers = []) (g : Nat) (L : List Int)
    (hp : a.tmps.getD p undef = .pointer (some ⟨g, 0, none⟩)) (hb : Blk w g .u32 e L) (hu : P.underlying ty = some (.array n t)) (hi : (P.info? ty).map (·.size) = some L.length) (h : post (.returned (.tuple #[Ag L, a.tmps.getD q undef])) w) :
    bodyPost P fn post .ret a w := by
  refine bodyPost_ret (v := .tuple #[Ag L, a.tmps.getD q undef]) ?_ hd h
  have hp' : a.tmps[p]?.getD undef = .pointer (some ⟨g, 0, none⟩) := by simpa using hp
  have := run_loadVar_row (P := P) w g e ty _ (0, 0) _ hb hu rfl (by rw [hi]; simp)
  simp [results, hr, hp', asAddr, this, Ag]

def AtB (W : World) (k : IntKind) (bb lo : Nat) (ao : Option Addr) (xs : List Int) : Prop := xs = [] ∨ ∃ off, ao = some ⟨bb, off, none⟩ ∧ lo ≤ off ∧ bb < W.heap.size ∧ Row W k bb off xs
theorem AtB.at {W : World} {k : IntKind} {bb lo : Nat} {ao : Option Addr} {xs : List Int} (h : AtB W k bb lo ao xs) : At W k ao xs := by
  rcases h with h | ⟨off, h1, _, h2, h3⟩
  · exact .inl h
  · exact .inr ⟨bb, off, h1, h2, h3⟩
theorem AtB.below {W w : World} {k : IntKind} {bb lo : Nat} {ao : Option Addr} {xs : List Int} (h : AtB W k bb lo ao xs) (hb : Below W.heap.size W w) : AtB w k bb lo ao xs := by
  rcases h with h | ⟨off, h1, hlo, h2, h3⟩
  · exact .inl h
  · exact .inr ⟨off, h1, hlo, by have := hb.size; omega, h3.below hb h2⟩
theorem AtB.but {W w : World} {g : Nat} {k : IntKind} {bb lo : Nat} {ao : Option Addr} {xs : List Int} (h : AtB W k bb lo ao xs) (hb : But g W w) (hg : bb ≠ g) : AtB w k bb lo ao xs := by
  rcases h with h | ⟨off, h1, hlo, h2, h3⟩
  · exact .inl h
  · exact .inr ⟨off, h1, hlo, by have := hb.size; omega, hb.row h3 h2 hg⟩
theorem cells_row {P : Program} {w : World} {b off : Nat} {L : List Int} (h : Row w .u32 b off L) (n : Nat) (hn : L.length = n) : (loadCellsFrom ⟨b, off, none⟩ 0 n #[]).run P w = .ok (L.map (Value.int .u32)).toArray w := by
  subst hn
  have := run_loadCells_list (P := P) w ⟨b, off, none⟩ (L.map (Value.int .u32)) (fun j v hv => by rw [Addr.add_mid]; exact h.range j v hv)
  simpa [loadCells] using this
attribute [-simp] Tryz.isAgg130 Tryz.sizeOf130 Tryz.zeroValue130 Tryz.isAgg164 Tryz.sizeOf164
set_option maxRecDepth 20000 in
set_option maxHeartbeats 2000000 in
theorem blocks_atb (W : World) (hT : Tab W) (h2 : 2 < W.heap.size) (A xs : List Int) (hA : A.length = 8) (ao : Option Addr) (n cap : Nat) (hx : xs.length = n) (hc : n ≤ cap) (bb lo : Nat) (h1 : AtB W .u32 bb lo ao xs) (hn : n ≤ 140737488351232) :
    Calls Tryz.prog 116 #[Ag A, .slice ao n cap] W fun en W' => ∃ ao' cap', en = .returned (.tuple #[Ag (S.run A xs (n / 16)), .slice ao' (n % 16) cap']) ∧ n % 16 ≤ cap' ∧ AtB W .u32 bb lo ao' (xs.drop (16 * (n / 16))) ∧ Below W.heap.size W W' := by
  obtain ⟨Z, hZ⟩ : ∃ Z : List Int, Z = List.replicate 8 0 := ⟨_, rfl⟩
  have hZl : Z.length = 8 := by rw [hZ]; simp
  have hz : ∀ w, (zeroValue 130).run Tryz.prog w = .ok (.agg (Z.map (Value.int .u32)).toArray) w := fun w => by rw [Tryz.zeroValue130, hZ]; rfl
  clear hZ
  have bA : Blk ((W.alloc (Obj.cells (List.map (Value.int IntKind.u32) A).toArray 130)).alloc (Obj.cells (List.map (Value.int IntKind.u32) Z).toArray 130)) W.heap.size .u32 130 A := (Blk.new W .u32 130 A).alloc _
  have bZ : Blk ((W.alloc (Obj.cells (List.map (Value.int IntKind.u32) A).toArray 130)).alloc (Obj.cells (List.map (Value.int IntKind.u32) Z).toArray 130)) (W.heap.size + 1) .u32 130 Z := Blk.newAt (by simp) .u32 130 Z
  have hX : Below W.heap.size W ((W.alloc (Obj.cells (List.map (Value.int IntKind.u32) A).toArray 130)).alloc (Obj.cells (List.map (Value.int IntKind.u32) Z).toArray 130)) := (below_one W _).alloc (by simp) _
  unfold Ag
  go_enter Tryz.func116, Tryz.ntmps116
  go_wp2
  go_loopw [1] (fun v wr => ∃ (m : Nat) (ao' : Option Addr) (cap' : Nat), 16 * m ≤ n ∧ v = .slice ao' (n - 16 * m) cap' ∧ n - 16 * m ≤ cap' ∧ AtB W .u32 bb lo ao' (xs.drop (16 * m)) ∧ Blk wr W.heap.size .u32 130 (S.run A xs m) ∧ Blk wr (W.heap.size + 1) .u32 130 Z ∧ Below W.heap.size W wr) (fun v _ => match v with | .slice _ k _ => k | _ => 0)
  case atStart => exact ⟨0, ao, cap, by omega, rfl, by omega, h1, bA, bZ, hX⟩
  case round =>
    clear bA bZ hX h1 hc
    obtain ⟨m, ao', cap', hm, rfl, hc, h1, bA, bZ, hb⟩ := hrel
    have hl := run_length A xs hA m
    have hdl : (xs.drop (16 * m)).length = n - 16 * m := by simp [hx]
    by_cases hlt : 16 ≤ n - 16 * m
    · rcases h1 with h1 | ⟨off, rfl, hlo, hbl, h1⟩
      · rw [h1] at hdl; simp at hdl; omega
      · obtain ⟨t, ht⟩ : ∃ t, t = n - 16 * m := ⟨_, rfl⟩
        rw [← ht] at hlt hc hdl ⊢
        have i1 : (16 : Int) ≤ (t : Int) := by omega
        have i2 : (t : Int) ≤ 140737488351232 := by omega
        have i3 : (t : Int) ≤ (cap' : Int) := by omega
        have i4 : (16 : Int) ≤ (cap' : Int) := by omega
        obtain ⟨B, hB⟩ : ∃ B, B = (xs.drop (16 * m)).take 16 := ⟨_, rfl⟩
        have hBl : B.length = 16 := by rw [hB, List.length_take, hdl]; omega
        have rB : Row wr .u32 bb off B := by rw [hB]; exact (h1.take 16).below hb hbl
        have hRN : S.run A xs (m + 1) = S.block (S.run A xs m) B := by rw [hB]; rfl
        clear hB
        generalize S.run A xs m = L at *
        obtain ⟨M, hM⟩ : ∃ M, M = S.block L B := ⟨_, rfl⟩
        have hMl : M.length = 8 := by rw [hM]; exact block_length _ _
        obtain ⟨N, hN⟩ : ∃ N : Nat, N = 8 := ⟨_, rfl⟩
        obtain ⟨N', hN'⟩ : ∃ N : Nat, N = 16 := ⟨_, rfl⟩
        have a27 := Tryz.isAgg130
        have z27 := Tryz.sizeOf130
        have a51 := Tryz.isAgg164
        have z51 := Tryz.sizeOf164
        rw [← hN] at z27 hl hMl
        rw [← hN'] at z51 hBl
        have ld1 : (loadCellsFrom ⟨W.heap.size, 0, none⟩ 0 N #[]).run Tryz.prog wr.drew = .ok (L.map (Value.int .u32)).toArray wr.drew := cells_blk (e := 130) bA.drew N hl
        have ld2 : (loadCellsFrom ⟨bb, off, none⟩ 0 N' #[]).run Tryz.prog wr.drew = .ok (B.map (Value.int .u32)).toArray wr.drew := cells_row (rB.drewN 1) N' hBl
        have hat : ∀ w, (Instr.arrayAt 164 (.slice (some ⟨bb, off, none⟩) 16 16)).run Tryz.prog w = .ok (.pointer (some ⟨bb, off, none⟩)) w := fun w => run_arrayAt w 164 _ 16 _ 16 16 Tryz.underlying164 (Nat.le_refl _)
        have RD : Hid (Calls Tryz.prog 153 #[.agg (L.map (Value.int .u32)).toArray, .agg (B.map (Value.int .u32)).toArray] wr.drew fun en w' => en = .returned (.agg (M.map (Value.int .u32)).toArray) ∧ Below wr.heap.size wr w' ∧ (storeCells ⟨W.heap.size, 0, none⟩ (M.map (Value.int .u32)) 0).run Tryz.prog w' = .ok () (w'.setRow W.heap.size (M.map (Value.int .u32)).toArray)) := by
          rw [hM]
          have hsz := hb.size
          refine (block_any wr.drew (hT.below hb.drew h2) (by show _ < wr.heap.size; omega) L B (by rw [hl, hN]) (by rw [hBl, hN'])).mono ?_
          rintro en w' ⟨rfl, hb'⟩
          have hb'' : Below wr.heap.size wr w' := Below.trans (Below.drew (Below.refl _ _)) hb'
          exact ⟨rfl, hb'', storeCells_blk (e := 130) (bA.below hb'' bA.lt) (by rw [← hM, hl, hMl])⟩
        have HX : Hid (∀ w', Below wr.heap.size wr w' → Blk (w'.setRow W.heap.size (M.map (Value.int .u32)).toArray) W.heap.size .u32 130 (S.run A xs (m + 1)) ∧ Blk (w'.setRow W.heap.size (M.map (Value.int .u32)).toArray) (W.heap.size + 1) .u32 130 Z ∧ Below W.heap.size W (w'.setRow W.heap.size (M.map (Value.int .u32)).toArray)) := fun w' hb' => by
          rw [hRN, ← hM]
          exact ⟨(bA.below hb' bA.lt).setRow _, (bZ.below hb' bZ.lt).setRow_other _ (by omega), below_setRow (hb.trans (hb'.mono hb.size)) (by omega) _⟩
        have HA : Hid (AtB W .u32 bb lo (if cap' = 16 then some ⟨bb, off, none⟩ else some ⟨bb, off + 16, none⟩) (xs.drop (16 * (m + 1)))) := by
          rw [show 16 * (m + 1) = 16 * m + 16 by omega, ← List.drop_drop]
          by_cases hc16 : cap' = 16
          · left
            apply List.drop_eq_nil_of_le
            rw [hdl]; omega
          · rw [if_neg hc16]
            exact .inr ⟨off + 16, rfl, by omega, hbl, h1.drop 16⟩
        have HT : Hid (t - 16 = n - 16 * (m + 1) ∧ t - 16 ≤ cap' - 16 ∧ 16 * (m + 1) ≤ n) := ⟨by omega, by omega, by omega⟩
        clear bA bZ hb hN hN' hM hl hRN rB h1 hm hlt ht hc
        go_wp2
        go_region_with (first | (go_at_call 153; refine RD.out.mono ?_; rintro en w' ⟨rfl, hb', hst⟩))
        all_goals
          have HY : Hid _ := HX.out _ hb'
          clear hb' hst
          go_wp2
          have HT1 := HT.out
          refine ⟨⟨m + 1, _, cap' - 16, by omega, by rw [← HT1.1], by omega, HA.out, HY.out⟩, ?_⟩
          show t - 16 < t
          omega
    · obtain ⟨t, ht⟩ : ∃ t, t = n - 16 * m := ⟨_, rfl⟩
      have HE : Hid (t = n % 16 ∧ n / 16 = m) := ⟨by omega, by omega⟩
      rw [← ht] at hc ⊢
      have i1 : (t : Int) < 16 := by omega
      have BA : Hid (Blk wr W.heap.size .u32 130 (S.run A xs m)) := bA
      have BZ : Hid (Blk wr (W.heap.size + 1) .u32 130 Z) := bZ
      have HB : Hid (Below W.heap.size W wr) := hb
      have HC : Hid (t ≤ cap') := hc
      clear bA bZ hb hc hlt ht hdl hm
      go_wp2_with (first | (refine wpList_load_blk rfl 130 _ rfl W.heap.size (S.run A xs m) rfl BA.out Tryz.underlying130 (by rw [hl]; exact size27) ?_) | (refine wpList_store_blk rfl 130 _ _ rfl (W.heap.size + 1) (S.run A xs m) rfl rfl BZ.out (by rw [hl]; exact size27) (by rw [hl, hZl]) ?_))
      refine ret_cell2 rfl rfl (W.heap.size + 1) (S.run A xs m) rfl (BZ.out.setRow _) Tryz.underlying130 (by rw [hl]; exact size27) ?_
      rw [HE.out.2, ← HE.out.1]
      exact ⟨_, _, rfl, HC.out, h1, below_setRow HB.out (by omega) _⟩
end Go.Proofs.YtildhjiddidghaaGreatDoor.H
