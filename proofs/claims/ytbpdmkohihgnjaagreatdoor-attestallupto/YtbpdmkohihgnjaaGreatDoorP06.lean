import Derived.Test.YtbpdmkohihgnjaaGreatDoorP05
import Derived.Laws.Cover3
namespace Go.Proofs.YtbpdmkohihgnjaaGreatDoor
open Go.RowKit

namespace S
def run (A xs : List Int) : Nat → List Int
  | 0 => A
  | m + 1 => block (run A xs m) ((xs.drop (16 * m)).take 16)
end S
theorem run_length (A xs : List Int) (hA : A.length = 8) (m : Nat) : (S.run A xs m).length = 8 := by
  cases m with
  | zero => exact hA
  | succ m => exact block_length _ _
theorem ret_cell2 {P : Program} {fn : Func} {p q : Tmp} {ty e t : TypeId} {n : Nat} {a : Act} {w : World} {post : Ending → World → Prop} (hr : fn.results = #[.cell p ty, .tmp q]) (hd : a.defers = []) (g : Nat) (L : List Int)
    (hp : a.tmps.getD p undef = .pointer (some ⟨g, 0, none⟩)) (hb : Blk w g .u32 e L) (hu : P.underlying ty = some (.array n t)) (hi : (P.info? ty).map (·.size) = some L.length) (h : post (.returned (.tuple #[Ag L, a.tmps.getD q undef])) w) :
    bodyPost P fn post .ret a w := by
  refine bodyPost_ret (v := .tuple #[Ag L, a.tmps.getD q undef]) ?_ hd h
  have hp' : a.tmps[p]?.getD undef = .pointer (some ⟨g, 0, none⟩) := by simpa using hp
  have := run_loadVar_row (P := P) w g e ty _ (0, 0) _ hb hu rfl (by rw [hi]; simp)
  simp [results, hr, hp', asAddr, this, Ag]

def AtB (W : World) (k : IntKind) (bb lo : Nat) (ao : Option Addr) (xs : List Int) : Prop := xs = [] ∨ ∃ off, ao = some ⟨bb, off, none⟩ ∧ lo ≤ off ∧ bb < W.heap.size ∧ Row W k bb off xs
theorem AtB.at {W : World} {k : IntKind} {bb lo : Nat} {ao : Option Addr} {xs : List Int} (h : AtB W k bb lo ao xs) : At W k ao xs := by
  rcases h with h | ⟨off, h1, _, h2, h3⟩
  · exact .inl h
  · exact .inr ⟨bb, off, h1, h2, h3⟩
theorem At.atb {W : World} {k : IntKind} {ao : Option Addr} {xs : List Int} (h : At W k ao xs) : ∃ bb, AtB W k bb 0 ao xs := by
  rcases h with h | ⟨b, off, h1, h2, h3⟩
  · exact ⟨0, .inl h⟩
  · exact ⟨b, .inr ⟨off, h1, Nat.zero_le _, h2, h3⟩⟩
theorem AtB.below {W w : World} {k : IntKind} {bb lo : Nat} {ao : Option Addr} {xs : List Int} (h : AtB W k bb lo ao xs) (hb : Below W.heap.size W w) : AtB w k bb lo ao xs := by
  rcases h with h | ⟨off, h1, hlo, h2, h3⟩
  · exact .inl h
  · exact .inr ⟨off, h1, hlo, by have := hb.size; omega, h3.below hb h2⟩
theorem AtB.but {W w : World} {g : Nat} {k : IntKind} {bb lo : Nat} {ao : Option Addr} {xs : List Int} (h : AtB W k bb lo ao xs) (hb : But g W w) (hg : bb ≠ g) : AtB w k bb lo ao xs := by
  rcases h with h | ⟨off, h1, hlo, h2, h3⟩
  · exact .inl h
  · exact .inr ⟨off, h1, hlo, by have := hb.size; omega, hb.row h3 h2 hg⟩
theorem cells_row {P : Program} {w : World} {b off : Nat} {L : List Int} (h : Row w .u32 b off L) (n : Nat) (hn : L.length = n) : (loadCellsFrom ⟨b, off, none⟩ 0 n #[]).run P w = .ok (L.map (Value.int .u32)).toArray w := by
  subst hn
  have := run_loadCells_list (P := P) w ⟨b, off, none⟩ (L.map (Value.int .u32)) (fun j v hv => by rw [Addr.add_mid]; exact h.range j v hv)
  simpa [loadCells] using this
attribute [-simp] Tryz.isAgg26 Tryz.sizeOf26 Tryz.zeroValue26 Tryz.isAgg197 Tryz.sizeOf197
set_option maxRecDepth 20000 in
set_option maxHeartbeats 2000000 in
theorem blocks_atb (W : World) (hT : Tab W) (h2 : 12 < W.heap.size) (A xs : List Int) (hA : A.length = 8) (ao : Option Addr) (n cap : Nat) (hx : xs.length = n) (hc : n ≤ cap) (bb lo : Nat) (h1 : AtB W .u32 bb lo ao xs) (hn : n ≤ 140737488351232) :
    Calls Tryz.prog 139 #[Ag A, .slice ao n cap] W fun en W' => ∃ ao' cap', en = .returned (.tuple #[Ag (S.run A xs (n / 16)), .slice ao' (n % 16) cap']) ∧ n % 16 ≤ cap' ∧ AtB W .u32 bb lo ao' (xs.drop (16 * (n / 16))) ∧ Below W.heap.size W W' := by
  obtain ⟨Z, hZ⟩ : ∃ Z : List Int, Z = List.replicate 8 0 := ⟨_, rfl⟩
  have hZl : Z.length = 8 := by rw [hZ]; simp
  have hz : ∀ w, (zeroValue 26).run Tryz.prog w = .ok (.agg (Z.map (Value.int .u32)).toArray) w := fun w => by rw [Tryz.zeroValue26, hZ]; rfl
  clear hZ
  have bA : Blk ((W.alloc (Obj.cells (List.map (Value.int IntKind.u32) A).toArray 26)).alloc (Obj.cells (List.map (Value.int IntKind.u32) Z).toArray 26)) W.heap.size .u32 26 A := (Blk.new W .u32 26 A).alloc _
  have bZ : Blk ((W.alloc (Obj.cells (List.map (Value.int IntKind.u32) A).toArray 26)).alloc (Obj.cells (List.map (Value.int IntKind.u32) Z).toArray 26)) (W.heap.size + 1) .u32 26 Z := Blk.newAt (by simp) .u32 26 Z
  have hX : Below W.heap.size W ((W.alloc (Obj.cells (List.map (Value.int IntKind.u32) A).toArray 26)).alloc (Obj.cells (List.map (Value.int IntKind.u32) Z).toArray 26)) := (below_one W _).alloc (by simp) _
  unfold Ag
  go_enter Tryz.func139, Tryz.ntmps139
  go_wp2
  go_loopw [1] (fun v wr => ∃ (m : Nat) (ao' : Option Addr) (cap' : Nat), 16 * m ≤ n ∧ v = .slice ao' (n - 16 * m) cap' ∧ n - 16 * m ≤ cap' ∧ AtB W .u32 bb lo ao' (xs.drop (16 * m)) ∧ Blk wr W.heap.size .u32 26 (S.run A xs m) ∧ Blk wr (W.heap.size + 1) .u32 26 Z ∧ Below W.heap.size W wr) (fun v _ => match v with | .slice _ k _ => k | _ => 0)
  case atStart => exact ⟨0, ao, cap, by omega, rfl, by omega, h1, bA, bZ, hX⟩
  case round =>
    clear bA bZ hX h1 hc
    obtain ⟨m, ao', cap', hm, rfl, hc, h1, bA, bZ, hb⟩ := hrel
    have hl := run_length A xs hA m
    have hdl : (xs.drop (16 * m)).length = n - 16 * m := by simp [hx]
    by_cases hlt : 16 ≤ n - 16 * m
    · rcases h1 with h1 | ⟨off, rfl, hlo, hbl, h1⟩
      · rw [h1] at hdl; simp at hdl; omega
      · obtain ⟨t, ht⟩ : ∃ t, t = n - 16 * m := ⟨_, rfl⟩
        rw [← ht] at hlt hc hdl ⊢
        have i1 : (16 : Int) ≤ (t : Int) := by omega
        have i2 : (t : Int) ≤ 140737488351232 := by omega
        have i3 : (t : Int) ≤ (cap' : Int) := by omega
        have i4 : (16 : Int) ≤ (cap' : Int) := by omega
        obtain ⟨B, hB⟩ : ∃ B, B = (xs.drop (16 * m)).take 16 := ⟨_, rfl⟩
        have hBl : B.length = 16 := by rw [hB, List.length_take, hdl]; omega
        have rB : Row wr .u32 bb off B := by rw [hB]; exact (h1.take 16).below hb hbl
        have hRN : S.run A xs (m + 1) = S.block (S.run A xs m) B := by rw [hB]; rfl
        clear hB
        generalize S.run A xs m = L at *
        obtain ⟨M, hM⟩ : ∃ M, M = S.block L B := ⟨_, rfl⟩
        have hMl : M.length = 8 := by rw [hM]; exact block_length _ _
        obtain ⟨N, hN⟩ : ∃ N : Nat, N = 8 := ⟨_, rfl⟩
        obtain ⟨N', hN'⟩ : ∃ N : Nat, N = 16 := ⟨_, rfl⟩
        have a27 := Tryz.isAgg26
        have z27 := Tryz.sizeOf26
        have a51 := Tryz.isAgg197
        have z51 := Tryz.sizeOf197
        rw [← hN] at z27 hl hMl
        rw [← hN'] at z51 hBl
        have ld1 : (loadCellsFrom ⟨W.heap.size, 0, none⟩ 0 N #[]).run Tryz.prog wr.drew = .ok (L.map (Value.int .u32)).toArray wr.drew := cells_blk (e := 26) bA.drew N hl
        have ld2 : (loadCellsFrom ⟨bb, off, none⟩ 0 N' #[]).run Tryz.prog wr.drew = .ok (B.map (Value.int .u32)).toArray wr.drew := cells_row (rB.drewN 1) N' hBl
        have hat : ∀ w, (Instr.arrayAt 197 (.slice (some ⟨bb, off, none⟩) 16 16)).run Tryz.prog w = .ok (.pointer (some ⟨bb, off, none⟩)) w := fun w => run_arrayAt w 197 _ 16 _ 16 16 Tryz.underlying197 (Nat.le_refl _)
        have RD : Hid (Calls Tryz.prog 148 #[.agg (L.map (Value.int .u32)).toArray, .agg (B.map (Value.int .u32)).toArray] wr.drew fun en w' => en = .returned (.agg (M.map (Value.int .u32)).toArray) ∧ Below wr.heap.size wr w' ∧ (storeCells ⟨W.heap.size, 0, none⟩ (M.map (Value.int .u32)) 0).run Tryz.prog w' = .ok () (w'.setRow W.heap.size (M.map (Value.int .u32)).toArray)) := by
          rw [hM]
          have hsz := hb.size
          refine (block_any wr.drew (hT.below hb.drew h2) (by show _ < wr.heap.size; omega) L B (by rw [hl, hN]) (by rw [hBl, hN'])).mono ?_
          rintro en w' ⟨rfl, hb'⟩
          have hb'' : Below wr.heap.size wr w' := Below.trans (Below.drew (Below.refl _ _)) hb'
          exact ⟨rfl, hb'', storeCells_blk (e := 26) (bA.below hb'' bA.lt) (by rw [← hM, hl, hMl])⟩
        have HX : Hid (∀ w', Below wr.heap.size wr w' → Blk (w'.setRow W.heap.size (M.map (Value.int .u32)).toArray) W.heap.size .u32 26 (S.run A xs (m + 1)) ∧ Blk (w'.setRow W.heap.size (M.map (Value.int .u32)).toArray) (W.heap.size + 1) .u32 26 Z ∧ Below W.heap.size W (w'.setRow W.heap.size (M.map (Value.int .u32)).toArray)) := fun w' hb' => by
          rw [hRN, ← hM]
          exact ⟨(bA.below hb' bA.lt).setRow _, (bZ.below hb' bZ.lt).setRow_other _ (by omega), below_setRow (hb.trans (hb'.mono hb.size)) (by omega) _⟩
        have HA : Hid (AtB W .u32 bb lo (if cap' = 16 then some ⟨bb, off, none⟩ else some ⟨bb, off + 16, none⟩) (xs.drop (16 * (m + 1)))) := by
          rw [show 16 * (m + 1) = 16 * m + 16 by omega, ← List.drop_drop]
          by_cases hc16 : cap' = 16
          · left
            apply List.drop_eq_nil_of_le
            rw [hdl]; omega
          · rw [if_neg hc16]
            exact .inr ⟨off + 16, rfl, by omega, hbl, h1.drop 16⟩
        have HT : Hid (t - 16 = n - 16 * (m + 1) ∧ t - 16 ≤ cap' - 16 ∧ 16 * (m + 1) ≤ n) := ⟨by omega, by omega, by omega⟩
        clear bA bZ hb hN hN' hM hl hRN rB h1 hm hlt ht hc
        go_wp2
        go_region_with (first | (go_at_call 148; refine RD.out.mono ?_; rintro en w' ⟨rfl, hb', hst⟩))
        all_goals
          have HY : Hid _ := HX.out _ hb'
          clear hb' hst
          go_wp2
          have HT1 := HT.out
          refine ⟨⟨m + 1, _, cap' - 16, by omega, by rw [← HT1.1], by omega, HA.out, HY.out⟩, ?_⟩
          show t - 16 < t
          omega
    · obtain ⟨t, ht⟩ : ∃ t, t = n - 16 * m := ⟨_, rfl⟩
      have HE : Hid (t = n % 16 ∧ n / 16 = m) := ⟨by omega, by omega⟩
      rw [← ht] at hc ⊢
      have i1 : (t : Int) < 16 := by omega
      have BA : Hid (Blk wr W.heap.size .u32 26 (S.run A xs m)) := bA
      have BZ : Hid (Blk wr (W.heap.size + 1) .u32 26 Z) := bZ
      have HB : Hid (Below W.heap.size W wr) := hb
      have HC : Hid (t ≤ cap') := hc
      clear bA bZ hb hc hlt ht hdl hm
      go_wp2_with (first | (refine wpList_load_blk rfl 26 _ rfl W.heap.size (S.run A xs m) rfl BA.out Tryz.underlying26 (by rw [hl]; exact size26) ?_) | (refine wpList_store_blk rfl 26 _ _ rfl (W.heap.size + 1) (S.run A xs m) rfl rfl BZ.out (by rw [hl]; exact size26) (by rw [hl, hZl]) ?_))
      refine ret_cell2 rfl rfl (W.heap.size + 1) (S.run A xs m) rfl (BZ.out.setRow _) Tryz.underlying26 (by rw [hl]; exact size26) ?_
      rw [HE.out.2, ← HE.out.1]
      exact ⟨_, _, rfl, HC.out, h1, below_setRow HB.out (by omega) _⟩
theorem blocks_any (W : World) (hT : Tab W) (h2 : 12 < W.heap.size) (A xs : List Int) (hA : A.length = 8) (ao : Option Addr) (n cap : Nat) (hx : xs.length = n) (hc : n ≤ cap) (h1 : At W .u32 ao xs) (hn : n ≤ 140737488351232) :
    Calls Tryz.prog 139 #[Ag A, .slice ao n cap] W fun en W' => ∃ ao' cap', en = .returned (.tuple #[Ag (S.run A xs (n / 16)), .slice ao' (n % 16) cap']) ∧ n % 16 ≤ cap' ∧ At W .u32 ao' (xs.drop (16 * (n / 16))) ∧ Below W.heap.size W W' := by
  obtain ⟨bb, hb⟩ := h1.atb
  refine (blocks_atb W hT h2 A xs hA ao n cap hx hc bb 0 hb hn).mono ?_
  rintro en w ⟨ao', cap', h1, h2, h3, h4⟩
  exact ⟨ao', cap', h1, h2, h3.at, h4⟩
end Go.Proofs.YtbpdmkohihgnjaaGreatDoor
