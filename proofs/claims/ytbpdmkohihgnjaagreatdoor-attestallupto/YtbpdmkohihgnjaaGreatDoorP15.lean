import Derived.Shelf.Strings.OnBuilder
import Derived.Test.YtbpdmkohihgnjaaGreatDoorP14
import Derived.Test.YtbpdmkohihgnjaaGreatDoorP02
import Derived.Laws.Concat
namespace Go.Proofs.YtbpdmkohihgnjaaGreatDoor
def Tryz.lays156_ren : Go.Shelf.Ren := ⟨fun | 156 => 82 | 165 => 98 | 166 => 57 | 169 => 61 | 240 => 81 | 241 => 111 | 276 => 97 | 277 => 127 | n => n, fun | 0 => 0 | 3 => 3 | 4 => 4 | 9 => 9 | 20 => 20 | 31 => 52 | 37 => 124 | 70 => 131 | 72 => 133 | 75 => 47 | 76 => 134 | 80 => 139 | 127 => 170 | 164 => 108 | 5 => 5 | n => n, fun | n => n⟩
theorem Tryz.lays156 : Go.Proofs.Lays.n156 Tryz.prog Tryz.lays156_ren := {
  mixed := by kernel_rfl
  f156 := Tryz.func82.trans (congrArg some (by kernel_rfl))
  f165 := Tryz.func98.trans (congrArg some (by kernel_rfl))
  f166 := Tryz.func57.trans (congrArg some (by kernel_rfl))
  f169 := Tryz.func61.trans (congrArg some (by kernel_rfl))
  f240 := Tryz.func81.trans (congrArg some (by kernel_rfl))
  f241 := Tryz.func111.trans (congrArg some (by kernel_rfl))
  f276 := Tryz.func97.trans (congrArg some (by kernel_rfl))
  f277 := Tryz.func127.trans (congrArg some (by kernel_rfl))
  t0 := Tryz.underlying0
  a0 := Tryz.isAgg0
  z0 := Tryz.sizeOf0
  v0 := Tryz.zeroValue0
  t3 := Tryz.underlying3
  a3 := Tryz.isAgg3
  z3 := Tryz.sizeOf3
  v3 := Tryz.zeroValue3
  t4 := Tryz.underlying4
  a4 := Tryz.isAgg4
  z4 := Tryz.sizeOf4
  v4 := Tryz.zeroValue4
  t9 := Tryz.underlying9
  a9 := Tryz.isAgg9
  z9 := Tryz.sizeOf9
  v9 := Tryz.zeroValue9
  t20 := Tryz.underlying20
  a20 := Tryz.isAgg20
  z20 := Tryz.sizeOf20
  v20 := Tryz.zeroValue20
  t31 := Tryz.underlying52
  a31 := Tryz.isAgg52
  z31 := Tryz.sizeOf52
  v31 := Tryz.zeroValue52
  t37 := Tryz.underlying124
  a37 := Tryz.isAgg124
  z37 := Tryz.sizeOf124
  v37 := Tryz.zeroValue124
  t70 := Tryz.underlying131
  a70 := Tryz.isAgg131
  z70 := Tryz.sizeOf131
  v70 := Tryz.zeroValue131
  t72 := Tryz.underlying133
  a72 := Tryz.isAgg133
  z72 := Tryz.sizeOf133
  v72 := Tryz.zeroValue133
  t75 := Tryz.underlying47
  a75 := Tryz.isAgg47
  z75 := Tryz.sizeOf47
  v75 := Tryz.zeroValue47
  t76 := Tryz.underlying134
  a76 := Tryz.isAgg134
  z76 := Tryz.sizeOf134
  v76 := Tryz.zeroValue134
  t127 := Tryz.underlying170
  a127 := Tryz.isAgg170
  z127 := Tryz.sizeOf170
  v127 := Tryz.zeroValue170
  t164 := Tryz.underlying108
  a164 := Tryz.isAgg108
  z164 := Tryz.sizeOf108
  v164 := Tryz.zeroValue108 }
theorem Tryz.extra156 : Builder.Extra Tryz.prog Tryz.lays156_ren := {
  sizeBuilder := by kernel_rfl
  liesBuilder := by kernel_rfl
  t5 := Tryz.underlying5
  a5 := Tryz.isAgg5
  z5 := Tryz.sizeOf5
  v5 := Tryz.zeroValue5
  infoByte := by kernel_rfl
  cellsByte := by kernel_rfl
  sizeByte := by kernel_rfl
  neB5 := by decide }
open Go.RowKit
theorem join_any (bk o c : Nat) (xs : List ByteArray) (sep : ByteArray) (w : World)
    (hcells : ∀ (j : Nat) x, xs[j]? = some x → w.cell? ⟨bk, o + j, none⟩ = some (.string x))
    (hbk : bk < w.heap.size) (hN : xs.length ≤ 140737488355328) (hcap : xs.length ≤ c)
    (hlen : (Lib.join (xs.map (·.data.toList)) sep.data.toList).length ≤ 140737488355328) :
    Calls Tryz.prog 82 #[.slice (some ⟨bk, o, none⟩) xs.length c, .string sep] w fun e w' => e = .returned (.string ⟨(Lib.join (xs.map (·.data.toList)) sep.data.toList).toArray⟩) ∧ Below w.heap.size w w' :=
  Any.strings_Join Tryz.lays156 Tryz.extra156 bk o c xs sep w hcells hbk hN hcap hlen
end Go.Proofs.YtbpdmkohihgnjaaGreatDoor
namespace Go.Proofs.YtbpdmkohihgnjaaGreatDoor
open Go.RowKit
set_option maxHeartbeats 4000000
set_option maxRecDepth 100000
def lineB (xs : List ByteArray) : ByteArray := (⟨(Lib.join (xs.map (·.data.toList)) [32]).toArray⟩ : ByteArray) ++ (⟨#[10]⟩ : ByteArray)
theorem layLine_any (bk c n : Nat) (xs : List ByteArray) (w : World) (hn : xs.length = n)
    (hcells : ∀ (j : Nat) x, xs[j]? = some x → w.cell? ⟨bk, j, none⟩ = some (.string x))
    (hbk : bk < w.heap.size) (hN : xs.length ≤ 1000) (hcap : xs.length ≤ c)
    (hlen : (Lib.join (xs.map (·.data.toList)) [32]).length ≤ 1000000) :
    Calls Tryz.prog 58 #[.slice (some ⟨bk, 0, none⟩) n c] w fun e w' => e = .returned (.string (lineB xs)) ∧ Below w.heap.size w w' := by
  subst hn
  have HJ := hid (join_any bk 0 c xs ⟨#[32]⟩ w (fun j x hx => by rw [Nat.zero_add]; exact hcells j x hx) hbk (by omega) hcap (by show (Lib.join (xs.map (·.data.toList)) [32]).length ≤ _; omega))
  have hsz : (⟨(Lib.join (xs.map (·.data.toList)) [32]).toArray⟩ : ByteArray).size ≤ 1000000 := by simpa [ByteArray.size] using hlen
  have HL : Hid (lineB xs = (⟨(Lib.join (xs.map (·.data.toList)) [32]).toArray⟩ : ByteArray) ++ (⟨#[10]⟩ : ByteArray)) := hid rfl
  (try simp only at HJ)
  generalize (⟨(Lib.join (xs.map (·.data.toList)) [32]).toArray⟩ : ByteArray) = J at *
  clear hcells hlen hN hcap
  go_enter Tryz.func58, Tryz.ntmps58
  go_wp2_with (first | (go_at_call 82; refine HJ.out.mono ?_; rintro e w1 ⟨rfl, hb⟩; have HB := hid hb; clear hb))
  go_ret
  exact ⟨by rw [HL.out]; rfl, HB.out⟩
def ok8 (s : ByteArray) : Prop := s.size = 64 ∧ ∀ i, i < 8 → V.pv (V.strL s) (8 * i) 8 ≠ none
instance (s : ByteArray) : Decidable (ok8 s) := by unfold ok8; exact inferInstance
def w8 (s : ByteArray) : List Int := if ok8 s then V.hexWs (V.strL s) 8 else List.replicate 8 0
theorem w8_length (s : ByteArray) : (w8 s).length = 8 := by unfold w8; split <;> simp [V.hexWs]
attribute [-simp] Tryz.isAgg26 Tryz.sizeOf26 Tryz.zeroValue26
theorem eightOf_any (W : World) (s : ByteArray) (hs : s.size ≤ 140737488355328) :
    Calls Tryz.prog 74 #[.string s] W fun e W' => e = .returned (.tuple #[Ag (w8 s), .bool (decide (ok8 s))]) ∧ Below W.heap.size W W' := by
  obtain ⟨Z, hZ⟩ : ∃ Z : List Int, Z = List.replicate 8 0 := ⟨_, rfl⟩
  have hZl : Z.length = 8 := by rw [hZ]; simp
  have hz : ∀ w, (zeroValue 26).run Tryz.prog w = .ok (.agg (Z.map (Value.int .u32)).toArray) w := fun w => by rw [Tryz.zeroValue26, hZ]; rfl
  have hbu : ∀ w, (Instr.build 26 #[]).run Tryz.prog w = .ok (.agg (Z.map (Value.int .u32)).toArray) w := fun w => by rw [hZ]; kernel_rfl
  obtain ⟨X, hX⟩ : ∃ X, X = W.alloc (Obj.cells (List.map (Value.int IntKind.u32) Z).toArray 26) := ⟨_, rfl⟩
  have HB : Hid (Below W.heap.size W X) := hid (by rw [hX]; exact below_one _ _)
  have bz : Hid (Blk X W.heap.size .u32 26 Z) := hid (by rw [hX]; exact Blk.new W .u32 26 Z)
  by_cases h64 : s.size = 64
  · have HP := hid (V.parseAll_any X s 8 h64 (by decide))
    clear hs
    by_cases hok : ∀ i, i < 8 → V.pv (V.strL s) (8 * i) 8 ≠ none
    · have h8 : ok8 s := ⟨h64, hok⟩
      have HR := hid (show Ag (w8 s) = Ag (V.hexWs (V.strL s) 8) by unfold w8; rw [if_pos h8])
      have HD := hid (show decide (ok8 s) = true from decide_eq_true h8)
      have hMl : (V.hexWs (V.strL s) 8).length = 8 := V.hexWs_length _ _
      have HP' : Hid (Calls Tryz.prog 93 #[.string s] X fun e W' => e = .returned (.tuple #[.slice (some ⟨X.heap.size, 0, none⟩) 8 8, .int .i64 0]) ∧ (Blk X W.heap.size .u32 26 Z → Row W' .u32 X.heap.size 0 (V.hexWs (V.strL s) 8)) ∧ Below X.heap.size X W') := hid (HP.out.mono (by
        rintro e w' (⟨_, rfl, ho⟩ | ⟨⟨i, hi, hn⟩, _⟩)
        · exact ⟨rfl, fun _ => ho.row, ho.below⟩
        · exact absurd hn (hok i hi)))
      generalize V.hexWs (V.strL s) 8 = M at *
      clear HP hok h64 h8 hZ hbu
      go_enter Tryz.func74, Tryz.ntmps74
      go_upto_region 1 with fail
      rw [← hX]
      clear hX
      go_upto_region 2 with (first | (go_at_call 93; refine HP'.out.mono ?_; rintro e w1 ⟨rfl, hr, hb⟩; have Y1 : Hid (Row w1 .u32 X.heap.size 0 M ∧ Below W.heap.size W w1 ∧ Blk w1 W.heap.size .u32 26 Z) := hid ⟨hr bz.out, below_on HB.out hb, bz.out.on hb⟩; clear hr hb))
      generalize X.heap.size = g1 at *
      clear HP' bz HB
      have har : ∀ w, (Instr.arrayAt 26 (.slice (some ⟨g1, 0, none⟩) 8 8)).run Tryz.prog w = .ok (.pointer (some ⟨g1, 0, none⟩)) w := fun w => run_arrayAt w 26 _ 8 _ 8 8 Tryz.underlying26 (Nat.le_refl _)
      go_wp2_with (first | (refine wpList_load_mid rfl 26 _ rfl g1 0 rfl _ _ Y1.out.1.range Tryz.underlying26 rfl (by rw [List.length_map, hMl]; exact size26) ?_) | (refine wpList_store_blk rfl 26 _ _ rfl W.heap.size M rfl rfl Y1.out.2.2 (by rw [hMl]; exact size26) (by rw [hZl, hMl]) ?_))
      refine ret_cell2 rfl rfl W.heap.size M rfl (Y1.out.2.2.setRow _) Tryz.underlying26 (by rw [hMl]; exact size26) ⟨by rw [HR.out, HD.out]; rfl, below_setRow Y1.out.2.1 (Nat.le_refl _) _⟩
    · have h8 : ¬ ok8 s := fun h => hok h.2
      have HR := hid (show Ag (w8 s) = Ag Z by unfold w8; rw [if_neg h8, hZ])
      have HD := hid (show decide (ok8 s) = false from decide_eq_false h8)
      have HP' : Hid (Calls Tryz.prog 93 #[.string s] X fun e W' => e = .returned (.tuple #[.slice none 0 0, .int .i64 10]) ∧ Below X.heap.size X W') := hid (HP.out.mono (by
        rintro e w' (⟨h, rfl, ho⟩ | ⟨_, rfl, hb⟩)
        · exact absurd h hok
        · exact ⟨rfl, hb⟩))
      clear HP hok h64 h8 hZ
      go_enter Tryz.func74, Tryz.ntmps74
      go_upto_region 1 with fail
      rw [← hX]
      clear hX
      go_wp2_with (first | (go_at_call 93; refine HP'.out.mono ?_; rintro e w1 ⟨rfl, hb⟩; have Y1 : Hid (Below W.heap.size W w1 ∧ Blk w1 W.heap.size .u32 26 Z) := hid ⟨below_on HB.out hb, bz.out.on hb⟩; clear hb) | (revert Y1; intro Y1; refine wpList_store_blk rfl 26 _ _ rfl W.heap.size Z rfl rfl Y1.out.2 (by rw [hZl]; exact size26) rfl ?_))
      refine ret_cell2 rfl rfl W.heap.size Z rfl (Y1.out.2.setRow _) Tryz.underlying26 (by rw [hZl]; exact size26) ⟨by rw [HR.out, HD.out]; rfl, below_setRow Y1.out.1 (Nat.le_refl _) _⟩
  · have h8 : ¬ ok8 s := fun h => h64 h.1
    have HR := hid (show Ag (w8 s) = Ag Z by unfold w8; rw [if_neg h8, hZ])
    have HD := hid (show decide (ok8 s) = false from decide_eq_false h8)
    obtain ⟨n, c, er, HP', hne⟩ : ∃ (ao : Nat) (n : Nat) (er : Int), Hid (Calls Tryz.prog 93 #[.string s] X fun e W' => ∃ p, e = .returned (.tuple #[.slice p n ao, .int .i64 er]) ∧ Below X.heap.size X W') ∧ (er = 0 → n ≠ 8) := by
      by_cases hl : 2097152 < s.size
      · exact ⟨0, 0, 2, hid ((V.parseAll_long X s hl (by omega)).mono (by rintro e w' ⟨rfl, rfl⟩; exact ⟨none, rfl, Below.refl _ _⟩)), fun h => by cases h⟩
      · by_cases hm : s.size % 8 = 0
        · refine ⟨if (∀ i, i < s.size / 8 → V.pv (V.strL s) (8 * i) 8 ≠ none) then s.size / 8 else 0, if (∀ i, i < s.size / 8 → V.pv (V.strL s) (8 * i) 8 ≠ none) then s.size / 8 else 0, if (∀ i, i < s.size / 8 → V.pv (V.strL s) (8 * i) 8 ≠ none) then 0 else 10, hid ((V.parseAll_any X s (s.size / 8) (by omega) (by omega)).mono ?_), fun h => ?_⟩
          · rintro e w' (⟨h, rfl, ho⟩ | ⟨⟨i, hi, hn⟩, rfl, hb⟩)
            · rw [if_pos h, if_pos h]; exact ⟨_, rfl, ho.below⟩
            · have : ¬ (∀ i, i < s.size / 8 → V.pv (V.strL s) (8 * i) 8 ≠ none) := fun h => h i hi hn
              rw [if_neg this, if_neg this]; exact ⟨none, rfl, hb⟩
          · split at h
            · rename_i hh; rw [if_pos hh]; omega
            · cases h
        · exact ⟨0, 0, 10, hid ((V.parseAll_part X s (by omega) hm).mono (by rintro e w' ⟨rfl, rfl⟩; exact ⟨none, rfl, Below.refl _ _⟩)), fun h => by cases h⟩
    clear h64 h8 hZ hs
    by_cases he : er = 0
    · subst he
      have hn8 : ((c : Int) != 8) = true := by have := hne rfl; simp; omega
      clear hne
      go_enter Tryz.func74, Tryz.ntmps74
      go_upto_region 1 with fail
      rw [← hX]
      clear hX
      go_wp2_with (first | (go_at_call 93; refine HP'.out.mono ?_; rintro e w1 ⟨p, rfl, hb⟩; have Y1 : Hid (Below W.heap.size W w1 ∧ Blk w1 W.heap.size .u32 26 Z) := hid ⟨below_on HB.out hb, bz.out.on hb⟩; clear hb) | (revert Y1; intro Y1; refine wpList_store_blk rfl 26 _ _ rfl W.heap.size Z rfl rfl Y1.out.2 (by rw [hZl]; exact size26) rfl ?_))
      refine ret_cell2 rfl rfl W.heap.size Z rfl (Y1.out.2.setRow _) Tryz.underlying26 (by rw [hZl]; exact size26) ⟨by rw [HR.out, HD.out]; rfl, below_setRow Y1.out.1 (Nat.le_refl _) _⟩
    · have he' : (er != 0) = true := by simpa using he
      clear hne he
      go_enter Tryz.func74, Tryz.ntmps74
      go_upto_region 1 with fail
      rw [← hX]
      clear hX
      go_wp2_with (first | (go_at_call 93; refine HP'.out.mono ?_; rintro e w1 ⟨p, rfl, hb⟩; have Y1 : Hid (Below W.heap.size W w1 ∧ Blk w1 W.heap.size .u32 26 Z) := hid ⟨below_on HB.out hb, bz.out.on hb⟩; clear hb) | (revert Y1; intro Y1; refine wpList_store_blk rfl 26 _ _ rfl W.heap.size Z rfl rfl Y1.out.2 (by rw [hZl]; exact size26) rfl ?_))
      refine ret_cell2 rfl rfl W.heap.size Z rfl (Y1.out.2.setRow _) Tryz.underlying26 (by rw [hZl]; exact size26) ⟨by rw [HR.out, HD.out]; rfl, below_setRow Y1.out.1 (Nat.le_refl _) _⟩
end Go.Proofs.YtbpdmkohihgnjaaGreatDoor
