import Derived.Test.YtbjinmlelchmgaaGreatDoorP06
import Derived.Test.YtbjinmlelchmgaaGreatDoorP01
import Derived.Lib.AppendIntMem
import Derived.Test.YtbjinmlelchmgaaGreatDoorP16
import Derived.Shelf.Strings.Split
import Derived.Test.YtbjinmlelchmgaaGreatDoorProg
import Derived.Test.YtbjinmlelchmgaaGreatDoorP15
import Derived.Test.YtbjinmlelchmgaaGreatDoorP07
import Derived.OwnWalk
namespace Go.Proofs.YtbjinmlelchmgaaGreatDoor
open Go.RowKit

theorem PowTab.on {W w : World} (h : PowTab W) (hb : Below W.heap.size W w) : PowTab w := Lib.tabBelow_of_tabIs h w hb
theorem numbers_any (w : World) : Calls Tryz.prog 28 #[] w fun e w' => e = .returned (.bool true) ∧ w = w' := by
  go_enter Tryz.func28, Tryz.ntmps28
  go_wp2
  go_ret
  exact ⟨rfl, rfl⟩
theorem rd_head : T.rd [97, 32, 34, 98, 34] 0 = .inr [⟨[97], false, 1⟩, ⟨[98], true, 3⟩] := by
  rw [T.rd_plain _ _ (by decide) (by decide) (by decide)]
  rw [show T.plainN [97, 32, 34, 98, 34] = 1 from by decide]
  simp only [List.drop_succ_cons, List.drop_zero]
  rw [T.rd_gap _ _ (by decide)]
  rw [T.rd_quoted (c := 34) [98, 34] [98] _ 2 (by decide) (by decide) (by rw [T.unq_self _ _ (by decide), T.unq_end _ _ (by decide)]; rfl) (by decide)]
  simp only [List.drop_succ_cons, List.drop_zero]
  rw [T.rd_nil]
  rfl
theorem HW.cells {W w : World} {v : Value} {ws : List T.Wd} (h : HW W w v ws) (i : Nat) (hi : i < ws.length) : ∃ g cap, v = .slice (some ⟨g, 0, none⟩) ws.length cap ∧ w.cell? ⟨g, i * 3, none⟩ = some (.string ⟨ws[i].text.toArray⟩) ∧ w.cell? ⟨g, i * 3 + 1, none⟩ = some (.bool ws[i].quoted) ∧ w.cell? ⟨g, i * 3 + 2, none⟩ = some (.int .i64 (ws[i].col : Int)) := by
  rcases h.own.2 with ⟨_, h0⟩ | ⟨g, cap, cur, hv, _⟩
  · omega
  · refine ⟨g, cap, hv, ?_⟩
    have hc := h.own.cells (g := g) (by rw [hv]; rfl)
    have key : ∀ o, o < 3 → (wdsC ws)[i * 3 + o]? = (wdC ws[i])[o]? := by
      intro o ho
      have : ∀ (ws : List T.Wd) (i : Nat) (hi : i < ws.length), (wdsC ws)[i * 3 + o]? = (wdC ws[i])[o]? := by
        intro ws
        induction ws with
        | nil => intro i hi; simp at hi
        | cons w ws ih =>
          intro i hi
          rw [show wdsC (w :: ws) = wdC w ++ wdsC ws from by simp [wdsC]]
          cases i with
          | zero => rw [List.getElem?_append_left (by simp [wdC]; omega)]; simp
          | succ i =>
            rw [List.getElem?_append_right (by simp [wdC]; omega), show (wdC w).length = 3 from rfl, show (i + 1) * 3 + o - 3 = i * 3 + o from by omega, ih i (by simpa using hi)]
            simp
      exact this ws i hi
    refine ⟨?_, ?_, ?_⟩
    · have := hc (i * 3 + 0) _ (by rw [key 0 (by omega)]; rfl)
      rw [Addr.add_mid] at this
      simpa using this
    · have := hc (i * 3 + 1) _ (by rw [key 1 (by omega)]; rfl)
      rw [Addr.add_mid] at this
      simpa using this
    · have := hc (i * 3 + 2) _ (by rw [key 2 (by omega)]; rfl)
      rw [Addr.add_mid] at this
      simpa using this
set_option maxRecDepth 20000 in
set_option maxHeartbeats 1000000 in
theorem head_any (W : World) (htab : PowTab W) : Calls Tryz.prog 10 #[] W fun e w' => e = .returned (.bool true) ∧ Below W.heap.size W w' := by
  have HW : Hid (Calls Tryz.prog 13 #[.string ⟨#[97, 32, 34, 98, 34]⟩] W fun e W' => ∃ g cap, e = .returned (.tuple #[.slice (some ⟨g, 0, none⟩) 2 cap, .int .i64 0, .int .i64 0]) ∧ Below W.heap.size W W' ∧ W'.cell? ⟨g, 3, none⟩ = some (.string ⟨#[98]⟩) ∧ W'.cell? ⟨g, 4, none⟩ = some (.bool true) ∧ W'.cell? ⟨g, 5, none⟩ = some (.int .i64 3)) := hid (by
    refine (words_any W ⟨#[97, 32, 34, 98, 34]⟩ (by decide)).mono ?_
    intro e W' h
    rw [show (⟨#[97, 32, 34, 98, 34]⟩ : ByteArray).data.toList = [97, 32, 34, 98, 34] from rfl, rd_head] at h
    obtain ⟨v, rfl, h⟩ := h
    obtain ⟨g, cap, rfl, c0, c1, c2⟩ := h.cells 1 (by decide)
    exact ⟨g, cap, rfl, h.below, c0, c1, c2⟩)
  have HT : Hid (∀ w, PowTab w → Calls Tryz.prog 29 #[.int .u32 10] w fun e w' => e = .returned (.string ⟨#[49, 48]⟩) ∧ Below w.heap.size w w') := hid (fun w h => by
    refine (tens_text 10 (by decide) w h).mono ?_
    rintro e w' ⟨rfl, hb⟩
    refine ⟨?_, hb⟩
    rw [show Lib.decDigits 10 = [49, 48] from by rw [Lib.decDigits_two (by decide) (by decide)]; rfl])
  have HP : Hid (PowTab W) := htab
  clear htab
  go_enter Tryz.func10, Tryz.ntmps10
  go_wp2_with fail
  refine HW.out.mono ?_
  rintro e w1 ⟨g, cap, rfl, hb, c0, c1, c2⟩
  go_wp2_with fail
  refine (numbers_any _).mono ?_
  rintro e w2 ⟨rfl, rfl⟩
  go_wp2_with fail
  refine (HT.out _ (HP.out.on hb)).mono ?_
  rintro e w2 ⟨rfl, hb2⟩
  go_wp2_with fail
  go_ret
  exact ⟨rfl, hb.trans (hb2.mono hb.size)⟩
end Go.Proofs.YtbjinmlelchmgaaGreatDoor
namespace Go.Proofs.YtbjinmlelchmgaaGreatDoor
open Go.RowKit
def PieceAt (w : World) (b o : Nat) : Prop := ∃ (k p u i : Int) (s : ByteArray) (ab ar : Option Addr) (nb cb nr cr : Nat),
  (w.cell? ⟨b, o, none⟩ = some (.int .i64 k) ∧ w.cell? ⟨b, o + 1, none⟩ = some (.string s) ∧ w.cell? ⟨b, o + 2, none⟩ = some (.int .i64 p) ∧ w.cell? ⟨b, o + 3, none⟩ = some (.slice ab nb cb) ∧ w.cell? ⟨b, o + 4, none⟩ = some (.int .u32 u) ∧ w.cell? ⟨b, o + 5, none⟩ = some (.int .i32 i) ∧ w.cell? ⟨b, o + 6, none⟩ = some (.slice ar nr cr)) ∧
  ∀ x, Below w.heap.size w x → Calls Tryz.prog 11 #[.agg #[.int .i64 k, .string s, .int .i64 p, .slice ab nb cb, .int .u32 u, .int .i32 i, .slice ar nr cr]] x fun e y => e = .returned (.bool true) ∧ Below x.heap.size x y
end Go.Proofs.YtbjinmlelchmgaaGreatDoor
namespace Go.Proofs.YtbjinmlelchmgaaGreatDoor
open Go.RowKit
end Go.Proofs.YtbjinmlelchmgaaGreatDoor
namespace Go.Proofs
open Go.Shelf
def Tryz.lays146_ren : Go.Shelf.Ren := ⟨fun | 146 => 43 | 221 => 69 | 268 => 84 | 138 => 85 | 143 => 86 | 195 => 99 | 197 => 100 | 218 => 101 | 219 => 102 | 260 => 115 | 217 => 116 | 225 => 117 | 224 => 118 | 267 => 119 | 266 => 126 | 314 => 127 | n => n, fun | 9 => 9 | 31 => 24 | 3 => 3 | 4 => 4 | 0 => 0 | 105 => 68 | 21 => 21 | 5 => 5 | 46 => 84 | 119 => 155 | 139 => 158 | 138 => 157 | 146 => 142 | 51 => 31 | n => n, fun | 1 => 1 | 3 => 2 | 4 => 3 | n => n⟩
theorem Tryz.lays146 : Go.Proofs.Lays.n146 Tryz.prog Tryz.lays146_ren := {
  mixed := by kernel_rfl
  f138 := Tryz.func85.trans (congrArg some (by kernel_rfl))
  f143 := Tryz.func86.trans (congrArg some (by kernel_rfl))
  f146 := Tryz.func43.trans (congrArg some (by kernel_rfl))
  f195 := Tryz.func99.trans (congrArg some (by kernel_rfl))
  f197 := Tryz.func100.trans (congrArg some (by kernel_rfl))
  f217 := Tryz.func116.trans (congrArg some (by kernel_rfl))
  f218 := Tryz.func101.trans (congrArg some (by kernel_rfl))
  f219 := Tryz.func102.trans (congrArg some (by kernel_rfl))
  f221 := Tryz.func69.trans (congrArg some (by kernel_rfl))
  f224 := Tryz.func118.trans (congrArg some (by kernel_rfl))
  f225 := Tryz.func117.trans (congrArg some (by kernel_rfl))
  f260 := Tryz.func115.trans (congrArg some (by kernel_rfl))
  f266 := Tryz.func126.trans (congrArg some (by kernel_rfl))
  f267 := Tryz.func119.trans (congrArg some (by kernel_rfl))
  f268 := Tryz.func84.trans (congrArg some (by kernel_rfl))
  f314 := Tryz.func127.trans (congrArg some (by kernel_rfl))
  t0 := Tryz.underlying0
  a0 := Tryz.isAgg0
  z0 := Tryz.sizeOf0
  v0 := Tryz.zeroValue0
  t3 := Tryz.underlying3
  a3 := Tryz.isAgg3
  z3 := Tryz.sizeOf3
  v3 := Tryz.zeroValue3
  t4 := Tryz.underlying4
  a4 := Tryz.isAgg4
  z4 := Tryz.sizeOf4
  v4 := Tryz.zeroValue4
  t5 := Tryz.underlying5
  a5 := Tryz.isAgg5
  z5 := Tryz.sizeOf5
  v5 := Tryz.zeroValue5
  t9 := Tryz.underlying9
  a9 := Tryz.isAgg9
  z9 := Tryz.sizeOf9
  v9 := Tryz.zeroValue9
  t21 := Tryz.underlying21
  a21 := Tryz.isAgg21
  z21 := Tryz.sizeOf21
  v21 := Tryz.zeroValue21
  t31 := Tryz.underlying24
  a31 := Tryz.isAgg24
  z31 := Tryz.sizeOf24
  v31 := Tryz.zeroValue24
  t46 := Tryz.underlying84
  a46 := Tryz.isAgg84
  z46 := Tryz.sizeOf84
  v46 := Tryz.zeroValue84
  t51 := Tryz.underlying31
  a51 := Tryz.isAgg31
  z51 := Tryz.sizeOf31
  v51 := Tryz.zeroValue31
  t105 := Tryz.underlying68
  a105 := Tryz.isAgg68
  z105 := Tryz.sizeOf68
  v105 := Tryz.zeroValue68
  t119 := Tryz.underlying155
  a119 := Tryz.isAgg155
  z119 := Tryz.sizeOf155
  t138 := Tryz.underlying157
  a138 := Tryz.isAgg157
  z138 := Tryz.sizeOf157
  v138 := Tryz.zeroValue157
  t139 := Tryz.underlying158
  a139 := Tryz.isAgg158
  z139 := Tryz.sizeOf158
  v139 := Tryz.zeroValue158
  t146 := Tryz.underlying142
  a146 := Tryz.isAgg142
  z146 := Tryz.sizeOf142
  v146 := Tryz.zeroValue142
  g1 := by kernel_rfl
  g3 := by kernel_rfl
  g4 := by kernel_rfl }
open Go.RowKit Go.Lib in
theorem Tryz.strings_Split (s sep : ByteArray) (m : Int) (w : World) (hs : s.size < 4294967281) (hm : w.cell? ⟨1, 0, none⟩ = some (.int .i64 m)) (h1 : 1 ≤ sep.size) :
    Calls Tryz.prog 43 #[.string s, .string sep] w fun e w' =>
      e = .returned (.slice (some ⟨w.heap.size, 0, none⟩) (Lib.countB s sep + 1) (Lib.countB s sep + 1)) ∧ w' = w.alloc (.cells ((Lib.splitB sep 0 (Lib.countB s sep) s).map Value.string).toArray 9) := Any.strings_Split Tryz.lays146 (by kernel_rfl) s sep m w hs hm h1
end Go.Proofs
namespace Go.Proofs.YtbjinmlelchmgaaGreatDoor
open Go.RowKit
theorem split_cells (s : ByteArray) : (Lib.splitB ⟨#[10]⟩ 0 (Lib.countB s ⟨#[10]⟩) s).map Value.string = strsV (T.cutL s.data.toList) := by
  have h := Lib.splitB_data ⟨#[10]⟩ 0 (Lib.countB s ⟨#[10]⟩) s
  have e : Lib.countB s ⟨#[10]⟩ = Lib.count s.data.toList [10] := rfl
  rw [e] at h ⊢
  rw [show (⟨#[10]⟩ : ByteArray).data.toList = [10] from rfl, T.splitK_cut] at h
  unfold strsV
  rw [← h, List.map_map]
  rfl
theorem split_count (s : ByteArray) : Lib.countB s ⟨#[10]⟩ + 1 = (T.cutL s.data.toList).length := by
  have h := Lib.splitB_all ⟨#[10]⟩ (by decide) 0 _ s rfl
  have h2 := congrArg List.length (split_cells s)
  rw [List.length_map, strsV_length] at h2
  omega
theorem cutL_len (l : List UInt8) : (T.cutL l).length ≤ l.length + 1 := by
  induction l with
  | nil => simp [T.cutL]
  | cons c t ih =>
    simp only [T.cutL]
    split
    · simp; omega
    · split
      · rename_i h r e; rw [e] at ih; simp at ih ⊢; omega
      · simp
theorem cutL_each (l : List UInt8) : ∀ y ∈ T.cutL l, y.length ≤ l.length := by
  induction l with
  | nil => simp [T.cutL]
  | cons c t ih =>
    simp only [T.cutL]
    split
    · intro y hy
      rcases List.mem_cons.1 hy with rfl | hy
      · simp
      · have := ih y hy; simp; omega
    · split
      · rename_i h r e
        rw [e] at ih
        intro y hy
        rcases List.mem_cons.1 hy with rfl | hy
        · have := ih h (by simp); simp; omega
        · have := ih y (by simp [hy]); simp; omega
      · simp
theorem HV.made (W : World) (C : Array Value) (e : TypeId) (xs : List Value) (n : Nat) (hC : C = xs.toArray) (hl : xs.length = n) (hm : n ≤ maxLen) : HV W (W.alloc (.cells C e)) e (.slice (some ⟨W.heap.size, 0, none⟩) n n) xs := by
  subst hC hl
  refine ⟨⟨by simp, .inr ⟨W.heap.size, xs.length, _, rfl, Nat.le_refl _, heap_alloc_new W _, Nat.le_refl _, hm, by simp, by simp⟩⟩, (Below.refl _ _).alloc (Nat.le_refl _) _⟩
theorem split_any (s : ByteArray) (m : Int) (w : World) (hs : s.size ≤ 65536) (hm : w.cell? ⟨1, 0, none⟩ = some (.int .i64 m)) :
    Calls Tryz.prog 43 #[.string s, .string ⟨#[10]⟩] w fun e w' => e = .returned (.slice (some ⟨w.heap.size, 0, none⟩) (T.cutL s.data.toList).length (T.cutL s.data.toList).length) ∧ HV w w' 9 (.slice (some ⟨w.heap.size, 0, none⟩) (T.cutL s.data.toList).length (T.cutL s.data.toList).length) (strsV (T.cutL s.data.toList)) := by
  refine (Tryz.strings_Split s ⟨#[10]⟩ m w (by omega) hm (by decide)).mono ?_
  rintro e w' ⟨rfl, rfl⟩
  rw [split_count, split_cells]
  refine ⟨rfl, HV.made w _ 9 _ _ rfl (strsV_length _) ?_⟩
  have := cutL_len s.data.toList
  rw [size_list] at this
  unfold maxLen
  omega
theorem set_same (l : List (List UInt8)) (k : Nat) (h : k < l.length) : (strsV l).set k (.string ⟨l[k].toArray⟩) = strsV l := by
  apply List.ext_getElem?
  intro i
  by_cases e : k = i
  · subst e
    rw [List.getElem?_set_self (by rw [strsV_length]; exact h)]
    simp [strsV, h]
  · rw [List.getElem?_set_ne e]
def LiPost (W : World) (l : List UInt8) (e : Ending) (W' : World) : Prop :=
  ∃ g c, e = .returned (.tuple #[.slice (some ⟨g, 0, none⟩) (T.lines l).length c, .int .i64 0]) ∧ StrsAt W' (some ⟨g, 0, none⟩) (T.lines l) ∧ Below W.heap.size W W'
set_option maxRecDepth 20000 in
theorem lines_long (W : World) (s : ByteArray) (hb : 65536 < s.size) (hs : s.size ≤ 1000000000) :
    Calls Tryz.prog 12 #[.string s] W fun e W' => e = .returned (.tuple #[.slice none 0 0, .int .i64 2]) ∧ W' = W := by
  have c1 : (65536 : Int) < (s.size : Int) := by omega
  clear hb hs
  go_enter Tryz.func12, Tryz.ntmps12
  go_wp2_with fail
  go_ret2
  exact ⟨rfl, rfl⟩
end Go.Proofs.YtbjinmlelchmgaaGreatDoor
