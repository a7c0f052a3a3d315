import Derived.Test.YtbpdmkohihgnjaaDoorP36
import Derived.Test.YtbpdmkohihgnjaaDoorP05
import Derived.Test.YtbpdmkohihgnjaaDoorP33
import Derived.OwnWalk
namespace Go.Proofs.YtbpdmkohihgnjaaDoor.L
open Go.RowKit
theorem cell_new (w : World) (u : Value) (e : TypeId) : (w.alloc (.cells #[u] e)).cell? ⟨w.heap.size, 0, none⟩ = some u := by
  rw [World.cell?_alloc_new]; rfl

def strsV (l : List (List UInt8)) : List Value := l.map fun x => .string ⟨x.toArray⟩
theorem strsV_length (l : List (List UInt8)) : (strsV l).length = l.length := by simp [strsV]
theorem strsV_snoc (l : List (List UInt8)) (x : List UInt8) : strsV (l ++ [x]) = strsV l ++ [.string ⟨x.toArray⟩] := by simp [strsV]
theorem cut_lines (l : List UInt8) (done : List (List UInt8)) (x : List UInt8) (h : T.cutL l = done ++ [x]) : T.lines l = if x = [] then done else done ++ [x] := by
  unfold T.lines
  have e : (T.cutL l).getLast (T.cutL_ne l) = x := by
    have g : ∀ (L : List (List UInt8)) (hL : L ≠ []), L = done ++ [x] → L.getLast hL = x := by intro L hL e; subst e; simp
    exact g _ _ h
  rw [e, h]
  simp
end Go.Proofs.YtbpdmkohihgnjaaDoor.L
namespace Go.Proofs.YtbpdmkohihgnjaaDoor.L
open Go.RowKit
def StrsAt (w : World) (ao : Option Addr) (l : List (List UInt8)) : Prop := l = [] ∨ ∃ b o, ao = some ⟨b, o, none⟩ ∧ b < w.heap.size ∧ ∀ i (h : i < l.length), w.cell? ⟨b, o + i, none⟩ = some (.string ⟨l[i].toArray⟩)
theorem StrsAt.on {W w : World} {ao : Option Addr} {l : List (List UInt8)} (h : StrsAt W ao l) (hb : Below W.heap.size W w) : StrsAt w ao l := by
  rcases h with h0 | ⟨b, o, e, hlt, hc⟩
  · exact .inl h0
  · exact .inr ⟨b, o, e, Nat.lt_of_lt_of_le hlt hb.size, fun i hi => by rw [hb.cell (p := ⟨b, o + i, none⟩) hlt]; exact hc i hi⟩
theorem arr_size (l : List UInt8) : (⟨l.toArray⟩ : ByteArray).size = l.length := by simp [ByteArray.size]

end Go.Proofs.YtbpdmkohihgnjaaDoor.L
namespace Go.Proofs.YtbpdmkohihgnjaaDoor.L
open Go.RowKit
theorem split_cells (s : ByteArray) : (Lib.splitB ⟨#[10]⟩ 0 (Lib.countB s ⟨#[10]⟩) s).map Value.string = strsV (T.cutL s.data.toList) := by
  have h := Lib.splitB_data ⟨#[10]⟩ 0 (Lib.countB s ⟨#[10]⟩) s
  have e : Lib.countB s ⟨#[10]⟩ = Lib.count s.data.toList [10] := rfl
  rw [e] at h ⊢
  rw [show (⟨#[10]⟩ : ByteArray).data.toList = [10] from rfl, T.splitK_cut] at h
  unfold strsV
  rw [← h, List.map_map]
  rfl
theorem split_count (s : ByteArray) : Lib.countB s ⟨#[10]⟩ + 1 = (T.cutL s.data.toList).length := by
  have h := Lib.splitB_all ⟨#[10]⟩ (by decide) 0 _ s rfl
  have h2 := congrArg List.length (split_cells s)
  rw [List.length_map, strsV_length] at h2
  omega
theorem cutL_len (l : List UInt8) : (T.cutL l).length ≤ l.length + 1 := by
  induction l with
  | nil => simp [T.cutL]
  | cons c t ih =>
    simp only [T.cutL]
    split
    · simp; omega
    · split
      · rename_i h r e; rw [e] at ih; simp at ih ⊢; omega
      · simp
theorem cutL_each (l : List UInt8) : ∀ y ∈ T.cutL l, y.length ≤ l.length := by
  induction l with
  | nil => simp [T.cutL]
  | cons c t ih =>
    simp only [T.cutL]
    split
    · intro y hy
      rcases List.mem_cons.1 hy with rfl | hy
      · simp
      · have := ih y hy; simp; omega
    · split
      · rename_i h r e
        rw [e] at ih
        intro y hy
        rcases List.mem_cons.1 hy with rfl | hy
        · have := ih h (by simp); simp; omega
        · have := ih y (by simp [hy]); simp; omega
      · simp
theorem HV.made (W : World) (C : Array Value) (e : TypeId) (xs : List Value) (n : Nat) (hC : C = xs.toArray) (hl : xs.length = n) (hm : n ≤ maxLen) : HV W (W.alloc (.cells C e)) e (.slice (some ⟨W.heap.size, 0, none⟩) n n) xs := by
  subst hC hl
  refine ⟨⟨by simp, .inr ⟨W.heap.size, xs.length, _, rfl, Nat.le_refl _, heap_alloc_new W _, Nat.le_refl _, hm, by simp, by simp⟩⟩, (Below.refl _ _).alloc (Nat.le_refl _) _⟩
theorem split_any (s : ByteArray) (m : Int) (w : World) (hs : s.size ≤ 65536) (hm : w.cell? ⟨10, 0, none⟩ = some (.int .i64 m)) :
    Calls Tryd.prog 93 #[.string s, .string ⟨#[10]⟩] w fun e w' => e = .returned (.slice (some ⟨w.heap.size, 0, none⟩) (T.cutL s.data.toList).length (T.cutL s.data.toList).length) ∧ HV w w' 9 (.slice (some ⟨w.heap.size, 0, none⟩) (T.cutL s.data.toList).length (T.cutL s.data.toList).length) (strsV (T.cutL s.data.toList)) := by
  refine (Tryd.strings_Split s ⟨#[10]⟩ m w (by omega) hm (by decide)).mono ?_
  rintro e w' ⟨rfl, rfl⟩
  rw [split_count, split_cells]
  refine ⟨rfl, HV.made w _ 9 _ _ rfl (strsV_length _) ?_⟩
  have := cutL_len s.data.toList
  rw [size_list] at this
  unfold maxLen
  omega
theorem strs_at {W w : World} {g n c : Nat} {l m : List (List UInt8)} (h : HV W w 9 (.slice (some ⟨g, 0, none⟩) n c) (strsV (l ++ m))) : StrsAt w (some ⟨g, 0, none⟩) l := by
  cases hl : l with
  | nil => exact .inl rfl
  | cons a t =>
    rw [← hl]
    have hn : 0 < (strsV (l ++ m)).length := by rw [strsV_length, hl]; simp
    obtain ⟨g', _, _, h1, _, h2, _⟩ := h.form hn
    cases h1
    refine .inr ⟨g, 0, rfl, h2, fun i hi => ?_⟩
    rw [Nat.zero_add]
    refine h.cell i _ ?_
    unfold strsV
    rw [List.getElem?_map, List.getElem?_append_left hi, List.getElem?_eq_getElem hi]
    rfl
theorem set_same (l : List (List UInt8)) (k : Nat) (h : k < l.length) : (strsV l).set k (.string ⟨l[k].toArray⟩) = strsV l := by
  apply List.ext_getElem?
  intro i
  by_cases e : k = i
  · subst e
    rw [List.getElem?_set_self (by rw [strsV_length]; exact h)]
    simp [strsV, h]
  · rw [List.getElem?_set_ne e]
def LiPost (W : World) (l : List UInt8) (e : Ending) (W' : World) : Prop :=
  ∃ g c, e = .returned (.tuple #[.slice (some ⟨g, 0, none⟩) (T.lines l).length c, .int .i64 0]) ∧ StrsAt W' (some ⟨g, 0, none⟩) (T.lines l) ∧ Below W.heap.size W W'
set_option maxRecDepth 20000 in
set_option maxHeartbeats 2000000 in
theorem lines_any (W : World) (s : ByteArray) (m : Int) (hs : s.size ≤ 65536) (hm : W.cell? ⟨10, 0, none⟩ = some (.int .i64 m)) :
    Calls Tryd.prog 77 #[.string s] W fun e W' => LiPost W s.data.toList e W' := by
  have c1 : (s.size : Int) ≤ 65536 := by omega
  have HSP := hid (split_any s m W hs hm)
  have hcl := cutL_len s.data.toList
  rw [size_list] at hcl
  obtain ⟨done, x, hcut⟩ : ∃ done x, T.cutL s.data.toList = done ++ [x] := ⟨_, _, (List.dropLast_concat_getLast (T.cutL_ne s.data.toList)).symm⟩
  have HLN := hid (cut_lines _ _ _ hcut)
  rw [hcut] at HSP hcl
  have HXL : Hid (∀ y ∈ done ++ [x], y.length ≤ 1000000000) := hid (fun y hy => by rw [← hcut] at hy; have := cutL_each _ y hy; rw [size_list] at this; omega)
  simp only [List.length_append, List.length_cons, List.length_nil, Nat.zero_add] at HSP hcl
  obtain ⟨n, hn⟩ : ∃ n, done.length = n := ⟨_, rfl⟩
  rw [hn] at HSP hcl
  have HN : Hid (done.length = n) := hn
  have c2 : (n : Int) ≤ 65536 := by omega
  clear hcut hn hm hcl
  rcases List.eq_nil_or_concat x with h0 | ⟨x0, x1, h0⟩
  · subst h0
    rw [if_pos rfl] at HLN
    go_enter Tryd.func77, Tryd.ntmps77
    go_wp2_with (first | (go_at_call 93; refine HSP.out.mono ?_; rintro e w1 ⟨rfl, F⟩; have hcx := F.cell n (.string ⟨([] : List UInt8).toArray⟩) (by rw [strsV_snoc, List.getElem?_append_right (by rw [strsV_length, HN.out]; exact Nat.le_refl _), strsV_length, HN.out]; simp); have HF1 : Hid (HV W w1 9 (.slice (some ⟨W.heap.size, 0, none⟩) (n + 1) (n + 1)) (strsV (done ++ [([] : List UInt8)]))) := F; clear F HSP))
    have HLT : Hid ((done ++ [([] : List UInt8)]).length = n + 1) := hid (by simp [HN.out])
    clear hcx
    generalize W.heap.size = g at *
    generalize hL : done ++ [([] : List UInt8)] = L at *
    have HL : Hid (done ++ [([] : List UInt8)] = L) := hL
    clear hL
    go_loopw [6, 7, 26] (fun _ _ i wr => ∃ k : Nat, k ≤ n ∧ i = .int .i64 k ∧ HV W wr 9 (.slice (some ⟨g, 0, none⟩) (n + 1) (n + 1)) (strsV L)) (fun _ _ i _ => n - (intOf i).toNat)
    case atStart => exact ⟨0, Nat.zero_le _, rfl, HF1.out⟩
    case round =>
      obtain ⟨k, hk, rfl, F⟩ := hrel
      by_cases hlt : k < n
      · have c3 : (k : Int) < ((n : Nat) : Int) := by omega
        have hkl : k < L.length := by rw [HLT.out]; omega
        have hck := F.cell k (.string ⟨L[k].toArray⟩) (by simp [strsV, hkl])
        have hxl := HXL.out L[k] (List.getElem_mem _)
        have HSS := hid (set_same L k hkl)
        have hfr := F.free k
        have HF2 : Hid (HV W wr 9 (.slice (some ⟨g, 0, none⟩) (n + 1) (n + 1)) (strsV L)) := F
        have HY : Hid ((strsV L)[k]? = some (.string ⟨L[k].toArray⟩)) := hid (by simp [strsV, hkl])
        have hsz := arr_size L[k]
        generalize L[k] = y at *
        have HSZ : Hid ((⟨y.toArray⟩ : ByteArray).size ≤ 1000000000) := hid (by omega)
        clear F hkl
        go_wp2_with (first | (go_at_call 42; refine (clone_any _ ⟨y.toArray⟩ HSZ.out).mono ?_; rintro e w2 ⟨rfl, hb2⟩; have F2 := HF2.out.on hb2; have hck2 := F2.cell k _ HY.out; have hfr2 := F2.free k; have HF3 : Hid (HV W (w2.setCell ⟨g, k, none⟩ (.string ⟨y.toArray⟩)) 9 (.slice (some ⟨g, 0, none⟩) (n + 1) (n + 1)) (strsV L)) := hid (by rw [← HSS.out]; have := F2.set k (.string ⟨y.toArray⟩); rw [HSS.out] at this ⊢; exact this); clear F2))
        go_roundw
        case measure => simp [intOf]; omega
        case rel => exact ⟨k + 1, by omega, by go_num, HF3.out⟩
      · obtain rfl : k = n := by omega
        go_wp2_with fail
        go_ret2
        exact ⟨g, k + 1, by rw [HLN.out, HN.out]; rfl, by rw [HLN.out]; exact strs_at (m := [[]]) (by rw [HL.out]; exact F), F.below⟩
  · have hne : x ≠ [] := by rw [h0]; simp
    rw [if_neg hne] at HLN
    have e1 : x.isEmpty = false := by simpa using hne
    clear h0 hne
    go_enter Tryd.func77, Tryd.ntmps77
    go_wp2_with (first | (go_at_call 93; refine HSP.out.mono ?_; rintro e w1 ⟨rfl, F⟩; have hcx := F.cell n (.string ⟨x.toArray⟩) (by rw [strsV_snoc, List.getElem?_append_right (by rw [strsV_length, HN.out]; exact Nat.le_refl _), strsV_length, HN.out]; simp); have HF1 : Hid (HV W w1 9 (.slice (some ⟨W.heap.size, 0, none⟩) (n + 1) (n + 1)) (strsV (done ++ [x]))) := F; clear F HSP))
    have HLT : Hid ((done ++ [x]).length = n + 1) := hid (by simp [HN.out])
    clear hcx
    generalize W.heap.size = g at *
    generalize hL : done ++ [x] = L at *
    have HL : Hid (done ++ [x] = L) := hL
    clear hL
    go_loopw [6, 7, 26] (fun _ _ i wr => ∃ k : Nat, k ≤ (n + 1) ∧ i = .int .i64 k ∧ HV W wr 9 (.slice (some ⟨g, 0, none⟩) (n + 1) (n + 1)) (strsV L)) (fun _ _ i _ => (n + 1) - (intOf i).toNat)
    case atStart => exact ⟨0, Nat.zero_le _, rfl, HF1.out⟩
    case round =>
      obtain ⟨k, hk, rfl, F⟩ := hrel
      by_cases hlt : k < (n + 1)
      · have c3 : (k : Int) < (((n + 1) : Nat) : Int) := by omega
        have hkl : k < L.length := by rw [HLT.out]; omega
        have hck := F.cell k (.string ⟨L[k].toArray⟩) (by simp [strsV, hkl])
        have hxl := HXL.out L[k] (List.getElem_mem _)
        have HSS := hid (set_same L k hkl)
        have hfr := F.free k
        have HF2 : Hid (HV W wr 9 (.slice (some ⟨g, 0, none⟩) (n + 1) (n + 1)) (strsV L)) := F
        have HY : Hid ((strsV L)[k]? = some (.string ⟨L[k].toArray⟩)) := hid (by simp [strsV, hkl])
        have hsz := arr_size L[k]
        generalize L[k] = y at *
        have HSZ : Hid ((⟨y.toArray⟩ : ByteArray).size ≤ 1000000000) := hid (by omega)
        clear F hkl
        go_wp2_with (first | (go_at_call 42; refine (clone_any _ ⟨y.toArray⟩ HSZ.out).mono ?_; rintro e w2 ⟨rfl, hb2⟩; have F2 := HF2.out.on hb2; have hck2 := F2.cell k _ HY.out; have hfr2 := F2.free k; have HF3 : Hid (HV W (w2.setCell ⟨g, k, none⟩ (.string ⟨y.toArray⟩)) 9 (.slice (some ⟨g, 0, none⟩) (n + 1) (n + 1)) (strsV L)) := hid (by rw [← HSS.out]; have := F2.set k (.string ⟨y.toArray⟩); rw [HSS.out] at this ⊢; exact this); clear F2))
        go_roundw
        case measure => simp [intOf]; omega
        case rel => exact ⟨k + 1, by omega, by go_num, HF3.out⟩
      · obtain rfl : k = (n + 1) := by omega
        go_wp2_with fail
        go_ret2
        exact ⟨g, n + 1, by rw [HLN.out, HLT.out]; rfl, by rw [HLN.out]; exact strs_at (m := []) (by rw [List.append_nil]; exact F), F.below⟩
end Go.Proofs.YtbpdmkohihgnjaaDoor.L
