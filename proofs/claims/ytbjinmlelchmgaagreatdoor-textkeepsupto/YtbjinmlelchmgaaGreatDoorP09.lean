import Derived.Test.YtbjinmlelchmgaaGreatDoorP08
import Derived.Lib.AppendStr
import Derived.Test.YtbjinmlelchmgaaGreatDoorP07
import Derived.Laws.AppendOwnNone
namespace Go.Proofs.YtbjinmlelchmgaaGreatDoor
open Go.RowKit
theorem strCells_bytes (s : ByteArray) : Lib.strCells s = Lib.byteCells s.data.toList := rfl
theorem wpList_append_text {P : Program} {W w : World} {ops : Array Oper} {rest : List Oper} {o : Oper} {a : Act} {Q : Exit → Act → World → Prop} (hgd : o.guard = none) (s x : Operand) (t u : TypeId)
    (ho : o.op = .call { callee := .builtin .append, args := #[s, x], argTypes := #[t, u] }) (i : TypeInfo) (ht : P.underlying t = some (.slice 5)) (hu : P.underlying u = some .string) (hi : P.info? 5 = some i) (hz : i.zero = some (.int .u8 0)) (hsize : i.size = 1) (hby : i.bytes = 1)
    (v : Value) (l : List UInt8) (hs : a.eval s = v) (H : HB W w v l) (m : ByteArray) (hx : a.eval x = .string m) (h63 : l.length + m.size ≤ 140737488355328)
    (h : ∀ v' w', HB W w' v' (l ++ m.data.toList) → wpList P ops Q rest (a.put o.dst v') w') : wpList P ops Q (o :: rest) a w :=
  Lib.wpList_append_own_string w hgd s x t u ho W.heap.size 5 i ht hu hi hz hsize hby v l.length _ hs H.own m hx (by unfold maxLen; omega) h63 H.below.size fun v' w' h1 h2 _ => h v' w' (H.grow (by rw [← strCells_bytes]; exact h1) h2)
set_option maxHeartbeats 1000000 in
theorem rquote_any (W : World) (ao : Option Addr) (n c : Nat) (l : List UInt8) (hl : l.length = n) (hn : n ≤ 100000000) (hat : AtB W ao l) :
    Calls Tryz.prog 23 #[.slice ao n c] W fun e W' => e = .returned (.string ⟨(T.quote l).toArray⟩) ∧ Below W.heap.size W W' := by
  obtain ⟨i0, hi, hz0, hz1, hz2⟩ := info_parts Tryz.info5
  have b1 : (n : Int) ≤ 100000000 := by omega
  have HA : Hid (AtB W ao l) := hat
  have HL : Hid (l.length = n) := hl
  clear hat hl
  go_enter Tryz.func23, Tryz.ntmps23
  go_wp2_with fail
  have F0 : HB W (W.alloc (Obj.cells #[Value.int .u8 34] 5)) (.slice (some ⟨W.heap.size, 0, none⟩) 1 1) [34] := HB.made W #[.int .u8 34] [34] rfl (by decide)
  go_loopw [3, 4] (fun v i wr => ∃ k : Nat, k ≤ n ∧ i = .int .i64 k ∧ HB W wr v (34 :: T.quoteB (l.take k))) (fun _ i _ => n - (intOf i).toNat)
  case atStart => exact ⟨0, Nat.zero_le _, rfl, by simpa [T.quoteB] using F0⟩
  case round =>
    clear F0
    obtain ⟨k, hk, rfl, F⟩ := hrel
    have hl1 := T.quoteB_length (l.take k)
    have hl2 : (l.take k).length ≤ k := List.length_take_le _ _
    by_cases hlt : k < n
    · have c1 : (k : Int) < (n : Int) := by omega
      have hkl : k < l.length := by rw [HL.out]; exact hlt
      rcases HA.out with h0 | ⟨b, off, rfl, hb, hc⟩
      · rw [h0] at hkl; simp at hkl
      have hck := hc k hkl
      rw [← F.below.cell (p := ⟨b, off + k, none⟩) hb] at hck
      have HQ : Hid (34 :: T.quoteB (l.take (k + 1)) = 34 :: T.quoteB (l.take k) ++ T.one l[k]) := hid (by rw [quoteB_take l k hkl]; rfl)
      have HLq : Hid ((34 :: T.quoteB (l.take k)).length ≤ 400000001) := hid (by simp; omega)
      have HO := one_any l[k]
      have hone := T.one_length l[k]
      generalize l[k] = x at *
      generalize 34 :: T.quoteB (l.take k) = q at *
      have HF : Hid (HB W wr u3 q) := F
      have HO' : Hid (∀ w, Calls Tryz.prog 57 #[.int .u8 (x.toNat : Int)] w fun e w' => e = .returned (.string ⟨(T.one x).toArray⟩) ∧ Below w.heap.size w w') := HO
      have HX : Hid ((⟨(T.one x).toArray⟩ : ByteArray).size ≤ 4) := hid (by simp [ByteArray.size]; omega)
      clear F hl1 hl2 hc HO hone hkl
      go_wp2_with (first | (go_at_call 57; refine (HO'.out _).mono ?_; rintro e w1 ⟨rfl, hb1⟩) | (at_builtin; refine wpList_append_text rfl _ _ 26 9 rfl i0 Tryz.underlying26 Tryz.underlying9 hi hz0 hz1 hz2 _ _ rfl (HF.out.on hb1) _ rfl (by have := HX.out; have := HLq.out; omega) ?_; intro v2 w2 F2))
      have HF2 : Hid (HB W w2 v2 (q ++ T.one x)) := F2
      clear F2
      go_wp2_with fail
      go_roundw
      case measure => simp [intOf]; omega
      case rel => exact ⟨k + 1, by omega, by go_num, by rw [HQ.out]; exact HF2.out⟩
    · obtain rfl : k = n := by omega
      have HK : Hid (34 :: T.quoteB (l.take k) ++ [34] = T.quote l) := hid (by rw [List.take_of_length_le (Nat.le_of_eq HL.out)]; rfl)
      have hlk : (T.quoteB (l.take k)).length ≤ 400000000 := by omega
      generalize T.quoteB (l.take k) = q at *
      clear HA hl1 hl2 hk hlt
      go_wp2_with (first | (at_builtin; refine wpList_append_bytes rfl _ _ _ rfl i0 Tryz.underlying26 hi hz0 hz1 hz2 _ _ rfl (F.alloc _) _ _ _ [34] rfl rfl (cells_new _ _ _ _ rfl) (by simp; omega) ?_))
      intro v2 w2 F2
      have F3 : HB W w2 v2 (T.quote l) := by
        rw [← HK.out]
        exact F2
      clear HK F F2
      obtain ⟨g, cap, rfl, hcv⟩ := F3.conv
      go_wp2_with fail
      go_ret
      exact ⟨rfl, F3.below⟩
end Go.Proofs.YtbjinmlelchmgaaGreatDoor
namespace Go.Proofs.YtbjinmlelchmgaaGreatDoor
open Go.RowKit
namespace T
def laid (ws : List Nat) (row : List (List UInt8)) (q : Nat) : List UInt8 := if q < row.length then fills ws row q else if row.length = 0 then [] else fills ws row (row.length - 1) ++ row.getD (row.length - 1) []
theorem laid_zero (ws : List Nat) (row : List (List UInt8)) : laid ws row 0 = [] := by
  unfold laid
  by_cases h : 0 < row.length
  · rw [if_pos h]; rfl
  · rw [if_neg h, if_pos (by omega)]
theorem laid_step (ws : List Nat) (row : List (List UInt8)) (q : Nat) (h : q + 1 < row.length) : laid ws row (q + 1) = (laid ws row q ++ row[q]) ++ List.replicate (ws.getD q 0 - row[q].length + 2) 32 := by
  unfold laid
  rw [if_pos h, if_pos (by omega), fills_succ, List.getD_eq_getElem?_getD, List.getElem?_eq_getElem (by omega)]
  simp only [Option.getD_some, fillTo, List.append_assoc]
  rw [← List.replicate_append_replicate]
  rfl
theorem laid_last (ws : List Nat) (row : List (List UInt8)) (q : Nat) (h : q + 1 = row.length) : laid ws row (q + 1) = laid ws row q ++ row[q] := by
  unfold laid
  have e : row.length - 1 = q := by omega
  rw [if_neg (by omega), if_neg (by omega), if_pos (by omega), e, List.getD_eq_getElem?_getD, List.getElem?_eq_getElem (by omega)]
  rfl
theorem laid_trim (ws : List Nat) (row : List (List UInt8)) : trim (laid ws row row.length) = line ws row := by
  unfold laid
  rw [if_neg (by omega)]
  by_cases h : row.length = 0
  · rw [if_pos h]
    have : row = [] := List.eq_nil_of_length_eq_zero h
    subst this
    rfl
  · rw [if_neg h]
    have := trim_row ws row (row.length - 1) (by omega)
    rw [show row.length - 1 + 1 = row.length by omega, List.take_length] at this
    rw [← this, List.getD_eq_getElem?_getD, List.getElem?_eq_getElem (by omega)]
    rfl
theorem fills_mono (ws : List Nat) (row : List (List UInt8)) (a : Nat) : ∀ b, a ≤ b → (fills ws row a).length ≤ (fills ws row b).length
  | 0, h => by rw [show a = 0 by omega]; exact Nat.le_refl _
  | b + 1, h => by
    rcases Nat.lt_or_ge a (b + 1) with h1 | h1
    · have := fills_mono ws row a b (by omega)
      rw [fills_succ, List.length_append]
      omega
    · rw [show a = b + 1 by omega]; exact Nat.le_refl _
theorem laid_len (ws : List Nat) (row : List (List UInt8)) (q : Nat) : (laid ws row q).length ≤ (fills ws row row.length).length := by
  unfold laid
  split
  · exact fills_mono ws row q _ (by omega)
  · split
    · exact Nat.zero_le _
    · have := fills_succ ws row (row.length - 1)
      rw [show row.length - 1 + 1 = row.length by omega] at this
      rw [this]
      simp only [List.length_append, fillTo]
      omega
theorem trim_blank (l : List UInt8) (k : Nat) (h : k < l.length) (hc : l[k] = 32) : trim (l.take (k + 1)) = trim (l.take k) := by
  rw [List.take_succ_eq_append_getElem h, hc]
  exact trim_app_nil _ _ (trim_sp 1)
theorem trim_full (l : List UInt8) (k : Nat) (h : k < l.length) (hc : l[k] ≠ 32) : trim (l.take (k + 1)) = l.take (k + 1) := by
  have e : trim [l[k]] = [l[k]] := by
    unfold trim Lib.trimRightB
    simp [hc]
  rw [List.take_succ_eq_append_getElem h, trim_app, e]
  rfl
theorem widthR_ge (j : Nat) (rows : List (List (List UInt8))) : ∀ (a : Nat), a ≤ rows.foldl (fun w r => max w (r.getD j []).length) a ∧ ∀ r ∈ rows, (r.getD j []).length ≤ rows.foldl (fun w r => max w (r.getD j []).length) a := by
  induction rows with
  | nil => intro a; simp
  | cons r rows ih =>
    intro a
    obtain ⟨h1, h2⟩ := ih (max a (r.getD j []).length)
    rw [List.foldl_cons]
    refine ⟨by omega, fun x hx => ?_⟩
    rcases List.mem_cons.1 hx with rfl | hx
    · omega
    · exact h2 x hx
theorem widthR_le (j M : Nat) (rows : List (List (List UInt8))) (h : ∀ r ∈ rows, (r.getD j []).length ≤ M) : ∀ a, a ≤ M → rows.foldl (fun w r => max w (r.getD j []).length) a ≤ M := by
  induction rows with
  | nil => intro a ha; exact ha
  | cons r rows ih =>
    intro a ha
    rw [List.foldl_cons]
    exact ih (fun x hx => h x (List.mem_cons_of_mem _ hx)) _ (by have := h r (by simp); omega)
theorem getD_le (r : List (List UInt8)) (M : Nat) (h : ∀ x ∈ r, x.length ≤ M) (i : Nat) : (r.getD i []).length ≤ M := by
  rw [List.getD_eq_getElem?_getD]
  cases hi : r[i]? with
  | none => simp
  | some x => exact h x (List.mem_of_getElem? hi)
theorem table_le (rows : List (List (List UInt8))) (ws : List Nat) (k : Nat) : (table (rows.take k) ws).length ≤ (table rows ws).length := by
  have : table rows ws = table (rows.take k) ws ++ table (rows.drop k) ws := by
    unfold table
    rw [← List.flatten_append, ← List.map_append, List.take_append_drop]
  rw [this, List.length_append]
  omega
end T
theorem HB.lies {W w : World} {v : Value} {l : List UInt8} (h : HB W w v l) : ∃ ao cap, v = .slice ao l.length cap ∧ l.length ≤ cap ∧ ((ao = none ∧ cap = 0 ∧ l = []) ∨ ∃ g, ao = some ⟨g, 0, none⟩ ∧ ∀ j (hj : j < l.length), w.cell? ⟨g, j, none⟩ = some (.int .u8 (l[j].toNat : Int))) := by
  rcases h.own.2 with ⟨hv, h0⟩ | ⟨g, cap, cur, h1, h2, h3, h4, h5, h6, h7⟩
  · exact ⟨none, 0, by rw [h0]; exact hv, by omega, .inl ⟨rfl, rfl, List.eq_nil_of_length_eq_zero h0⟩⟩
  · refine ⟨_, cap, h1, h4, .inr ⟨g, rfl, fun j hj => ?_⟩⟩
    subst h1
    have := h.own.cells (g := g) rfl j (.int .u8 (l[j].toNat : Int)) (by simp [Lib.byteCells, hj])
    rw [Addr.add_mid, Nat.zero_add] at this
    exact this
theorem wpList_append_lies {P : Program} {W w : World} {ops : Array Oper} {rest : List Oper} {o : Oper} {a : Act} {Q : Exit → Act → World → Prop} (hgd : o.guard = none) (s x : Operand) (t : TypeId)
    (ho : o.op = .call { callee := .builtin .append, args := #[s, x], argTypes := #[t, t] }) (i : TypeInfo) (ht : P.underlying t = some (.slice 5)) (hi : P.info? 5 = some i) (hz : i.zero = some (.int .u8 0)) (hsize : i.size = 1) (hby : i.bytes = 1)
    (v : Value) (l : List UInt8) (hs : a.eval s = v) (H : HB W w v l) (ao : Option Addr) (n c : Nat) (m : List UInt8) (hx : a.eval x = .slice ao n c) (hn : n ≤ m.length)
    (hm : (ao = none ∧ c = 0 ∧ m = []) ∨ ∃ g, ao = some ⟨g, 0, none⟩ ∧ ∀ j (hj : j < m.length), w.cell? ⟨g, j, none⟩ = some (.int .u8 (m[j].toNat : Int))) (h63 : l.length + n ≤ 140737488355328)
    (h : ∀ v' w', HB W w' v' (l ++ m.take n) → wpList P ops Q rest (a.put o.dst v') w') : wpList P ops Q (o :: rest) a w := by
  rcases hm with ⟨rfl, rfl, rfl⟩ | ⟨g, rfl, hc⟩
  · obtain rfl : n = 0 := by simpa using hn
    exact wpList_append_own_none hgd s x t ho W.heap.size 5 i 1 ht hi v l.length _ hs H.own hx (h _ _ (by simpa using H))
  · refine wpList_append_bytes hgd s x t ho i ht hi hz hsize hby v l hs H ⟨g, 0, none⟩ n c (m.take n) hx (by simp; omega) (fun j u hu => ?_) h63 h
    rw [Addr.add_mid, Nat.zero_add]
    have hj : j < n := by
      have := (List.getElem?_eq_some_iff.1 hu).1
      simp [Lib.byteCells] at this
      omega
    rw [hc j (by omega), ← hu]
    simp [Lib.byteCells, hj]
    rw [List.getElem?_eq_getElem (by omega)]
    rfl
end Go.Proofs.YtbjinmlelchmgaaGreatDoor
