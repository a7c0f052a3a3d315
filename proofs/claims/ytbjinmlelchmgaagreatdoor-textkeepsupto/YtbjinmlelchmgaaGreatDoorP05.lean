import Derived.Test.YtbjinmlelchmgaaGreatDoorP04
import Derived.Test.YtbjinmlelchmgaaGreatDoorP01
namespace Go.Proofs.YtbjinmlelchmgaaGreatDoor
open Go.RowKit
def AtB (W : World) (ao : Option Addr) (l : List UInt8) : Prop := l = [] ∨ ∃ b off, ao = some ⟨b, off, none⟩ ∧ b < W.heap.size ∧ ∀ i (h : i < l.length), W.cell? ⟨b, off + i, none⟩ = some (.int .u8 (l[i].toNat : Int))
theorem quoteB_take (l : List UInt8) (k : Nat) (h : k < l.length) : T.quoteB (l.take (k + 1)) = T.quoteB (l.take k) ++ T.one l[k] := by
  unfold T.quoteB
  rw [List.take_succ_eq_append_getElem h, List.map_append, List.flatten_append]
  simp
theorem hexD_at (n : Nat) (h : n < 16) (hp : n < (⟨#[48, 49, 50, 51, 52, 53, 54, 55, 56, 57, 97, 98, 99, 100, 101, 102]⟩ : ByteArray).size) : ((⟨#[48, 49, 50, 51, 52, 53, 54, 55, 56, 57, 97, 98, 99, 100, 101, 102]⟩ : ByteArray)[n]'hp) = T.hexD n := by
  revert n
  decide +kernel

theorem HB.drew {W wr : World} {v : Value} {l : List UInt8} (h : HB W wr v l) : HB W wr.drew v l := ⟨h.own, h.below.drew⟩
theorem step_append_bytes {P : Program} {W w : World} {ops : Array Oper} {o : Oper} {a : Act} {K : Act → World → Prop} {Q : Exit → Act → World → Prop} {E : Prop} (hgd : o.guard = none) (s x : Operand) (t : TypeId)
    (ho : o.op = .call { callee := .builtin .append, args := #[s, x], argTypes := #[t, t] }) (i : TypeInfo) (ht : P.underlying t = some (.slice 5)) (hi : P.info? 5 = some i) (hz : i.zero = some (.int .u8 0)) (hsize : i.size = 1) (hby : i.bytes = 1)
    (v : Value) (l : List UInt8) (hs : a.eval s = v) (H : HB W w v l) (ad : Addr) (n c : Nat) (m : List UInt8) (hx : a.eval x = .slice (some ad) n c) (hl : m.length = n) (hc : ∀ j u, (Lib.byteCells m)[j]? = some u → w.cell? (ad.add j) = some u) (h63 : l.length + n ≤ 140737488355328)
    (h : ∀ v' w', HB W w' v' (l ++ m) → K (a.put o.dst v') w') : if Region.wanted o (yielded ops a.tmps) = true then Oper.wp P o a w K Q else E := by
  subst hl
  obtain ⟨v', w', hr, h1, h2, _⟩ := run_append_own (P := P) w W.heap.size t o.type 5 i (.int .u8 0) 1 1 ht hi hz hsize hby rfl (by decide) v l.length _ H.own ad m.length c (Lib.byteCells m) (by simp [Lib.byteCells]) hc (byteCells_one m) (by unfold maxLen; omega) (by omega) H.below.size
  have hw : Region.wanted o (yielded ops a.tmps) = true := by simp [Region.wanted, hgd]
  rw [if_pos hw]
  unfold Oper.wp execOp
  simp only [ho, resolve, invoke, builtin, Sem.run_bind, Sem.run_pure, Result.andThen_ok, List.map_toArray, List.map_cons, List.map_nil, hs, hx, hr]
  exact h _ _ (H.grow h1 h2)
theorem HB.conv {W w : World} {v : Value} {l : List UInt8} (h : HB W w v l) : ∃ ao cap, v = .slice ao l.length cap ∧ (convert 26 9 (.slice ao l.length cap)).run Tryz.prog w = .ok (.string ⟨l.toArray⟩) w := by
  rcases h.own.2 with ⟨hv, h0⟩ | ⟨g, cap, cur, hv, _⟩
  · have hl : l = [] := List.eq_nil_of_length_eq_zero h0
    refine ⟨none, 0, by rw [hv, h0], ?_⟩
    rw [hl, List.length_nil, run_convert_bytes_string (P := Tryz.prog) w 26 9 5 none 0 0 Tryz.underlying26 Tryz.underlying5 Tryz.underlying9]
    rfl
  · exact ⟨some ⟨g, 0, none⟩, cap, hv, run_convert_bytes_back (P := Tryz.prog) w 26 9 5 ⟨g, 0, none⟩ cap l Tryz.underlying26 Tryz.underlying5 Tryz.underlying9 (fun j hj => h.own.cells (g := g) (by rw [hv]; rfl) j _ (by simp [Lib.byteCells, hj]))⟩
theorem and15 : ∀ n : Nat, n < 256 → bits .and .u8 (n : Int) 15 = (n : Int) % 16 := by
  have h : ∀ a : Fin 256, bits .and .u8 (a.val : Int) 15 = (a.val : Int) % 16 := by decide +kernel
  exact fun n hn => h ⟨n, hn⟩
set_option maxHeartbeats 1000000 in
theorem quote_any (W : World) (ao : Option Addr) (n c : Nat) (l : List UInt8) (hl : l.length = n) (hn : n ≤ 100000000) (hat : AtB W ao l) :
    Calls Tryz.prog 15 #[.slice ao n c] W fun e W' => e = .returned (.string ⟨(T.quote l).toArray⟩) ∧ Below W.heap.size W W' := by
  obtain ⟨i0, hi, hz0, hz1, hz2⟩ := info_parts Tryz.info5
  have b1 : (n : Int) ≤ 100000000 := by omega
  have hlen := T.quoteB_length l
  have HA : Hid (AtB W ao l) := hat
  clear hat
  go_enter Tryz.func15, Tryz.ntmps15
  go_wp2_with (first | (at_make; refine wpList_make_own _ rfl _ _ 26 rfl W.heap.size 5 i0 (.int .u8 0) 1 Tryz.underlying26 hi hz0 hz1 .i64 .i64 _ (n + 2) rfl rfl (by push_cast; rfl) (by rw [hz2]; omega) (by unfold maxLen; omega) (Nat.le_refl _) ?_))
  intro w0 hown0 hgrow0
  have F0 : HB W w0 (.slice (some ⟨W.heap.size, 0, none⟩) 0 (n + 2)) [] := ⟨hown0, (Below.refl _ W).grown hgrow0 (Nat.le_refl _) (fun _ h => by cases h)⟩
  clear hown0 hgrow0
  go_wp2_with (first | (at_builtin; refine wpList_append_bytes rfl _ _ _ rfl i0 Tryz.underlying26 hi hz0 hz1 hz2 _ _ rfl (F0.alloc _) _ _ _ [34] rfl rfl (cells_new _ _ _ _ rfl) (by simp) ?_))
  intro v1 w1 F1
  clear F0
  go_wp2_with fail
  go_loopw [3, 5, 15] (fun v _ i wr => ∃ k : Nat, k ≤ n ∧ i = .int .i64 k ∧ HB W wr v (34 :: T.quoteB (l.take k))) (fun _ _ i _ => n - (intOf i).toNat)
  case atStart => exact ⟨0, Nat.zero_le _, rfl, by simpa [T.quoteB] using F1⟩
  case round =>
    clear F1
    obtain ⟨k, hk, rfl, F⟩ := hrel
    have hl1 := T.quoteB_length (l.take k)
    have hl2 : (l.take k).length ≤ k := List.length_take_le _ _
    by_cases hlt : k < n
    · have c1 : (k : Int) < (n : Int) := by omega
      rcases HA.out with h0 | ⟨b, off, rfl, hb, hc⟩
      · rw [h0] at hl; simp at hl; omega
      · have hck := hc k (by omega)
        rw [← F.below.cell (p := ⟨b, off + k, none⟩) hb] at hck
        have HT := quoteB_take l k (by omega)
        have HI := itself_any l[k]
        have hlk : (T.quoteB (l.take k)).length ≤ 400000000 := by omega
        generalize hq : T.quoteB (l.take k) = q at *
        have HQ : Hid (T.quoteB (l.take (k + 1)) = q ++ T.one l[k]) := HT
        have hx := l[k].toNat_lt
        generalize hy : l[k] = x at *
        clear HT hy hq hc HA hlen hl1 hl2 hl
        cases hit : T.itself x with
        | true =>
          have HK : Hid (34 :: q ++ [x] = 34 :: T.quoteB (l.take (k + 1))) := hid (by rw [HQ.out, T.one_itself hit]; simp)
          rw [hit] at HI
          clear hit HQ
          go_wp2_with fail
          refine (HI _).mono ?_
          rintro e w' ⟨rfl, rfl⟩
          go_wp2_with (first | (at_builtin; refine wpList_append_bytes rfl _ _ _ rfl i0 Tryz.underlying26 hi hz0 hz1 hz2 _ _ rfl (F.alloc _) _ _ _ [x] rfl rfl (cells_new _ _ _ _ rfl) (by simp; omega) ?_))
          intro v2 w2 F2
          go_wp2_with fail
          go_roundw
          case rel => exact ⟨k + 1, by omega, by go_num, by rw [← HK.out]; exact F2⟩
          case measure => simp [intOf]; omega
        | false =>
          have HK : Hid (34 :: q ++ [92, 120, T.hexD (x.toNat / 16), T.hexD (x.toNat % 16)] = 34 :: T.quoteB (l.take (k + 1))) := hid (by rw [HQ.out]; simp [T.one, hit])
          rw [hit] at HI
          clear hit HQ
          have ha : bits .and .u8 (x.toNat : Int) 15 = (x.toNat : Int) % 16 := and15 x.toNat hx
          have g1 : ∀ h, (⟨#[48, 49, 50, 51, 52, 53, 54, 55, 56, 57, 97, 98, 99, 100, 101, 102]⟩ : ByteArray)[((x.toNat : Int) / 16).toNat]'h = T.hexD (x.toNat / 16) := fun h => hexD_at _ (by omega) h
          have g2 : ∀ h, (⟨#[48, 49, 50, 51, 52, 53, 54, 55, 56, 57, 97, 98, 99, 100, 101, 102]⟩ : ByteArray)[((x.toNat : Int) % 16).toNat]'h = T.hexD (x.toNat % 16) := fun h => hexD_at _ (by omega) h
          have z1 : (x.toNat : Int) < 256 := by omega
          have z2 : (0 : Int) ≤ (x.toNat : Int) / 16 := by omega
          have z3 : (x.toNat : Int) / 16 < 16 := by omega
          have z4 : (0 : Int) ≤ (x.toNat : Int) % 16 := by omega
          have z5 : (x.toNat : Int) % 16 < 16 := by omega
          go_wp2_with fail
          refine (HI _).mono ?_
          rintro e w' ⟨rfl, rfl⟩
          go_wp2_with fail
          generalize T.hexD (x.toNat / 16) = y1 at *
          generalize T.hexD (x.toNat % 16) = y2 at *
          have A1 : Hid (HB W ((wr.alloc (.cells #[.int .u8 92, .int .u8 120, .int .u8 (y1.toNat : Int), .int .u8 (y2.toNat : Int)] 5)).drew) u3 (34 :: q)) := hid (F.alloc _).drew
          have A2 : Hid (∀ j u, (Lib.byteCells [92, 120, y1, y2])[j]? = some u → ((wr.alloc (.cells #[.int .u8 92, .int .u8 120, .int .u8 (y1.toNat : Int), .int .u8 (y2.toNat : Int)] 5)).drew).cell? ((⟨wr.heap.size, 0, none⟩ : Addr).add j) = some u) := hid (cells_new wr 5 _ _ rfl)
          go_region_held3 (fun _ => True) (trivial) ((refine step_append_bytes (by rfl) _ _ 26 (by rfl) i0 Tryz.underlying26 hi hz0 hz1 hz2 _ (34 :: q) (by rfl) A1.out ⟨wr.heap.size, 0, none⟩ 4 4 [92, 120, y1, y2] (by rfl) (by rfl) A2.out (by simp; omega) ?_; intro v2 w2 F2))
          all_goals go_wp2_with fail
          all_goals exact ⟨⟨k + 1, by omega, by go_num, by rw [← HK.out]; exact F2⟩, by simp [intOf]; omega⟩
    · obtain rfl : k = n := by omega
      have HK : Hid (34 :: T.quoteB (l.take k) ++ [34] = T.quote l) := hid (by rw [List.take_of_length_le (by omega)]; rfl)
      have hlk : (T.quoteB (l.take k)).length ≤ 400000000 := by omega
      generalize T.quoteB (l.take k) = q at *
      clear HA hl1 hl2 hlen hl
      go_wp2_with (first | (at_builtin; refine wpList_append_bytes rfl _ _ _ rfl i0 Tryz.underlying26 hi hz0 hz1 hz2 _ _ rfl (F.alloc _) _ _ _ [34] rfl rfl (cells_new _ _ _ _ rfl) (by simp; omega) ?_))
      intro v2 w2 F2
      have F3 : HB W w2 v2 (T.quote l) := by
        rw [← HK.out]
        exact F2
      clear HK F F2
      obtain ⟨g, cap, rfl, hcv⟩ := F3.conv
      go_wp2_with fail
      go_ret
      exact ⟨rfl, F3.below⟩
end Go.Proofs.YtbjinmlelchmgaaGreatDoor
namespace Go.Proofs.YtbjinmlelchmgaaGreatDoor
namespace T
structure Wd where
  text : List UInt8
  quoted : Bool
  col : Nat
deriving DecidableEq
def cons (w : Wd) : Nat ⊕ List Wd → Nat ⊕ List Wd
  | .inl x => .inl x
  | .inr l => .inr (w :: l)
def pre (ws : List Wd) : Nat ⊕ List Wd → Nat ⊕ List Wd
  | .inl x => .inl x
  | .inr l => .inr (ws ++ l)
theorem pre_nil (r : Nat ⊕ List Wd) : pre [] r = r := by cases r <;> rfl
theorem pre_cons (ws : List Wd) (w : Wd) (r : Nat ⊕ List Wd) : pre ws (cons w r) = pre (ws ++ [w]) r := by cases r <;> simp [pre, cons]
def plainN (l : List UInt8) : Nat := (l.takeWhile fun c => !isGap c).length
theorem plainN_le (l : List UInt8) : plainN l ≤ l.length := by
  induction l with
  | nil => simp [plainN]
  | cons c t ih => simp only [plainN, List.takeWhile_cons]; split <;> simp [plainN] at * <;> omega
def parted (l : List UInt8) : Bool := match l with
  | [] => true
  | c :: _ => isGap c
def rd (l : List UInt8) (p : Nat) : Nat ⊕ List Wd :=
  match l with
  | [] => .inr []
  | c :: t =>
    if isGap c then rd t (p + 1)
    else if c.toNat = 35 then .inr []
    else if c.toNat = 34 then
      match unq t with
      | .inl x => .inl (p + 1 + x)
      | .inr (b, n) => if parted (t.drop n) then cons ⟨b, true, p + 1⟩ (rd (t.drop n) (p + 1 + n)) else .inl (p + 1 + n)
    else cons ⟨(c :: t).take (plainN (c :: t)), false, p + 1⟩ (rd (t.drop (plainN (c :: t) - 1)) (p + plainN (c :: t)))
termination_by l.length
decreasing_by all_goals simp <;> omega
theorem rd_nil (p : Nat) : rd [] p = .inr [] := by rw [rd]
theorem rd_gap {c : UInt8} (t : List UInt8) (p : Nat) (h : isGap c = true) : rd (c :: t) p = rd t (p + 1) := by rw [rd]; simp [h]
theorem rd_hash {c : UInt8} (t : List UInt8) (p : Nat) (h : isGap c = false) (h2 : c.toNat = 35) : rd (c :: t) p = .inr [] := by rw [rd]; simp [h, h2]
theorem rd_bad {c : UInt8} (t : List UInt8) (p x : Nat) (h : isGap c = false) (h2 : c.toNat = 34) (hu : unq t = .inl x) : rd (c :: t) p = .inl (p + 1 + x) := by rw [rd]; simp [h, h2, hu]
theorem rd_joined {c : UInt8} (t b : List UInt8) (p n : Nat) (h : isGap c = false) (h2 : c.toNat = 34) (hu : unq t = .inr (b, n)) (hp : parted (t.drop n) = false) : rd (c :: t) p = .inl (p + 1 + n) := by rw [rd]; simp [h, h2, hu, hp]
theorem rd_quoted {c : UInt8} (t b : List UInt8) (p n : Nat) (h : isGap c = false) (h2 : c.toNat = 34) (hu : unq t = .inr (b, n)) (hp : parted (t.drop n) = true) : rd (c :: t) p = cons ⟨b, true, p + 1⟩ (rd (t.drop n) (p + 1 + n)) := by rw [rd]; simp [h, h2, hu, hp]
theorem plainN_pos {c : UInt8} (t : List UInt8) (h : isGap c = false) : plainN (c :: t) = plainN t + 1 := by simp [plainN, h]
theorem rd_plain {c : UInt8} (t : List UInt8) (p : Nat) (h : isGap c = false) (h2 : c.toNat ≠ 35) (h3 : c.toNat ≠ 34) : rd (c :: t) p = cons ⟨(c :: t).take (plainN (c :: t)), false, p + 1⟩ (rd ((c :: t).drop (plainN (c :: t))) (p + plainN (c :: t))) := by
  rw [rd]
  simp only [h, h2, h3, if_false]
  rw [plainN_pos t h]
  simp
def words (l : List UInt8) : Nat ⊕ List Wd := rd l 0
end T
end Go.Proofs.YtbjinmlelchmgaaGreatDoor
namespace Go.Proofs.YtbjinmlelchmgaaGreatDoor
open Go.RowKit

theorem parted_at (s : ByteArray) (k : Nat) (h : k < s.size) : T.parted (s.data.toList.drop k) = T.isGap s[k] := by rw [drop_get s k h]; rfl
theorem parted_end (s : ByteArray) (k : Nat) (h : s.size ≤ k) : T.parted (s.data.toList.drop k) = true := by rw [List.drop_eq_nil_of_le (by rw [size_list]; exact h)]; rfl

def QwPost (W : World) (k : Nat) (l : List UInt8) (e : Ending) (W' : World) : Prop :=
  Below W.heap.size W W' ∧ match T.unq (l.drop (k + 1)) with
  | .inl x => e = brk (k + 1 + x)
  | .inr (b, n) => e = if T.parted (l.drop (k + 1 + n)) then .returned (.tuple #[.string ⟨b.toArray⟩, .int .i64 ((k + 1 + n : Nat) : Int)]) else brk (k + 1 + n)

set_option maxHeartbeats 1000000 in
theorem quotedWord_any (W : World) (s : ByteArray) (k : Nat) (hs : s.size ≤ 1000000000) (hk : k < s.size) :
    Calls Tryz.prog 71 #[.string s, .int .i64 (k : Int)] W fun e W' => QwPost W k s.data.toList e W' := by
  have HU := unquoted_any W s k hs hk
  have hle := T.unq_le (s.data.toList.drop (k + 1))
  rw [List.length_drop, size_list] at hle
  have b2 : (s.size : Int) ≤ 1000000000 := by omega
  have HP : Hid (∀ e W', QwPost W k s.data.toList e W' = (Below W.heap.size W W' ∧ match T.unq (s.data.toList.drop (k + 1)) with
    | .inl x => e = brk (k + 1 + x)
    | .inr (b, n) => e = if T.parted (s.data.toList.drop (k + 1 + n)) then .returned (.tuple #[.string ⟨b.toArray⟩, .int .i64 ((k + 1 + n : Nat) : Int)]) else brk (k + 1 + n))) := fun _ _ => rfl
  cases hq : T.unq (s.data.toList.drop (k + 1)) with
  | inl x =>
    rw [hq] at HU hle
    have HP2 : Hid (∀ W', Below W.heap.size W W' → QwPost W k s.data.toList (brk (k + 1 + x)) W') := hid (fun W' h => by rw [HP.out, hq]; exact ⟨h, rfl⟩)
    clear HP hq
    have HU2 : Hid (Calls Tryz.prog 49 #[.string s, .int .i64 (k : Int)] W fun e W' => e = .panicked [{ v := .iface 81 (.int .i64 ((k + 1 + x : Nat) : Int)), recovered := false }] ∧ Below W.heap.size W W') := HU
    clear HU
    go_enter Tryz.func71, Tryz.ntmps71
    go_wp2_with fail
    refine HU2.out.mono ?_
    rintro e w1 ⟨rfl, hb⟩
    go_wp2_with fail
    exact ⟨rfl, HP2.out _ hb⟩
  | inr y =>
    obtain ⟨b, n⟩ := y
    rw [hq] at HU hle
    obtain ⟨hle1, hle2⟩ := hle
    have HU2 : Hid (Calls Tryz.prog 49 #[.string s, .int .i64 (k : Int)] W fun e W' => ∃ v, e = .returned (.tuple #[v, .int .i64 ((k + 1 + n : Nat) : Int)]) ∧ HB W W' v b) := HU
    clear HU
    have HP2 : Hid (∀ e W', Below W.heap.size W W' → (e = if T.parted (s.data.toList.drop (k + 1 + n)) then .returned (.tuple #[.string ⟨b.toArray⟩, .int .i64 ((k + 1 + n : Nat) : Int)]) else brk (k + 1 + n)) → QwPost W k s.data.toList e W') := hid (fun e W' h h2 => by rw [HP.out, hq]; exact ⟨h, h2⟩)
    clear HP hq
    generalize hm : k + 1 + n = m at *
    have hm1 : m ≤ s.size := by omega
    have c1 : (m : Int) ≤ (s.size : Int) := by omega
    clear hm hle1 hle2
    by_cases hlt : m < s.size
    · have c2 : (m : Int) < (s.size : Int) := by omega
      have HG := gap_any s[m]
      have hpt := parted_at s m hlt
      cases hg : T.isGap s[m] with
      | true =>
        rw [hg] at HG hpt
        have HF : Hid (∀ W', Below W.heap.size W W' → QwPost W k s.data.toList (.returned (.tuple #[.string ⟨b.toArray⟩, .int .i64 (m : Int)])) W') := hid (fun W' h => HP2.out _ W' h (by rw [hpt]; rfl))
        clear HP2 hpt hg
        go_enter Tryz.func71, Tryz.ntmps71
        go_wp2_with fail
        refine HU2.out.mono ?_
        rintro e w1 ⟨v, rfl, F⟩
        obtain ⟨ao, cc, rfl, hcv⟩ := F.conv
        go_wp2_with fail
        refine (HG _).mono ?_
        rintro e w' ⟨rfl, rfl⟩
        go_wp2_with fail
        go_ret2
        exact HF.out _ F.below
      | false =>
        rw [hg] at HG hpt
        have HF : Hid (∀ W', Below W.heap.size W W' → QwPost W k s.data.toList (.panicked [{ v := .iface 81 (.int .i64 (m : Int)), recovered := false }]) W') := hid (fun W' h => HP2.out _ W' h (by rw [hpt]; rfl))
        clear HP2 hpt hg
        go_enter Tryz.func71, Tryz.ntmps71
        go_wp2_with fail
        refine HU2.out.mono ?_
        rintro e w1 ⟨v, rfl, F⟩
        go_wp2_with fail
        refine (HG _).mono ?_
        rintro e w' ⟨rfl, rfl⟩
        go_wp2_with fail
        exact ⟨rfl, HF.out _ F.below⟩
    · have c2 : (s.size : Int) ≤ (m : Int) := by omega
      have hpt := parted_end s m (by omega)
      have HF : Hid (∀ W', Below W.heap.size W W' → QwPost W k s.data.toList (.returned (.tuple #[.string ⟨b.toArray⟩, .int .i64 (m : Int)])) W') := hid (fun W' h => HP2.out _ W' h (by rw [hpt]; rfl))
      clear HP2 hpt
      go_enter Tryz.func71, Tryz.ntmps71
      go_wp2_with fail
      refine HU2.out.mono ?_
      rintro e w1 ⟨v, rfl, F⟩
      obtain ⟨ao, cc, rfl, hcv⟩ := F.conv
      go_wp2_with fail
      go_ret2
      exact HF.out _ F.below

theorem extract_eq (s : ByteArray) (k p : Nat) : s.extract k p = ⟨((s.data.toList.drop k).take (p - k)).toArray⟩ := by
  have : (s.extract k p).data = ((s.data.toList.drop k).take (p - k)).toArray := by
    rw [ByteArray.data_extract]
    apply Array.toList_inj.1
    simp
  cases h : s.extract k p with
  | mk d => rw [h] at this; simp at this; rw [this]
theorem clone_any (w : World) (s : ByteArray) (hs : s.size ≤ 1000000000) : Calls Tryz.prog 44 #[.string s] w fun e w' => e = .returned (.string s) ∧ Below w.heap.size w w' := by
  have H : Hid (Calls Tryz.prog 70 #[.string s] w fun e w' => e = .returned (.string s) ∧ Below w.heap.size w w') := Tryz.stringslite_Clone s w (by omega)
  go_enter Tryz.func44, Tryz.ntmps44
  go_wp2_with (first | (go_at_call 70; refine H.out.mono ?_; rintro e w' ⟨rfl, hb⟩))
  go_ret
  exact ⟨rfl, hb⟩
theorem ret_pw {a b : ByteArray} {m n : Int} (h1 : a = b) (h2 : m = n) : Ending.returned (.tuple #[.string a, .int .i64 m]) = .returned (.tuple #[.string b, .int .i64 n]) := by rw [h1, h2]
set_option maxHeartbeats 1000000 in
theorem plainWord_any (W : World) (s : ByteArray) (k : Nat) (hs : s.size ≤ 1000000000) (hk : k < s.size) :
    Calls Tryz.prog 72 #[.string s, .int .i64 (k : Int)] W fun e W' => e = .returned (.tuple #[.string ⟨((s.data.toList.drop k).take (T.plainN (s.data.toList.drop k))).toArray⟩, .int .i64 ((k + T.plainN (s.data.toList.drop k) : Nat) : Int)]) ∧ Below W.heap.size W W' := by
  have b1 : (k : Int) < (s.size : Int) := by omega
  have b2 : (s.size : Int) ≤ 1000000000 := by omega
  have hex : ∀ p, (s.extract k p).size ≤ 1000000000 := fun p => by rw [extract_eq]; show (List.toArray _).size ≤ _; simp; have : s.data.size = s.size := rfl; omega
  go_enter Tryz.func72, Tryz.ntmps72
  go_wp2_with fail
  go_loopw [5] (fun i wr => ∃ p : Nat, k ≤ p ∧ p ≤ s.size ∧ i = .int .i64 p ∧ Hid (T.plainN (s.data.toList.drop k) = p - k + T.plainN (s.data.toList.drop p)) ∧ W = wr) (fun i _ => s.size - (intOf i).toNat)
  case atStart => exact ⟨k, Nat.le_refl _, by omega, rfl, hid (by omega), rfl⟩
  case round =>
    obtain ⟨p, hp1, hp2, rfl, R, rfl⟩ := hrel
    have c1 : (p : Int) ≤ (s.size : Int) := by omega
    have c2 : (k : Int) ≤ (p : Int) := by omega
    by_cases hlt : p < s.size
    · have c3 : (p : Int) < (s.size : Int) := by omega
      have HG := gap_any s[p]
      cases hg : T.isGap s[p] with
      | true =>
        have HF : Hid (T.plainN (s.data.toList.drop k) = p - k) := hid (by
          rw [R.out, drop_get s p hlt]
          simp [T.plainN, hg])
        rw [hg] at HG
        clear R hg
        go_wp2_with fail
        refine (HG _).mono ?_
        rintro e w' ⟨rfl, rfl⟩
        go_wp2_with fail
        refine (clone_any _ _ (hex p)).mono ?_
        rintro e w1 ⟨rfl, hb⟩
        go_wp2_with fail
        go_ret2
        exact ⟨ret_pw (by rw [extract_eq, HF.out]) (by rw [HF.out]; omega), hb⟩
      | false =>
        have HF : Hid (T.plainN (s.data.toList.drop k) = p + 1 - k + T.plainN (s.data.toList.drop (p + 1))) := hid (by
          rw [R.out, drop_get s p hlt, T.plainN_pos _ hg]
          omega)
        rw [hg] at HG
        clear R hg
        go_wp2_with fail
        refine (HG _).mono ?_
        rintro e w' ⟨rfl, rfl⟩
        go_wp2_with fail
        go_roundw
        case rel => exact ⟨p + 1, by omega, by omega, by go_num, HF, trivial⟩
        case measure => simp [intOf]; omega
    · obtain rfl : p = s.size := by omega
      have HF : Hid (T.plainN (s.data.toList.drop k) = s.size - k) := hid (by
        rw [R.out, List.drop_eq_nil_of_le (by rw [size_list]; exact Nat.le_refl _)]
        simp [T.plainN])
      clear R
      go_wp2_with fail
      refine (clone_any _ _ (hex _)).mono ?_
      rintro e w1 ⟨rfl, hb⟩
      go_wp2_with fail
      go_ret2
      exact ⟨ret_pw (by rw [extract_eq, HF.out]) (by rw [HF.out]; omega), hb⟩
end Go.Proofs.YtbjinmlelchmgaaGreatDoor
