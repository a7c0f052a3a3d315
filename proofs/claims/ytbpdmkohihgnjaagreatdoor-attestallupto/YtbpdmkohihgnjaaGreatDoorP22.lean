import Derived.Test.YtbpdmkohihgnjaaGreatDoorP20
import Derived.Test.YtbpdmkohihgnjaaGreatDoorP16
import Derived.Test.YtbpdmkohihgnjaaGreatDoorP04
import Derived.Test.YtbpdmkohihgnjaaGreatDoorP21
namespace Go.Proofs.YtbpdmkohihgnjaaGreatDoor.L
open Go.RowKit
def AtB (W : World) (ao : Option Addr) (l : List UInt8) : Prop := l = [] ∨ ∃ b off, ao = some ⟨b, off, none⟩ ∧ b < W.heap.size ∧ ∀ i (h : i < l.length), W.cell? ⟨b, off + i, none⟩ = some (.int .u8 (l[i].toNat : Int))
theorem hexD_at (n : Nat) (h : n < 16) (hp : n < (⟨#[48, 49, 50, 51, 52, 53, 54, 55, 56, 57, 97, 98, 99, 100, 101, 102]⟩ : ByteArray).size) : ((⟨#[48, 49, 50, 51, 52, 53, 54, 55, 56, 57, 97, 98, 99, 100, 101, 102]⟩ : ByteArray)[n]'hp) = T.hexD n := by
  revert n
  decide +kernel

theorem HB.drew {W wr : World} {v : Value} {l : List UInt8} (h : HB W wr v l) : HB W wr.drew v l := ⟨h.own, h.below.drew⟩
theorem HB.conv {W w : World} {v : Value} {l : List UInt8} (h : HB W w v l) : ∃ ao cap, v = .slice ao l.length cap ∧ (convert 124 9 (.slice ao l.length cap)).run Tryz.prog w = .ok (.string ⟨l.toArray⟩) w := by
  rcases h.own.2 with ⟨hv, h0⟩ | ⟨g, cap, cur, hv, _⟩
  · have hl : l = [] := List.eq_nil_of_length_eq_zero h0
    refine ⟨none, 0, by rw [hv, h0], ?_⟩
    rw [hl, List.length_nil, run_convert_bytes_string (P := Tryz.prog) w 124 9 5 none 0 0 Tryz.underlying124 Tryz.underlying5 Tryz.underlying9]
    rfl
  · exact ⟨some ⟨g, 0, none⟩, cap, hv, run_convert_bytes_back (P := Tryz.prog) w 124 9 5 ⟨g, 0, none⟩ cap l Tryz.underlying124 Tryz.underlying5 Tryz.underlying9 (fun j hj => h.own.cells (g := g) (by rw [hv]; rfl) j _ (by simp [Lib.byteCells, hj]))⟩
end Go.Proofs.YtbpdmkohihgnjaaGreatDoor.L
namespace Go.Proofs
open Go.RowKit
theorem Tryz.stringslite_Clone (s : ByteArray) (w : World) (hlim : s.size ≤ 281474976710656) :
    Calls Tryz.prog 69 #[.string s] w fun e w' => e = .returned (.string s) ∧ Below w.heap.size w w' := YtbpdmkohihgnjaaGreatDoor.clone70 s w hlim
end Go.Proofs
namespace Go.Proofs.YtbpdmkohihgnjaaGreatDoor.L
open Go.RowKit

theorem parted_at (s : ByteArray) (k : Nat) (h : k < s.size) : T.parted (s.data.toList.drop k) = T.isGap s[k] := by rw [drop_get s k h]; rfl
theorem parted_end (s : ByteArray) (k : Nat) (h : s.size ≤ k) : T.parted (s.data.toList.drop k) = true := by rw [List.drop_eq_nil_of_le (by rw [size_list]; exact h)]; rfl

def QwPost (W : World) (k : Nat) (l : List UInt8) (e : Ending) (W' : World) : Prop :=
  Below W.heap.size W W' ∧ match T.unq (l.drop (k + 1)) with
  | .inl x => e = brk (k + 1 + x)
  | .inr (b, n) => e = if T.parted (l.drop (k + 1 + n)) then .returned (.tuple #[.string ⟨b.toArray⟩, .int .i64 ((k + 1 + n : Nat) : Int)]) else brk (k + 1 + n)

set_option maxHeartbeats 1000000 in
theorem quotedWord_any (W : World) (s : ByteArray) (k : Nat) (hs : s.size ≤ 1000000000) (hk : k < s.size) :
    Calls Tryz.prog 91 #[.string s, .int .i64 (k : Int)] W fun e W' => QwPost W k s.data.toList e W' := by
  have HU := unquoted_any W s k hs hk
  have hle := T.unq_le (s.data.toList.drop (k + 1))
  rw [List.length_drop, size_list] at hle
  have b2 : (s.size : Int) ≤ 1000000000 := by omega
  have HP : Hid (∀ e W', QwPost W k s.data.toList e W' = (Below W.heap.size W W' ∧ match T.unq (s.data.toList.drop (k + 1)) with
    | .inl x => e = brk (k + 1 + x)
    | .inr (b, n) => e = if T.parted (s.data.toList.drop (k + 1 + n)) then .returned (.tuple #[.string ⟨b.toArray⟩, .int .i64 ((k + 1 + n : Nat) : Int)]) else brk (k + 1 + n))) := fun _ _ => rfl
  cases hq : T.unq (s.data.toList.drop (k + 1)) with
  | inl x =>
    rw [hq] at HU hle
    have HP2 : Hid (∀ W', Below W.heap.size W W' → QwPost W k s.data.toList (brk (k + 1 + x)) W') := hid (fun W' h => by rw [HP.out, hq]; exact ⟨h, rfl⟩)
    clear HP hq
    have HU2 : Hid (Calls Tryz.prog 108 #[.string s, .int .i64 (k : Int)] W fun e W' => e = .panicked [{ v := .iface 176 (.int .i64 ((k + 1 + x : Nat) : Int)), recovered := false }] ∧ Below W.heap.size W W') := HU
    clear HU
    go_enter Tryz.func91, Tryz.ntmps91
    go_wp2_with fail
    refine HU2.out.mono ?_
    rintro e w1 ⟨rfl, hb⟩
    go_wp2_with fail
    exact ⟨rfl, HP2.out _ hb⟩
  | inr y =>
    obtain ⟨b, n⟩ := y
    rw [hq] at HU hle
    obtain ⟨hle1, hle2⟩ := hle
    have HU2 : Hid (Calls Tryz.prog 108 #[.string s, .int .i64 (k : Int)] W fun e W' => ∃ v, e = .returned (.tuple #[v, .int .i64 ((k + 1 + n : Nat) : Int)]) ∧ HB W W' v b) := HU
    clear HU
    have HP2 : Hid (∀ e W', Below W.heap.size W W' → (e = if T.parted (s.data.toList.drop (k + 1 + n)) then .returned (.tuple #[.string ⟨b.toArray⟩, .int .i64 ((k + 1 + n : Nat) : Int)]) else brk (k + 1 + n)) → QwPost W k s.data.toList e W') := hid (fun e W' h h2 => by rw [HP.out, hq]; exact ⟨h, h2⟩)
    clear HP hq
    generalize hm : k + 1 + n = m at *
    have hm1 : m ≤ s.size := by omega
    have c1 : (m : Int) ≤ (s.size : Int) := by omega
    clear hm hle1 hle2
    by_cases hlt : m < s.size
    · have c2 : (m : Int) < (s.size : Int) := by omega
      have HG := gap_any s[m]
      have hpt := parted_at s m hlt
      cases hg : T.isGap s[m] with
      | true =>
        rw [hg] at HG hpt
        have HF : Hid (∀ W', Below W.heap.size W W' → QwPost W k s.data.toList (.returned (.tuple #[.string ⟨b.toArray⟩, .int .i64 (m : Int)])) W') := hid (fun W' h => HP2.out _ W' h (by rw [hpt]; rfl))
        clear HP2 hpt hg
        go_enter Tryz.func91, Tryz.ntmps91
        go_wp2_with fail
        refine HU2.out.mono ?_
        rintro e w1 ⟨v, rfl, F⟩
        obtain ⟨ao, cc, rfl, hcv⟩ := F.conv
        go_wp2_with fail
        refine (HG _).mono ?_
        rintro e w' ⟨rfl, rfl⟩
        go_wp2_with fail
        go_ret2
        exact HF.out _ F.below
      | false =>
        rw [hg] at HG hpt
        have HF : Hid (∀ W', Below W.heap.size W W' → QwPost W k s.data.toList (.panicked [{ v := .iface 176 (.int .i64 (m : Int)), recovered := false }]) W') := hid (fun W' h => HP2.out _ W' h (by rw [hpt]; rfl))
        clear HP2 hpt hg
        go_enter Tryz.func91, Tryz.ntmps91
        go_wp2_with fail
        refine HU2.out.mono ?_
        rintro e w1 ⟨v, rfl, F⟩
        go_wp2_with fail
        refine (HG _).mono ?_
        rintro e w' ⟨rfl, rfl⟩
        go_wp2_with fail
        exact ⟨rfl, HF.out _ F.below⟩
    · have c2 : (s.size : Int) ≤ (m : Int) := by omega
      have hpt := parted_end s m (by omega)
      have HF : Hid (∀ W', Below W.heap.size W W' → QwPost W k s.data.toList (.returned (.tuple #[.string ⟨b.toArray⟩, .int .i64 (m : Int)])) W') := hid (fun W' h => HP2.out _ W' h (by rw [hpt]; rfl))
      clear HP2 hpt
      go_enter Tryz.func91, Tryz.ntmps91
      go_wp2_with fail
      refine HU2.out.mono ?_
      rintro e w1 ⟨v, rfl, F⟩
      obtain ⟨ao, cc, rfl, hcv⟩ := F.conv
      go_wp2_with fail
      go_ret2
      exact HF.out _ F.below

theorem extract_eq (s : ByteArray) (k p : Nat) : s.extract k p = ⟨((s.data.toList.drop k).take (p - k)).toArray⟩ := by
  have : (s.extract k p).data = ((s.data.toList.drop k).take (p - k)).toArray := by
    rw [ByteArray.data_extract]
    apply Array.toList_inj.1
    simp
  cases h : s.extract k p with
  | mk d => rw [h] at this; simp at this; rw [this]
theorem clone_any (w : World) (s : ByteArray) (hs : s.size ≤ 1000000000) : Calls Tryz.prog 42 #[.string s] w fun e w' => e = .returned (.string s) ∧ Below w.heap.size w w' := by
  have H : Hid (Calls Tryz.prog 69 #[.string s] w fun e w' => e = .returned (.string s) ∧ Below w.heap.size w w') := Tryz.stringslite_Clone s w (by omega)
  go_enter Tryz.func42, Tryz.ntmps42
  go_wp2_with (first | (go_at_call 69; refine H.out.mono ?_; rintro e w' ⟨rfl, hb⟩))
  go_ret
  exact ⟨rfl, hb⟩
theorem ret_pw {a b : ByteArray} {m n : Int} (h1 : a = b) (h2 : m = n) : Ending.returned (.tuple #[.string a, .int .i64 m]) = .returned (.tuple #[.string b, .int .i64 n]) := by rw [h1, h2]
set_option maxHeartbeats 1000000 in
theorem plainWord_any (W : World) (s : ByteArray) (k : Nat) (hs : s.size ≤ 1000000000) (hk : k < s.size) :
    Calls Tryz.prog 92 #[.string s, .int .i64 (k : Int)] W fun e W' => e = .returned (.tuple #[.string ⟨((s.data.toList.drop k).take (T.plainN (s.data.toList.drop k))).toArray⟩, .int .i64 ((k + T.plainN (s.data.toList.drop k) : Nat) : Int)]) ∧ Below W.heap.size W W' := by
  have b1 : (k : Int) < (s.size : Int) := by omega
  have b2 : (s.size : Int) ≤ 1000000000 := by omega
  have hex : ∀ p, (s.extract k p).size ≤ 1000000000 := fun p => by rw [extract_eq]; show (List.toArray _).size ≤ _; simp; have : s.data.size = s.size := rfl; omega
  go_enter Tryz.func92, Tryz.ntmps92
  go_wp2_with fail
  go_loopw [5] (fun i wr => ∃ p : Nat, k ≤ p ∧ p ≤ s.size ∧ i = .int .i64 p ∧ Hid (T.plainN (s.data.toList.drop k) = p - k + T.plainN (s.data.toList.drop p)) ∧ W = wr) (fun i _ => s.size - (intOf i).toNat)
  case atStart => exact ⟨k, Nat.le_refl _, by omega, rfl, hid (by omega), rfl⟩
  case round =>
    obtain ⟨p, hp1, hp2, rfl, R, rfl⟩ := hrel
    have c1 : (p : Int) ≤ (s.size : Int) := by omega
    have c2 : (k : Int) ≤ (p : Int) := by omega
    by_cases hlt : p < s.size
    · have c3 : (p : Int) < (s.size : Int) := by omega
      have HG := gap_any s[p]
      cases hg : T.isGap s[p] with
      | true =>
        have HF : Hid (T.plainN (s.data.toList.drop k) = p - k) := hid (by
          rw [R.out, drop_get s p hlt]
          simp [T.plainN, hg])
        rw [hg] at HG
        clear R hg
        go_wp2_with fail
        refine (HG _).mono ?_
        rintro e w' ⟨rfl, rfl⟩
        go_wp2_with fail
        refine (clone_any _ _ (hex p)).mono ?_
        rintro e w1 ⟨rfl, hb⟩
        go_wp2_with fail
        go_ret2
        exact ⟨ret_pw (by rw [extract_eq, HF.out]) (by rw [HF.out]; omega), hb⟩
      | false =>
        have HF : Hid (T.plainN (s.data.toList.drop k) = p + 1 - k + T.plainN (s.data.toList.drop (p + 1))) := hid (by
          rw [R.out, drop_get s p hlt, T.plainN_pos _ hg]
          omega)
        rw [hg] at HG
        clear R hg
        go_wp2_with fail
        refine (HG _).mono ?_
        rintro e w' ⟨rfl, rfl⟩
        go_wp2_with fail
        go_roundw
        case rel => exact ⟨p + 1, by omega, by omega, by go_num, HF, trivial⟩
        case measure => simp [intOf]; omega
    · obtain rfl : p = s.size := by omega
      have HF : Hid (T.plainN (s.data.toList.drop k) = s.size - k) := hid (by
        rw [R.out, List.drop_eq_nil_of_le (by rw [size_list]; exact Nat.le_refl _)]
        simp [T.plainN])
      clear R
      go_wp2_with fail
      refine (clone_any _ _ (hex _)).mono ?_
      rintro e w1 ⟨rfl, hb⟩
      go_wp2_with fail
      go_ret2
      exact ⟨ret_pw (by rw [extract_eq, HF.out]) (by rw [HF.out]; omega), hb⟩
end Go.Proofs.YtbpdmkohihgnjaaGreatDoor.L
namespace Go.Proofs.YtbpdmkohihgnjaaGreatDoor.L
open Go.RowKit

theorem Tryz.info106 : (Tryz.prog.info? 106).map (fun i => (i.zero, i.size, i.bytes)) = some (some (.agg #[.string ⟨#[]⟩, .bool false, .int .i64 0]), 3, 32) := by kernel_rfl
def wdC (w : T.Wd) : List Value := [.string ⟨w.text.toArray⟩, .bool w.quoted, .int .i64 (w.col : Int)]
def wdsC (ws : List T.Wd) : List Value := (ws.map wdC).flatten
theorem wdsC_append (a b : List T.Wd) : wdsC (a ++ b) = wdsC a ++ wdsC b := by simp [wdsC]
structure HW (W wr : World) (v : Value) (ws : List T.Wd) : Prop where
  own : wr.ownsRow W.heap.size 106 3 v ws.length (wdsC ws)
  below : Below W.heap.size W wr
theorem HW.start (W : World) : HW W W (.slice none 0 0) [] := ⟨World.ownsRow_nil W _ 106 3, Below.refl _ _⟩
theorem HW.alloc {W wr : World} {v : Value} {l : List T.Wd} (h : HW W wr v l) (o : Obj) : HW W (wr.alloc o) v l := ⟨h.own.alloc o, h.below.alloc h.below.size o⟩
theorem HW.on {W wr w : World} {v : Value} {l : List T.Wd} (h : HW W wr v l) (hb : Below wr.heap.size wr w) : HW W w v l := ⟨own_below h.own hb, h.below.trans (hb.mono h.below.size)⟩
theorem HW.set {W wr : World} {v : Value} {l : List T.Wd} (h : HW W wr v l) (a : Addr) (ha : W.heap.size ≤ a.block) (hn : ∀ g, v.ownBlock = some g → g ≠ a.block) (u : Value) : HW W (wr.setCell a u) v l := by
  refine ⟨⟨h.own.1, h.own.2.imp id fun ⟨g, cap, cur, hv, hb, hg, r⟩ => ⟨g, cap, cur, hv, hb, ?_, r⟩⟩, h.below.setCell ha u⟩
  rw [Below.heap_setCell _ _ _ _ (hn g (by rw [hv]; rfl))]
  exact hg
theorem wpList_append_words {P : Program} {W w : World} {ops : Array Oper} {rest : List Oper} {o : Oper} {a : Act} {Q : Exit → Act → World → Prop} (hgd : o.guard = none) (s x : Operand) (t : TypeId)
    (ho : o.op = .call { callee := .builtin .append, args := #[s, x], argTypes := #[t, t] }) (i : TypeInfo) (ht : P.underlying t = some (.slice 106)) (hi : P.info? 106 = some i) (hz : i.zero = some (.agg #[.string ⟨#[]⟩, .bool false, .int .i64 0])) (hsize : i.size = 3) (hby : i.bytes = 32)
    (v : Value) (l : List T.Wd) (hs : a.eval s = v) (H : HW W w v l) (ad : Addr) (c : Nat) (m : T.Wd) (hx : a.eval x = .slice (some ad) 1 c) (hc : ∀ j u, (wdC m)[j]? = some u → w.cell? (ad.add j) = some u) (h63 : l.length ≤ 1000000000)
    (h : ∀ v' w', HW W w' v' (l ++ [m]) → wpList P ops Q rest (a.put o.dst v') w') : wpList P ops Q (o :: rest) a w := by
  obtain ⟨v', w', hr, h1, h2, _⟩ := run_append_own (P := P) w W.heap.size t o.type 106 i _ 3 32 ht hi hz hsize hby rfl (by decide) v l.length _ H.own ad 1 c (wdC m) rfl hc (by simp [wdC, Value.oneCell']) (by unfold maxLen; omega) (by omega) H.below.size
  refine wpList_plain hgd fun K hK => ?_
  unfold Oper.wp execOp
  simp only [ho, resolve, invoke, builtin, Sem.run_bind, Sem.run_pure, Result.andThen_ok, List.map_toArray, List.map_cons, List.map_nil, hs, hx, hr]
  refine hK _ _ (h _ _ ⟨?_, H.below.grown h2 H.below.size fun g hg => (H.own.lt g hg).1⟩)
  rw [wdsC_append, List.length_append]
  simpa [wdsC] using h1
theorem size_setCell (w : World) (a : Addr) (u : Value) : (w.setCell a u).heap.size = w.heap.size := by simp [World.setCell]
theorem cells_new3 (W : World) (e : TypeId) (C : Array Value) (L : List Value) (hC : C = L.toArray) : ∀ j u, L[j]? = some u → (W.alloc (.cells C e)).cell? ((⟨W.heap.size, 0, none⟩ : Addr).add j) = some u := by
  intro j u hu
  subst hC
  rw [Addr.add_mid, World.cell?_alloc_new, Nat.zero_add]
  simpa using hu

theorem cells_set3 (w : World) (a : Addr) (u' : Value) (C : Array Value) (L : List Value) (hC : C = L.toArray) : ∀ j u, L[j]? = some u → ((w.setCell a u').alloc (.cells C 106)).cell? ((⟨w.heap.size, 0, none⟩ : Addr).add j) = some u := by
  have := cells_new3 (w.setCell a u') 106 C L hC
  rw [size_setCell] at this
  exact this
theorem HW.struct {W wr w1 : World} {v : Value} {ws : List T.Wd} (F : HW W wr v ws) (a b c : Value)
    (hb : Below (wr.alloc (.cells #[a, b, c] 106)).heap.size (wr.alloc (.cells #[a, b, c] 106)) w1) :
    w1.cell? ⟨wr.heap.size, 0, none⟩ = some a ∧ w1.cell? ⟨wr.heap.size, 1, none⟩ = some b ∧ w1.cell? ⟨wr.heap.size, 2, none⟩ = some c ∧ (∀ o, w1.frozen? ⟨wr.heap.size, o, none⟩ = false) ∧ (∀ u, HW W (w1.setCell ⟨wr.heap.size, 0, none⟩ u) v ws) := by
  have hlt : wr.heap.size < (wr.alloc (.cells #[a, b, c] 106)).heap.size := by simp
  refine ⟨?_, ?_, ?_, fun o => ?_, fun u => ((F.alloc _).on hb).set _ F.below.size (fun g hg => ?_) u⟩
  · rw [hb.cell (p := ⟨wr.heap.size, 0, none⟩) hlt]; simp [go_sem]
  · rw [hb.cell (p := ⟨wr.heap.size, 1, none⟩) hlt]; simp [go_sem]
  · rw [hb.cell (p := ⟨wr.heap.size, 2, none⟩) hlt]; simp [go_sem]
  · rw [hb.frozen (p := ⟨wr.heap.size, o, none⟩) hlt]; simp [go_sem]
  · have := (F.own.lt g hg).2
    show g ≠ wr.heap.size
    omega

def RdPost (W : World) (r : Nat ⊕ List T.Wd) (e : Ending) (W' : World) : Prop :=
  match r with
  | .inl x => e = brk x ∧ Below W.heap.size W W'
  | .inr ws => ∃ v, e = .returned v ∧ HW W W' v ws
theorem RdPost.bad {W W' : World} {x p : Nat} {r : Nat ⊕ List T.Wd} (hr : r = .inl x) (hp : p = x) (hb : Below W.heap.size W W') : RdPost W r (.panicked [{ v := .iface 176 (.int .i64 (p : Int)), recovered := false }]) W' := by
  subst hr hp; exact ⟨rfl, hb⟩
theorem RdPost.good {W W' : World} {r : Nat ⊕ List T.Wd} {ws : List T.Wd} {v : Value} (hr : r = .inr ws) (hb : HW W W' v ws) : RdPost W r (.returned v) W' := by
  subst hr; exact ⟨_, rfl, hb⟩
set_option maxRecDepth 20000 in
set_option maxHeartbeats 2000000 in
theorem read_any (W : World) (s : ByteArray) (hs : s.size ≤ 1000000000) :
    Calls Tryz.prog 72 #[.string s] W fun e W' => RdPost W (T.rd s.data.toList 0) e W' := by
  obtain ⟨i0, hi, hz0, hz1, hz2⟩ := info_parts Tryz.info106
  generalize hr0 : T.rd s.data.toList 0 = r0
  have b2 : (s.size : Int) ≤ 1000000000 := by omega
  have HR : Hid (T.rd s.data.toList 0 = r0) := hr0
  clear hr0
  go_enter Tryz.func72, Tryz.ntmps72
  go_wp2
  go_step3
  go_wp2
  go_step3
  go_wp2
  go_loopw [2, 3, 4] (fun v i _ wr => ∃ (p : Nat) (ws : List T.Wd), p ≤ s.size ∧ i = .int .i64 p ∧ ws.length ≤ p ∧ HW W wr v ws ∧ Hid (r0 = T.pre ws (T.rd (s.data.toList.drop p) p))) (fun _ i _ _ => s.size - (intOf i).toNat)
  case atStart => exact ⟨0, [], Nat.zero_le _, rfl, Nat.le_refl _, HW.start W, hid (by rw [T.pre_nil]; exact HR.out.symm)⟩
  case round =>
    clear HR
    obtain ⟨p, ws, hp, rfl, hl, F, R⟩ := hrel
    have c1 : (p : Int) ≤ (s.size : Int) := by omega
    by_cases hlt : p < s.size
    · have c2 : (p : Int) < (s.size : Int) := by omega
      have hd := drop_get s p hlt
      by_cases h32 : s[p].toNat = 32
      · have e1 : ((s[p].toNat : Int) == 32) = true := by rw [h32]; rfl
        have H : Hid (r0 = T.pre ws (T.rd (s.data.toList.drop (p + 1)) (p + 1))) := hid (by
          rw [R.out, hd, T.rd_gap _ _ (by simp [T.isGap, h32])])
        clear R hd h32
        go_wp2_with fail
        exact ⟨⟨p + 1, ws, by omega, by go_num, by omega, F.alloc _, H⟩, by simp [intOf]; omega⟩
      · have e1 : ((s[p].toNat : Int) == 32) = false := by simp; omega
        by_cases h9 : s[p].toNat = 9
        · have e2 : ((s[p].toNat : Int) == 9) = true := by rw [h9]; rfl
          have H : Hid (r0 = T.pre ws (T.rd (s.data.toList.drop (p + 1)) (p + 1))) := hid (by
            rw [R.out, hd, T.rd_gap _ _ (by simp [T.isGap, h9])])
          clear R hd h32 h9
          go_wp2_with fail
          exact ⟨⟨p + 1, ws, by omega, by go_num, by omega, F.alloc _, H⟩, by simp [intOf]; omega⟩
        · have e2 : ((s[p].toNat : Int) == 9) = false := by simp; omega
          have hgap : T.isGap s[p] = false := by simp [T.isGap, h32, h9]
          by_cases h35 : s[p].toNat = 35
          · have e3 : ((s[p].toNat : Int) == 35) = true := by rw [h35]; rfl
            have H : Hid (r0 = .inr ws) := hid (by
              rw [R.out, hd, T.rd_hash _ _ hgap h35]
              simp [T.pre])
            clear R hd h32 h9 h35 hgap
            go_wp2_with fail
            go_ret
            exact RdPost.good H.out (F.alloc _)
          · have e3 : ((s[p].toNat : Int) == 35) = false := by simp; omega
            by_cases h34 : s[p].toNat = 34
            · have e4 : ((s[p].toNat : Int) == 34) = true := by rw [h34]; rfl
              have HQ := fun w => quotedWord_any w s p hs hlt
              have hle := T.unq_le (s.data.toList.drop (p + 1))
              rw [List.length_drop, size_list] at hle
              cases hq : T.unq (s.data.toList.drop (p + 1)) with
              | inl x =>
                have H : Hid (r0 = .inl (p + 1 + x)) := hid (by
                  rw [R.out, hd, T.rd_bad _ _ x hgap h34 hq]
                  rfl)
                have HQ2 : Hid (∀ w, Calls Tryz.prog 91 #[.string s, .int .i64 (p : Int)] w fun e W' => Below w.heap.size w W' ∧ e = .panicked [{ v := .iface 176 (.int .i64 ((p + 1 + x : Nat) : Int)), recovered := false }]) := hid (fun w => by
                  refine (HQ w).mono ?_
                  intro e W' h
                  unfold QwPost at h
                  rw [hq] at h
                  exact h)
                clear R hd h32 h9 h35 hgap h34 hq HQ hle
                go_wp2_with fail
                refine (HQ2.out _).mono ?_
                rintro e w1 ⟨hb, rfl⟩
                go_wp2_with fail
                exact ⟨rfl, RdPost.bad H.out rfl ((F.alloc _).on hb).below⟩
              | inr y =>
                obtain ⟨b, n⟩ := y
                rw [hq] at hle
                obtain ⟨hle1, hle2⟩ := hle
                cases hpt : T.parted (s.data.toList.drop (p + 1 + n)) with
                | false =>
                  have H : Hid (r0 = .inl (p + 1 + n)) := hid (by
                    rw [R.out, hd, T.rd_joined _ b _ n hgap h34 hq (by rw [List.drop_drop]; exact hpt)]
                    rfl)
                  have HQ2 : Hid (∀ w, Calls Tryz.prog 91 #[.string s, .int .i64 (p : Int)] w fun e W' => Below w.heap.size w W' ∧ e = .panicked [{ v := .iface 176 (.int .i64 ((p + 1 + n : Nat) : Int)), recovered := false }]) := hid (fun w => by
                    refine (HQ w).mono ?_
                    intro e W' h
                    unfold QwPost at h
                    rw [hq] at h
                    simp only [hpt] at h
                    exact h)
                  clear R hd h32 h9 h35 hgap h34 hq HQ hpt
                  go_wp2_with fail
                  refine (HQ2.out _).mono ?_
                  rintro e w1 ⟨hb, rfl⟩
                  go_wp2_with fail
                  exact ⟨rfl, RdPost.bad H.out rfl ((F.alloc _).on hb).below⟩
                | true =>
                  have H : Hid (r0 = T.pre (ws ++ [⟨b, true, p + 1⟩]) (T.rd (s.data.toList.drop (p + 1 + n)) (p + 1 + n))) := hid (by
                    rw [R.out, hd, T.rd_quoted _ b _ n hgap h34 hq (by rw [List.drop_drop]; exact hpt), T.pre_cons, List.drop_drop])
                  have HQ2 : Hid (∀ w, Calls Tryz.prog 91 #[.string s, .int .i64 (p : Int)] w fun e W' => Below w.heap.size w W' ∧ e = .returned (.tuple #[.string ⟨b.toArray⟩, .int .i64 ((p + 1 + n : Nat) : Int)])) := hid (fun w => by
                    refine (HQ w).mono ?_
                    intro e W' h
                    unfold QwPost at h
                    rw [hq] at h
                    simp only [hpt] at h
                    exact h)
                  have d1 : p + 1 + n ≤ s.size := by omega
                  have d2 : p < p + 1 + n := by omega
                  generalize p + 1 + n = m at *
                  clear R hd h32 h9 h35 hgap h34 hq HQ hpt hle1 hle2
                  go_wp2_with fail
                  refine (HQ2.out _).mono ?_
                  rintro e w1 ⟨hb, rfl⟩
                  obtain ⟨k0, k1, k2, kz, FW⟩ := F.struct _ _ _ hb
                  clear hb F HQ2
                  have AC : Hid (∀ (a : Addr) (u' : Value), ∀ j u, (wdC ⟨b, true, p + 1⟩)[j]? = some u → ((w1.setCell a u').alloc (.cells #[.string ⟨b.toArray⟩, .bool true, .int .i64 ((p : Int) + 1)] 106)).cell? ((⟨w1.heap.size, 0, none⟩ : Addr).add j) = some u) := fun a u' => cells_set3 w1 a u' _ _ rfl
                  go_wp2_with (first | (at_builtin; refine wpList_append_words rfl _ _ _ rfl i0 Tryz.underlying101 hi hz0 hz1 hz2 _ _ rfl ((FW _).alloc _) _ _ ⟨b, true, p + 1⟩ rfl (AC.out _ _) (by omega) ?_))
                  intro v2 w2 F2
                  go_wp2_with fail
                  exact ⟨⟨m, _, by omega, by go_num, by simp; omega, F2, H⟩, by simp [intOf]; omega⟩
            · have e4 : ((s[p].toNat : Int) == 34) = false := by simp; omega
              have HQ := fun w => plainWord_any w s p hs hlt
              have hpl := T.plainN_pos (s.data.toList.drop (p + 1)) hgap
              rw [← hd] at hpl
              have hle := T.plainN_le (s.data.toList.drop p)
              rw [List.length_drop, size_list] at hle
              have H : Hid (r0 = T.pre (ws ++ [⟨(s.data.toList.drop p).take (T.plainN (s.data.toList.drop p)), false, p + 1⟩]) (T.rd (s.data.toList.drop (p + T.plainN (s.data.toList.drop p))) (p + T.plainN (s.data.toList.drop p)))) := hid (by
                rw [R.out]
                have := T.rd_plain (s.data.toList.drop (p + 1)) p hgap h35 h34
                rw [← hd] at this
                rw [this, T.pre_cons, List.drop_drop])
              generalize (s.data.toList.drop p).take (T.plainN (s.data.toList.drop p)) = b at *
              have d1 : p + T.plainN (s.data.toList.drop p) ≤ s.size := by omega
              have d2 : p < p + T.plainN (s.data.toList.drop p) := by omega
              generalize p + T.plainN (s.data.toList.drop p) = m at *
              have HQ2 : Hid (∀ w, Calls Tryz.prog 92 #[.string s, .int .i64 (p : Int)] w fun e W' => e = .returned (.tuple #[.string ⟨b.toArray⟩, .int .i64 (m : Int)]) ∧ Below w.heap.size w W') := HQ
              clear R hd h32 h9 h35 hgap h34 HQ hpl hle
              go_wp2_with fail
              refine (HQ2.out _).mono ?_
              rintro e w1 ⟨rfl, hb⟩
              obtain ⟨k0, k1, k2, kz, FW⟩ := F.struct _ _ _ hb
              clear hb F HQ2
              have AC : Hid (∀ (a : Addr) (u' : Value), ∀ j u, (wdC ⟨b, false, p + 1⟩)[j]? = some u → ((w1.setCell a u').alloc (.cells #[.string ⟨b.toArray⟩, .bool false, .int .i64 ((p : Int) + 1)] 106)).cell? ((⟨w1.heap.size, 0, none⟩ : Addr).add j) = some u) := fun a u' => cells_set3 w1 a u' _ _ rfl
              go_wp2_with (first | (at_builtin; refine wpList_append_words rfl _ _ _ rfl i0 Tryz.underlying101 hi hz0 hz1 hz2 _ _ rfl ((FW _).alloc _) _ _ ⟨b, false, p + 1⟩ rfl (AC.out _ _) (by omega) ?_))
              intro v2 w2 F2
              go_wp2_with fail
              exact ⟨⟨m, _, by omega, by go_num, by simp; omega, F2, H⟩, by simp [intOf]; omega⟩
    · obtain rfl : p = s.size := by omega
      have H : Hid (r0 = .inr ws) := hid (by
        rw [R.out, List.drop_eq_nil_of_le (by rw [size_list]; exact Nat.le_refl _), T.rd_nil]
        simp [T.pre])
      clear R
      go_wp2_with fail
      go_ret
      exact RdPost.good H.out F
end Go.Proofs.YtbpdmkohihgnjaaGreatDoor.L
namespace Go.Proofs.YtbpdmkohihgnjaaGreatDoor.L
open Go.RowKit

theorem placeOf_any (x : Int) (w : World) : Calls Tryz.prog 71 #[.iface 176 (.int .i64 x)] w fun e w' => e = .returned (.int .i64 x) ∧ w = w' := by
  have ht : ∀ w, (Instr.typeAssert (.iface 176 (.int .i64 x)) 20 176 false).run Tryz.prog w = .ok (.int .i64 x) w := fun w => by
    simp [Instr.typeAssert, run_underlying Tryz.underlying176]
  go_enter Tryz.func71, Tryz.ntmps71
  go_wp2
  go_ret
  exact ⟨rfl, rfl⟩
theorem catch22 (p q r : Addr) (hpq : p ≠ q) (hpr : p ≠ r) (hqr : q ≠ r) (x y z : Value) (n : Int) (h0 : 0 ≤ n) (h1 : n ≤ 1000000001) (older : List PanicEntry) (w : World) (hc : w.cell? p = some x) (hz : w.frozen? p = false) (hc' : w.cell? q = some y) (hz' : w.frozen? q = false) (hc'' : w.cell? r = some z) (hz'' : w.frozen? r = false) :
    CallsD Tryz.prog 70 #[.pointer (some p), .pointer (some q), .pointer (some r)] (.panicking ({ v := .iface 176 (.int .i64 n), recovered := false } :: older)) w fun e u' w' =>
      e = .returned (.tuple #[]) ∧ u' = .panicking ({ v := .iface 176 (.int .i64 n), recovered := true } :: older) ∧ w' = ((w.setCell p (.slice none 0 0)).setCell q (.int .i64 (n + 1))).setCell r (.int .i64 40) := by
  refine callsD_of_wpS Tryz.func70 rfl fun c₀ cs hu => ?_
  apply wpS_seq
  apply wpS_region
  simp [wpOpsS, go_sem, recoverD, hu, Tryz.ntmps70, Exit.thenS]
  refine wpS_of_wp ?_
  simp [Array.replicate]
  go_wp2_with (go_at_call 71; refine (placeOf_any _ _).mono ?_; rintro e w' ⟨rfl, rfl⟩)
  simp [bodyPostS, results, Tryz.results70]
theorem idle22 (p q r : Addr) (w : World) :
    CallsD Tryz.prog 70 #[.pointer (some p), .pointer (some q), .pointer (some r)] .returning w fun e u' w' => e = .returned (.tuple #[]) ∧ u' = .returning ∧ w' = w := by
  refine callsD_of_wpS Tryz.func70 rfl fun c₀ cs hu => ?_
  apply wpS_seq
  apply wpS_region
  simp [wpOpsS, go_sem, recoverD, hu, Tryz.ntmps70, Exit.thenS]
  refine wpS_of_wp ?_
  simp [Array.replicate]
  go_wp2
  cases c₀
  simp_all [bodyPostS, results, Tryz.results70]
theorem HW.old {W X w : World} {v : Value} {ws : List T.Wd} (h : HW X w v ws) (hb : Below W.heap.size W X) : HW W w v ws := ⟨own_mono h.own hb.size, hb.trans (h.below.mono hb.size)⟩
def WsPost (W : World) (r : Nat ⊕ List T.Wd) (e : Ending) (W' : World) : Prop :=
  match r with
  | .inl x => e = .returned (.tuple #[.slice none 0 0, .int .i64 ((x + 1 : Nat) : Int), .int .i64 40]) ∧ Below W.heap.size W W'
  | .inr ws => ∃ v, e = .returned (.tuple #[v, .int .i64 0, .int .i64 0]) ∧ HW W W' v ws
theorem WsPost.bad {W W' : World} {x : Nat} {n : Int} {r : Nat ⊕ List T.Wd} (hr : r = .inl x) (hn : n = ((x + 1 : Nat) : Int)) (hb : Below W.heap.size W W') : WsPost W r (.returned (.tuple #[.slice none 0 0, .int .i64 n, .int .i64 40])) W' := by
  subst hr hn; exact ⟨rfl, hb⟩
theorem WsPost.good {W W' : World} {r : Nat ⊕ List T.Wd} {ws : List T.Wd} {v : Value} (hr : r = .inr ws) (hb : HW W W' v ws) : WsPost W r (.returned (.tuple #[v, .int .i64 0, .int .i64 0])) W' := by
  subst hr; exact ⟨_, rfl, hb⟩
theorem three_cells {W w1 : World} (o1 o2 o3 : Value) (t1 t2 t3 : TypeId) (hb : Below (W.heap.size + 3) (((W.alloc (.cells #[o1] t1)).alloc (.cells #[o2] t2)).alloc (.cells #[o3] t3)) w1) :
    w1.cell? ⟨W.heap.size, 0, none⟩ = some o1 ∧ w1.frozen? ⟨W.heap.size, 0, none⟩ = false ∧ w1.cell? ⟨W.heap.size + 1, 0, none⟩ = some o2 ∧ w1.frozen? ⟨W.heap.size + 1, 0, none⟩ = false ∧ w1.cell? ⟨W.heap.size + 2, 0, none⟩ = some o3 ∧ w1.frozen? ⟨W.heap.size + 2, 0, none⟩ = false ∧ Below W.heap.size W w1 := by
  refine ⟨?_, ?_, ?_, ?_, ?_, ?_, (((Below.refl _ _).alloc (Nat.le_refl _) _).alloc (by simp) _ |>.alloc (by simp; omega) _).trans (hb.mono (by omega))⟩
  · rw [hb.cell (p := ⟨W.heap.size, 0, none⟩) (by simp)]; simp [go_sem]
  · rw [hb.frozen (p := ⟨W.heap.size, 0, none⟩) (by simp)]; simp [go_sem]
  · rw [hb.cell (p := ⟨W.heap.size + 1, 0, none⟩) (by simp)]; simp [go_sem]
  · rw [hb.frozen (p := ⟨W.heap.size + 1, 0, none⟩) (by simp)]; simp [go_sem]
  · rw [hb.cell (p := ⟨W.heap.size + 2, 0, none⟩) (by simp)]; simp [go_sem]
  · rw [hb.frozen (p := ⟨W.heap.size + 2, 0, none⟩) (by simp)]; simp [go_sem]
def okW (m : Nat) : Nat ⊕ List T.Wd → Prop
  | .inl x => x ≤ m
  | .inr _ => True
theorem okW_cons {m : Nat} {w : T.Wd} {r : Nat ⊕ List T.Wd} (h : okW m r) : okW m (T.cons w r) := by cases r <;> exact h
theorem rd_le (l : List UInt8) (p : Nat) : okW (p + l.length) (T.rd l p) := by
  induction h : l.length using Nat.strongRecOn generalizing l p with
  | _ n ih =>
    subst h
    cases l with
    | nil => rw [T.rd_nil]; trivial
    | cons c t =>
      cases hg : T.isGap c with
      | true =>
        rw [T.rd_gap t p hg]
        have := ih t.length (by simp) t (p + 1) rfl
        rwa [show p + 1 + t.length = p + (c :: t).length from by simp; omega] at this
      | false =>
        by_cases h35 : c.toNat = 35
        · rw [T.rd_hash t p hg h35]; trivial
        · by_cases h34 : c.toNat = 34
          · have hu := T.unq_le t
            cases hq : T.unq t with
            | inl x =>
              rw [hq] at hu
              rw [T.rd_bad t p x hg h34 hq]
              have : x ≤ t.length := hu
              show p + 1 + x ≤ p + (c :: t).length
              simp
              omega
            | inr y =>
              obtain ⟨b, m⟩ := y
              rw [hq] at hu
              have hu1 : m ≤ t.length := hu.1
              cases hp : T.parted (t.drop m) with
              | false =>
                rw [T.rd_joined t b p m hg h34 hq hp]
                show p + 1 + m ≤ p + (c :: t).length
                simp
                omega
              | true =>
                rw [T.rd_quoted t b p m hg h34 hq hp]
                have := ih (t.drop m).length (by simp; omega) (t.drop m) (p + 1 + m) rfl
                rw [show p + 1 + m + (t.drop m).length = p + (c :: t).length from by simp; omega] at this
                exact okW_cons this
          · rw [T.rd_plain t p hg h35 h34]
            have h1 := T.plainN_pos t hg
            have h2 := T.plainN_le (c :: t)
            have := ih ((c :: t).drop (T.plainN (c :: t))).length (by simp; omega) ((c :: t).drop (T.plainN (c :: t))) (p + T.plainN (c :: t)) rfl
            rw [show p + T.plainN (c :: t) + ((c :: t).drop (T.plainN (c :: t))).length = p + (c :: t).length from by rw [List.length_drop]; omega] at this
            exact okW_cons this
set_option maxHeartbeats 1000000 in
theorem words_any (W : World) (s : ByteArray) (hs : s.size ≤ 1000000000) :
    Calls Tryz.prog 43 #[.string s] W fun e W' => WsPost W (T.rd s.data.toList 0) e W' := by
  have hle := rd_le s.data.toList 0
  generalize hr0 : T.rd s.data.toList 0 = r0 at *
  have hmf := hmf
  have HC := fun w => read_any w s hs
  rw [hr0] at HC
  cases r0 with
  | inl x =>
    have hx : (x : Int) ≤ 1000000001 := by have h : x ≤ 0 + s.data.toList.length := hle; rw [size_list] at h; omega
    have hx0 : (0 : Int) ≤ (x : Int) := by omega
    clear hr0
    go_enter_defers Tryz.func43, Tryz.ntmps43
    go_wp2_with fail
    refine (HC _).mono ?_
    rintro e w1 ⟨rfl, hb⟩
    obtain ⟨c1, c2, c3, c4, c5, c6, hB⟩ := three_cells _ _ _ _ _ _ (hb.mono (B' := W.heap.size + 3) (by simp))
    clear HC hb
    simp only [brk]
    go_wp2_with fail
    refine leaves_cons (f := 70) (args := #[.pointer (some ⟨W.heap.size, 0, none⟩), .pointer (some ⟨W.heap.size + 1, 0, none⟩), .pointer (some ⟨W.heap.size + 2, 0, none⟩)]) (by simp) (by simp [go_sem]) ?_
    refine (catch22 ⟨W.heap.size, 0, none⟩ ⟨W.heap.size + 1, 0, none⟩ ⟨W.heap.size + 2, 0, none⟩ (by simp) (by simp) (by simp) (.slice none 0 0) (.int .i64 0) (.int .i64 0) (x : Int) hx0 hx [] _ c1 c2 c3 c4 c5 c6).mono ?_
    rintro e u' w'' ⟨rfl, rfl, rfl⟩
    simp [Leaves, settle, results, Tryz.results43, go_sem, c1, c3, c5]
    exact WsPost.bad rfl (by omega) (((hB.setCell (by simp) _).setCell (by simp) _).setCell (by simp) _)
  | inr ws =>
    clear hr0 hle
    go_enter_defers Tryz.func43, Tryz.ntmps43
    go_wp2_with fail
    refine (HC _).mono ?_
    rintro e w1 ⟨v, rfl, hown⟩
    obtain ⟨c1, c2, c3, c4, c5, c6, hB⟩ := three_cells _ _ _ _ _ _ (hown.below.mono (B' := W.heap.size + 3) (by simp))
    have own := own_mono (B' := W.heap.size + 3) hown.own (by simp)
    obtain ⟨ao, cc, rfl⟩ := own_form own
    clear HC hown
    go_wp2_with fail
    refine leaves_cons (f := 70) (args := #[.pointer (some ⟨W.heap.size, 0, none⟩), .pointer (some ⟨W.heap.size + 1, 0, none⟩), .pointer (some ⟨W.heap.size + 2, 0, none⟩)]) (by simp) (by simp [go_sem]) ?_
    refine (idle22 ⟨W.heap.size, 0, none⟩ ⟨W.heap.size + 1, 0, none⟩ ⟨W.heap.size + 2, 0, none⟩ _).mono ?_
    rintro e u' w'' ⟨rfl, rfl, rfl⟩
    simp [Leaves, settle, results, Tryz.results43, go_sem, c1, c3, c5]
    exact WsPost.good rfl ⟨own_mono (own_set (own_set (own_set own _ (by simp) _) _ (by simp) _) _ (by simp) _) (by omega), ((hB.setCell (by simp) _).setCell (by simp) _).setCell (by simp; omega) _⟩
end Go.Proofs.YtbpdmkohihgnjaaGreatDoor.L
namespace Go.Proofs.YtbpdmkohihgnjaaGreatDoor
open Go.RowKit
set_option maxHeartbeats 4000000
set_option maxRecDepth 100000
def WdAt (w : World) (ao : Option Addr) (ws : List L.T.Wd) : Prop := ws = [] ∨ ∃ b, ao = some ⟨b, 0, none⟩ ∧ b < w.heap.size ∧ ∀ t x, ws[t]? = some x → w.rangeAt b (t * 3) (L.wdC x)
theorem WdAt.on {W w : World} {ao : Option Addr} {ws : List L.T.Wd} (h : WdAt W ao ws) (hb : Below W.heap.size W w) : WdAt w ao ws := by
  rcases h with h | ⟨b, e, hl, hr⟩
  · exact .inl h
  · exact .inr ⟨b, e, Nat.lt_of_lt_of_le hl hb.size, fun t x hx j v hv => (hb.cell (p := ⟨b, t * 3 + j, none⟩) hl).trans (hr t x hx j v hv)⟩
theorem wds_at : ∀ (ws : List L.T.Wd) (t : Nat) (x : L.T.Wd), ws[t]? = some x → ∀ (j : Nat) (v : Value), (L.wdC x)[j]? = some v → (L.wdsC ws)[t * 3 + j]? = some v
  | [], t, x, h, _, _, _ => by simp at h
  | y :: ws, 0, x, h, j, v, hv => by
    simp only [List.getElem?_cons_zero, Option.some.injEq] at h
    subst h
    have hj := (List.getElem?_eq_some_iff.1 hv).1
    show (L.wdC y ++ L.wdsC ws)[0 * 3 + j]? = some v
    rw [Nat.zero_mul, Nat.zero_add, List.getElem?_append_left hj]
    exact hv
  | y :: ws, t + 1, x, h, j, v, hv => by
    have ih := wds_at ws t x (by simpa using h) j v hv
    show (L.wdC y ++ L.wdsC ws)[(t + 1) * 3 + j]? = some v
    have hl : (L.wdC y).length = 3 := rfl
    rw [List.getElem?_append_right (by rw [hl]; omega), hl, show (t + 1) * 3 + j - 3 = t * 3 + j by omega]
    exact ih
theorem wd_at {W w : World} {v : Value} {ws : List L.T.Wd} (h : L.HW W w v ws) : ∃ ao c, v = .slice ao ws.length c ∧ WdAt w ao ws ∧ (ws.length : Int) ≤ 9223372036854775807 := by
  obtain ⟨ao, c, rfl⟩ := L.own_form h.own
  refine ⟨ao, c, rfl, ?_⟩
  rcases h.own.2 with ⟨_, h0⟩ | ⟨g, cap, cur, hv, hB, hg, hn, hm, hsz, hx⟩
  · exact ⟨.inl (List.eq_nil_of_length_eq_zero h0), by omega⟩
  · simp only [Value.slice.injEq] at hv
    obtain ⟨rfl, _, _⟩ := hv
    refine ⟨.inr ⟨g, rfl, (Array.getElem?_eq_some_iff.1 hg).1, fun t x ht j u hu => ?_⟩, by unfold maxLen at hm; omega⟩
    have hj : j < 3 := (List.getElem?_eq_some_iff.1 hu).1
    have htl := (List.getElem?_eq_some_iff.1 ht).1
    have h1 := wds_at ws t x ht j u hu
    rw [← hx, List.getElem?_take_of_lt (by omega), Array.getElem?_toList] at h1
    simp only [World.cell?, hg]
    exact h1
theorem wdC_one (x : L.T.Wd) : (L.wdC x).all (·.oneCell') = true := rfl
theorem size165 : (Tryz.prog.info? 106).map (·.size) = some 3 := by kernel_rfl
def zword : Obj := .cells #[.string ⟨#[]⟩, .bool false, .int .i64 0] 106
attribute [-simp] Tryz.isAgg106 Tryz.zeroValue106
theorem quoted_any (W : World) (ao : Option Addr) (c : Nat) (ws : List L.T.Wd) (hw : WdAt W ao ws) (hmax : (ws.length : Int) ≤ 9223372036854775807) :
    Calls Tryz.prog 44 #[.slice ao ws.length c] W fun e W' => e = .returned (.bool (ws.any (·.quoted))) ∧ Below W.heap.size W W' := by
  have hz : ∀ w, (zeroValue 106).run Tryz.prog w = .ok (.agg #[.string ⟨#[]⟩, .bool false, .int .i64 0]) w := fun w => by rw [Tryz.zeroValue106]
  have HW0 := hid hw
  clear hw
  generalize hn : ws.length = n at *
  go_enter Tryz.func44, Tryz.ntmps44
  go_wp2_with fail
  go_loopw [7] (fun i wr => ∃ k : Nat, k ≤ n ∧ i = .int .i64 k ∧ Below W.heap.size W wr ∧ ws.any (·.quoted) = (ws.drop k).any (·.quoted)) (fun i _ => n - (intOf i).toNat)
  case atStart => exact ⟨0, Nat.zero_le _, rfl, Below.refl _ _, rfl⟩
  case round =>
    obtain ⟨k, hk, rfl, hbl, hq⟩ := hrel
    have B0 := hid hbl
    have HQ := hid hq
    have HA := hid (HW0.out.on hbl)
    clear hbl hq
    by_cases hlt : k < n
    · obtain ⟨b, rfl, hb, hra⟩ : ∃ b, ao = some ⟨b, 0, none⟩ ∧ b < wr.heap.size ∧ ∀ t x, ws[t]? = some x → wr.rangeAt b (t * 3) (L.wdC x) := by
        rcases HA.out with h | h
        · rw [h] at hn; simp at hn; omega
        · exact h
      have hRk : ws[k]? = some (ws[k]'(by omega)) := List.getElem?_eq_getElem (by omega)
      have hdr : ws.drop k = ws[k]'(by omega) :: ws.drop (k + 1) := List.drop_eq_getElem_cons (by omega)
      generalize ws[k]'(by omega) = x at *
      have HR : Hid (wr.rangeAt b (k * 3) (L.wdC x)) := hid (hra k x hRk)
      have HN := hid (show k + 1 ≤ n by omega)
      have i3 : (k : Int) < (n : Int) := by omega
      rw [hdr, List.any_cons] at HQ
      clear hra hRk hdr hk hn hlt hb HA
      go_upto_region 4 with (first | (refine wpList_load_mid rfl 106 _ rfl b (k * 3) rfl (L.wdC x) _ HR.out Tryz.underlying106 rfl size165 ?_) | (refine wpList_store_st rfl 106 _ _ rfl wr.heap.size (L.wdC x) rfl rfl (heap_alloc_new wr zword) size165 rfl (wdC_one x) ?_; intro w2 hc2 hb2 hs2; have Y2 : Hid (Below W.heap.size W w2 ∧ Cel w2 wr.heap.size 106 (L.wdC x)) := hid ⟨below_on B0.out (but_box hb2), hc2⟩; clear hc2 hb2 hs2))
      generalize wr.heap.size = g4 at *
      have c1 : w2.cell? ⟨g4, 1, none⟩ = some (.bool x.quoted) := Y2.out.2.cell 1
      clear B0 HR
      cases hq : x.quoted
      · rw [hq] at c1 HQ
        rw [Bool.false_or] at HQ
        go_wp2_with fail
        go_roundw
        case rel => exact ⟨k + 1, HN.out, by go_num, Y2.out.1, HQ.out⟩
        case measure => have := HN.out; simp [intOf]; omega
      · rw [hq] at c1 HQ
        rw [Bool.true_or] at HQ
        go_wp2_with fail
        go_ret
        exact ⟨by rw [HQ.out]; rfl, Y2.out.1⟩
    · obtain rfl : k = n := by omega
      have HF := hid (show ws.any (·.quoted) = false by rw [HQ.out, List.drop_of_length_le (by omega)]; rfl)
      clear HQ
      go_wp2_with fail
      go_ret
      exact ⟨by rw [HF.out]; rfl, B0.out⟩
theorem WdAt.text {w : World} {b : Nat} {ws : List L.T.Wd} (h : WdAt w (some ⟨b, 0, none⟩) ws) (k : Nat) (x : L.T.Wd) (hx : ws[k]? = some x) : w.cell? ⟨b, k * 3, none⟩ = some (.string ⟨x.text.toArray⟩) := by
  rcases h with h | ⟨b', e, _, hr⟩
  · rw [h] at hx; simp at hx
  · simp only [Option.some.injEq, Addr.mk.injEq] at e
    obtain ⟨rfl, _⟩ := e
    exact hr k x hx 0 _ rfl
end Go.Proofs.YtbpdmkohihgnjaaGreatDoor
