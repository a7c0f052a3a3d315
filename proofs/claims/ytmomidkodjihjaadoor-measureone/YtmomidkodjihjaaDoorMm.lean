/- Decode by what its words are; what MeasureWords needs of lists. -/
import Derived.Test.YtmomidkodjihjaaDoorMl
namespace Go.Proofs.YtmomidkodjihjaaDoor
open Go.RowKit
open H
set_option maxHeartbeats 4000000
set_option maxRecDepth 100000
theorem decode_ok (W : World) (ao : Option Addr) (n c : Nat) (ws : List Int) (hn : ws.length = n) (hw : Wds ws) (h : At W .u32 ao ws) (hc : n ≤ c) (hl : n ≤ 262144) (hx : ∃ m : List MOp, (∀ o ∈ m, o.Ok) ∧ enc m = ws) :
    Calls Tryd.prog 8 #[.slice ao n c] W fun e W' => ∃ p cp l, e = .returned (.tuple #[.slice p (List.length l) cp, .int .i64 0]) ∧ HO W W' (.slice p l.length cp) l ∧ (∀ o ∈ l.map Ov.o, o.Ok) ∧ enc (l.map Ov.o) = ws := by
  refine (decode_any W ao n c ws hn hw h hc (by omega)).mono ?_
  rintro e w ⟨hb, ⟨h1, _⟩ | ⟨_, h1, _⟩ | ⟨_, v, l, rfl, h1, h2, h3⟩⟩
  · omega
  · obtain ⟨m, h2, h3⟩ := hx
    exact absurd h3 (h1 m h2)
  · obtain ⟨p, cp, hv, _, _⟩ := h1.ol
    subst hv
    exact ⟨p, cp, l, rfl, h1, h2, h3⟩
theorem decode_bad (W : World) (ao : Option Addr) (n c : Nat) (ws : List Int) (hn : ws.length = n) (hw : Wds ws) (h : At W .u32 ao ws) (hc : n ≤ c) (hl : n ≤ 262144) (hx : ¬ ∃ m : List MOp, (∀ o ∈ m, o.Ok) ∧ enc m = ws) :
    Calls Tryd.prog 8 #[.slice ao n c] W fun e W' => e = .returned (.tuple #[.slice none 0 0, .int .i64 150]) ∧ Below W.heap.size W W' := by
  refine (decode_any W ao n c ws hn hw h hc (by omega)).mono ?_
  rintro e w ⟨hb, ⟨h1, _⟩ | ⟨_, _, h1⟩ | ⟨_, v, l, _, _, h2, h3⟩⟩
  · omega
  · exact ⟨h1, hb⟩
  · exact absurd ⟨_, h2, h3⟩ hx
theorem decode_long (W : World) (ao : Option Addr) (n c : Nat) (ws : List Int) (hn : ws.length = n) (hw : Wds ws) (h : At W .u32 ao ws) (hc : n ≤ c) (hm : n ≤ 4611686018427387904) (hl : 262144 < n) :
    Calls Tryd.prog 8 #[.slice ao n c] W fun e W' => e = .returned (.tuple #[.slice none 0 0, .int .i64 2]) ∧ Below W.heap.size W W' := by
  refine (decode_any W ao n c ws hn hw h hc hm).mono ?_
  rintro e w ⟨hb, ⟨_, h1⟩ | ⟨h1, _⟩ | ⟨h1, _⟩⟩
  · exact ⟨h1, hb⟩
  · omega
  · omega
theorem enc_not_one (q : List MOp) (x : Int) : enc q ≠ [x] := fun h => by
  cases q with
  | nil => simp [enc] at h
  | cons o q => rw [enc_cons] at h; simp [MOp.wds] at h
theorem no_cut {l : List MOp} (hl : ∀ o ∈ l, o.Ok) (h0 : 0 < (enc l).length) : ¬ ∃ m : List MOp, (∀ o ∈ m, o.Ok) ∧ enc m = (enc l).take ((enc l).length - 1) := fun ⟨m, h1, h2⟩ => by
  obtain ⟨x, hx⟩ : ∃ x, (enc l).drop ((enc l).length - 1) = [x] := by
    have : ((enc l).drop ((enc l).length - 1)).length = 1 := by rw [List.length_drop]; omega
    match hd : (enc l).drop ((enc l).length - 1), this with
    | [x], _ => exact ⟨x, rfl⟩
  obtain ⟨q, _, h4⟩ := enc_split m l [x] h1 hl (by rw [h2, ← hx, List.take_append_drop])
  exact enc_not_one q x h4
theorem no_more {l : List MOp} (hl : ∀ o ∈ l, o.Ok) (x : Int) : ¬ ∃ m : List MOp, (∀ o ∈ m, o.Ok) ∧ enc m = enc l ++ [x] := fun ⟨m, h1, h2⟩ => by
  obtain ⟨q, _, h4⟩ := enc_split l m [x] hl h1 h2
  exact enc_not_one q x h4
theorem plainL_ok (l : List Lv) (m : Nat) : ∀ o ∈ (l.take m).map plainO, o.Ok := fun o ho => by
  obtain ⟨x, _, rfl⟩ := List.mem_map.1 ho
  exact plain_ok x
theorem enc_len_le : ∀ (l : List MOp), (∀ o ∈ l, o.Ok) → (enc l).length ≤ 1026 * l.length
  | [], _ => by simp [enc]
  | o :: l, h => by
    rw [enc_cons, List.length_append]
    have := (wds_len o (h o (by simp))).2
    have := enc_len_le l (fun x hx => h x (by simp [hx]))
    simp only [List.length_cons]
    omega
theorem plainL_len (l : List Lv) (m : Nat) (hm : m ≤ 8) : (enc ((l.take m).map plainO)).length ≤ 8208 := by
  have := enc_len_le _ (plainL_ok l m)
  have h2 : ((l.take m).map plainO).length ≤ m := by rw [List.length_map, List.length_take]; omega
  omega
/-- Words that came in are words. -/
def LvW (x : Lv) : Prop := 0 ≤ x.a ∧ x.a < 4294967296 ∧ Wds x.ld ∧ 0 ≤ x.fl ∧ x.fl < 4294967296
theorem wds_cons {a : Int} {xs : List Int} (h0 : 0 ≤ a) (h1 : a < 4294967296) (h : Wds xs) : Wds (a :: xs) := fun i => by
  cases i with
  | zero => exact ⟨h0, h1⟩
  | succ i => simpa using h i
theorem wds_lwd {ld : List Int} {fl : Int} (h : Wds ld) (f0 : 0 ≤ fl) (f1 : fl < 4294967296) (n : Nat) : Wds (lwd ld fl n) := fun i => by
  unfold lwd
  by_cases hi : i < n
  · simp only [List.getD_eq_getElem?_getD, List.getElem?_map, List.getElem?_range hi, Option.map_some, Option.getD_some]
    split
    · have := h i
      rwa [List.getD_eq_getElem?_getD] at this
    · exact ⟨f0, f1⟩
  · rw [List.getD_eq_getElem?_getD, List.getElem?_eq_none (by simpa using hi)]
    simp
theorem wds_plain (x : Lv) (h : LvW x) : Wds (plainO x).wds := by
  have h0 := wit_lo x.k 4 (by decide)
  have h1 := wit_hi x.k 4 (by decide)
  refine wds_cons (by show 0 ≤ 1 + wit x.k 4; omega) (by show 1 + wit x.k 4 < _; omega) (wds_cons h.1 h.2.1 ?_)
  show Wds (if 1 + wit x.k 4 = 3 then lwd x.ld x.fl 1024 else [])
  split
  · exact wds_lwd h.2.2.1 h.2.2.2.1 h.2.2.2.2 _
  · exact fun i => by simp
theorem wds_enc : ∀ (l : List Lv), (∀ x ∈ l, LvW x) → Wds (enc (l.map plainO))
  | [], _ => fun i => by simp [enc]
  | x :: l, h => by
    rw [List.map_cons, enc_cons]
    exact wds_append (wds_plain x (h x (by simp))) (wds_enc l (fun y hy => h y (by simp [hy])))
theorem wds_take {xs : List Int} (h : Wds xs) (n : Nat) : Wds (xs.take n) := fun i => by
  by_cases hi : i < n
  · have := h i
    rwa [List.getD_eq_getElem?_getD, List.getElem?_take_of_lt hi, ← List.getD_eq_getElem?_getD]
  · rw [List.getD_eq_getElem?_getD, List.getElem?_eq_none (by simp; omega)]
    simp
theorem holds_base {V W w : World} {v : Value} {L : List Int} (h : Holds W w .u32 24 v L) (hb : Below V.heap.size V W) : Holds V w .u32 24 v L := ⟨own_base h.own hb.size, below_on hb h.below⟩
theorem holds_at' {W w : World} {p : Option Addr} {n cp : Nat} {L : List Int} (h : Holds W w .u32 24 (.slice p n cp) L) : At w .u32 p L ∧ L.length = n ∧ n ≤ cp := by
  obtain ⟨p', cp', e, h1, ha, _⟩ := h.at'
  injection e with e1 e2 e3
  subst e1 e2 e3
  exact ⟨ha, rfl, h1⟩
theorem holds_set {W w : World} {g n c j : Nat} {u : Int} {L : List Int} (h : Holds W w .u32 24 (.slice (some ⟨g, 0, none⟩) n c) L) : Holds W (w.setCell ⟨g, j, none⟩ (.int .u32 u)) .u32 24 (.slice (some ⟨g, 0, none⟩) n c) (L.set j u) := by
  have hl := (holds_at' h).2.1
  have hg := (h.own.lt g rfl).1
  have h0 := h.own
  rw [hl] at h0
  refine ⟨?_, h.below.setCell hg _⟩
  have := (h0.stored j (.int .u32 u)).1
  rw [List.length_set, hl]
  rwa [← List.map_set] at this
end Go.Proofs.YtmomidkodjihjaaDoor
