/- MemRefuses' own: what stays. -/
import Derived.Test.YtnmdhnbgikbpoaaM8
namespace Go.Proofs.Ytnmdhnbgikbpoaa
open Go.RowKit
def sfx : Nat → Code → Code
  | n + 1, .seq _ b => sfx n b
  | _, c => c
theorem sfx_walk {body : Option Code} (n : Nat) {code c' : Code} {Q : Exit → Act → World → Prop} {a : Act} {w : World} (h : body = some code) (h' : sfx n code = c') (hw : Code.wp Try.prog c' Q a w) : Code.wp Try.prog (sfx n (body.getD .skip)) Q a w := by
  subst h'
  rw [h]
  exact hw
/-- A frame in a box and a memory, both of the call's own. -/
structure RI (w wr : World) (g5 : Nat) (s : Bool) (p : Int) (f : Fp) (m : MS) : Prop where
  below : Below w.heap.size w wr
  c5 : Cel wr g5 23 [.bool s, .int .i64 p]
  mem : Mem wr f m
  lo : ∀ k ∈ f.all, w.heap.size ≤ k
  ne : g5 ∉ f.w
theorem Fp.w_all {f : Fp} : ∀ k ∈ f.w, k ∈ f.all := by
  intro k hk
  simp only [Fp.w, Fp.all, List.mem_cons] at hk ⊢
  rcases hk with h | h
  · exact .inl h
  · exact .inr (.inr (.inr h))
theorem RI.but {w wr w' : World} {g5 : Nat} {s : Bool} {p : Int} {f : Fp} {m m' : MS} (h : RI w wr g5 s p f m) (hb : ButL f.w wr w') (hm : Mem w' f m') : RI w w' g5 s p f m' :=
  ⟨h.below.trans (hb.below (fun k hk => h.lo k (Fp.w_all k hk)) h.below.size), h.c5.but hb h.ne, hm, h.lo, h.ne⟩
theorem RI.on {w wr w' : World} {g5 : Nat} {s : Bool} {p : Int} {f : Fp} {m : MS} (h : RI w wr g5 s p f m) (hb : Below wr.heap.size wr w') : RI w w' g5 s p f m := h.but (.of hb) (h.mem.on hb)
theorem RI.z0 {w wr : World} {g5 : Nat} {s : Bool} {p : Int} {f : Fp} {m : MS} (h : RI w wr g5 s p f m) : wr.cell? ⟨g5, 0, none⟩ = some (.bool s) := h.c5.cell 0
theorem RI.z1 {w wr : World} {g5 : Nat} {s : Bool} {p : Int} {f : Fp} {m : MS} (h : RI w wr g5 s p f m) : wr.cell? ⟨g5, 1, none⟩ = some (.int .i64 p) := h.c5.cell 1
section
variable {w wr : World} {g5 : Nat} {s : Bool} {p : Int} {f : Fp} {m : MS} (h : RI w wr g5 s p f m)
include h
theorem ri_in : Calls Try.prog 10 #[.int .i64 0] wr fun x w' => x = .returned (.agg #[.bool true, .int .i64 0]) ∧ RI w w' g5 s p f m :=
  (in_any wr 0).mono fun _ _ ⟨a, b⟩ => ⟨a, h.on b⟩
theorem ri_meter : Calls Try.prog 19 #[.pointer (some ⟨f.gm, 0, none⟩)] wr fun x w' => x = .returned (.int .i64 m.c) ∧ RI w w' g5 s p f m :=
  (meter_any wr f m h.mem).mono fun _ _ ⟨a, b⟩ => ⟨a, b ▸ h⟩
theorem ri_peek (t : Bool) (q o v : Int) (hv : m.word t q o = v) : Calls Try.prog 18 #[.pointer (some ⟨f.gm, 0, none⟩), .agg #[.bool t, .int .i64 q], .int .i64 o] wr fun x w' => x = .returned (.int .u32 v) ∧ RI w w' g5 s p f m :=
  (peek_any wr f m h.mem t q o).mono fun _ _ ⟨a, b⟩ => ⟨by rw [a, hv], h.on b⟩
theorem ri_has (b : Bool) (hb : (m.at s p).isSome = b) : Calls Try.prog 11 #[.pointer (some ⟨f.gm, 0, none⟩), .agg #[.bool s, .int .i64 p]] wr fun x w' => x = .returned (.bool b) ∧ RI w w' g5 s p f m :=
  (has_any wr f m h.mem s p).mono fun _ _ ⟨a, b⟩ => ⟨by rw [a, hb], h.on b⟩
theorem ri_read (o e : Int) (he : m.err s p o = e) (h0 : e ≠ 0) : Calls Try.prog 12 #[.pointer (some ⟨f.gm, 0, none⟩), .agg #[.bool s, .int .i64 p], .int .i64 o] wr fun x w' => x = .returned (.tuple #[.int .u32 (m.word s p o), .int .i64 e]) ∧ RI w w' g5 s p f m :=
  (read_any wr f m h.mem s p o).mono fun _ _ ⟨a, b, c⟩ => ⟨by rw [a, he], h.but c (by
    have : m.read s p o = m := by
      unfold MS.read; unfold MS.err at he
      split
      · rfl
      · split
        · rename_i hr hin; rw [hr] at he; simp only [hin, if_true] at he; exact absurd he.symm h0
        · rfl
    rwa [this] at b)⟩
theorem ri_write (o v e : Int) (he : m.err s p o = e) (h0 : e ≠ 0) : Calls Try.prog 9 #[.pointer (some ⟨f.gm, 0, none⟩), .agg #[.bool s, .int .i64 p], .int .i64 o, .int .u32 v] wr fun x w' => x = .returned (.int .i64 e) ∧ RI w w' g5 s p f m :=
  (write_any wr f m h.mem s p o v).mono fun _ _ ⟨a, b, c⟩ => ⟨by rw [a, he], h.but c (by
    have : m.write s p o v = m := by
      unfold MS.write; unfold MS.err at he
      split
      · rfl
      · split
        · rename_i hr hin; rw [hr] at he; simp only [hin, if_true] at he; exact absurd he.symm h0
        · rfl
    rwa [this] at b)⟩
theorem ri_zero (hr : m.at s p = none) : Calls Try.prog 13 #[.pointer (some ⟨f.gm, 0, none⟩), .agg #[.bool s, .int .i64 p]] wr fun x w' => x = .returned (.int .i64 5) ∧ RI w w' g5 s p f m :=
  (zero_any wr f m h.mem s p).mono fun _ _ ⟨a, b, c⟩ => ⟨by rw [a]; unfold MS.perr; rw [hr]; rfl, h.but c (by unfold MS.zero at b; rw [hr] at b; exact b)⟩
theorem ri_copy (t : Bool) (q : Int) (hr : m.at s p = none) : Calls Try.prog 14 #[.pointer (some ⟨f.gm, 0, none⟩), .agg #[.bool s, .int .i64 p], .agg #[.bool t, .int .i64 q]] wr fun x w' => x = .returned (.int .i64 5) ∧ RI w w' g5 s p f m :=
  (copy_any wr f m h.mem s p t q).mono fun _ _ ⟨a, b, c⟩ => ⟨by rw [a]; unfold MS.cerr; rw [hr], h.but c (by unfold MS.copy at b; rw [hr] at b; exact b)⟩
theorem ri_copy2 (t : Bool) (q : Int) (hr : m.at s p = none) : Calls Try.prog 14 #[.pointer (some ⟨f.gm, 0, none⟩), .agg #[.bool t, .int .i64 q], .agg #[.bool s, .int .i64 p]] wr fun x w' => x = .returned (.int .i64 5) ∧ RI w w' g5 s p f m :=
  (copy_any wr f m h.mem t q s p).mono fun _ _ ⟨a, b, c⟩ => ⟨by rw [a]; unfold MS.cerr; rw [hr]; cases m.at t q <;> rfl, h.but c (by unfold MS.copy at b; rw [hr] at b; cases hq : m.at t q <;> rw [hq] at b <;> exact b)⟩
theorem ri_page (hr : m.at s p = none) : Calls Try.prog 15 #[.pointer (some ⟨f.gm, 0, none⟩), .agg #[.bool s, .int .i64 p]] wr fun x w' => x = .returned (.tuple #[.slice none 0 0, .int .i64 5]) ∧ RI w w' g5 s p f m :=
  (page_any wr f m h.mem s p).mono fun _ _ ⟨v, a, hv, b, c⟩ => ⟨by unfold PageIs at hv; rw [hr] at hv; rw [a, hv]; unfold MS.perr; rw [hr]; rfl, h.but c (by unfold MS.tk at b; rw [hr] at b; exact b)⟩
theorem ri_blank (hr : m.at s p = none) : Calls Try.prog 17 #[.pointer (some ⟨f.gm, 0, none⟩), .agg #[.bool s, .int .i64 p]] wr fun x w' => x = .returned (.tuple #[.bool false, .int .i64 5]) ∧ RI w w' g5 s p f m :=
  (blank_any wr f m h.mem s p).mono fun _ _ ⟨a, b, c⟩ => ⟨by rw [a]; unfold MS.perr MS.bl; rw [hr]; rfl, h.but c (by unfold MS.tk at b; rw [hr] at b; exact b)⟩
theorem ri_lay (ao : Option Addr) (n c : Nat) (e : Int) (hn : n ≤ 9223372036854775807) (he : (m.at s p = none ∧ e = 5) ∨ (n ≠ 1024 ∧ (m.at s p).isSome ∧ e = 2)) : Calls Try.prog 16 #[.pointer (some ⟨f.gm, 0, none⟩), .agg #[.bool s, .int .i64 p], .slice ao n c] wr fun x w' => x = .returned (.int .i64 e) ∧ RI w w' g5 s p f m := by
  have hl : (List.replicate n (0 : Int)).length = n := List.length_replicate
  have := lay_any wr f m h.mem s p (List.replicate n 0) ao c (by omega) (by
    intro h1 h2
    rcases he with ⟨h3, _⟩ | ⟨h3, _⟩
    · rw [h3] at h1; cases h1
    · omega)
  rw [hl] at this
  refine this.mono fun _ _ ⟨a, b, c⟩ => ⟨?_, h.but c ?_⟩
  · rw [a]; unfold MS.lerr
    rcases he with ⟨h3, rfl⟩ | ⟨h3, h4, rfl⟩
    · rw [h3]
    · cases hq : m.at s p with
      | none => rw [hq] at h4; cases h4
      | some k => simp only [hl, h3, if_false]
  · unfold MS.lay at b
    rcases he with ⟨h3, rfl⟩ | ⟨h3, h4, rfl⟩
    · rw [h3] at b; exact b
    · cases hq : m.at s p with
      | none => rw [hq] at h4; cases h4
      | some k => rw [hq] at b; simpa only [hl, h3, if_false] using b
end
/-- The memory behind the first Write. -/
def M1 : MS := { (MS.new 2 2).tick 1 with P := (MS.new 2 2).P.set 0 (((MS.new 2 2).p 0).set 3 9) }
theorem m1_eq : (MS.new 2 2).write true 0 3 9 = M1 := by
  have h : (MS.new 2 2).at true 0 = some 0 := rfl
  unfold MS.write; rw [h]; rfl
theorem m1_err : (MS.new 2 2).err true 0 3 = 0 := by
  have h : (MS.new 2 2).at true 0 = some 0 := rfl
  unfold MS.err; rw [h]; rfl
theorem ri_w1 {w wr : World} {g5 : Nat} {s : Bool} {p : Int} {f : Fp} (h : RI w wr g5 s p f (MS.new 2 2)) : Calls Try.prog 9 #[.pointer (some ⟨f.gm, 0, none⟩), .agg #[.bool true, .int .i64 0], .int .i64 3, .int .u32 9] wr fun x w' => x = .returned (.int .i64 0) ∧ RI w w' g5 s p f M1 :=
  (write_any wr f _ h.mem true 0 3 9).mono fun _ _ ⟨a, b, c⟩ => ⟨by rw [a, m1_err], h.but c (by rw [m1_eq] at b; exact b)⟩
theorem m1_c : M1.c = 1 := wrap_in (0 + 1) (by omega)
theorem m1_word : M1.word true 0 3 = 9 := by
  have h : M1.at true 0 = some 0 := rfl
  unfold MS.word; rw [h]
  have e : M1.p 0 = zs.set 3 9 := rfl
  simp only [e, wd]
  rw [if_pos (by decide)]
  have : (3 : Int).toNat = 3 := rfl
  rw [this, List.getD_eq_getElem?_getD, List.getElem?_set_self (by rw [zs_len]; decide)]
  rfl
theorem m1_at (s : Bool) (p : Int) : (M1.at s p).isSome = decide (0 ≤ p ∧ p < 2) := by
  have h1 : M1.ns = 2 := rfl
  have h2 : M1.P.length = 4 := by simp [M1, MS.new]
  unfold MS.at
  rw [h1, h2]
  by_cases hp : 0 ≤ p
  · by_cases hq : p < 2 <;> cases s <;> simp [hp, hq]
  · simp [hp]
end Go.Proofs.Ytnmdhnbgikbpoaa
