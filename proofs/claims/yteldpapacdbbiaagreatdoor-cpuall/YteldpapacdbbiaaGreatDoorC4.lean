/- cpu's reach 50; what a load or store comes to. -/
import Derived.Test.YteldpapacdbbiaaGreatDoorC3
import Derived.Test.YteldpapacdbbiaaGreatDoorB1LpP6a
import Derived.Test.YteldpapacdbbiaaGreatDoorIRef1
namespace Go.Proofs.YteldpapacdbbiaaGreatDoor
open Go.RowKit
set_option maxHeartbeats 4000000
set_option maxRecDepth 100000
attribute [-simp] Tryz.isAgg26 Tryz.sizeOf26 Tryz.isAgg24
theorem spO_range (va : Int) : In (spO va) := by
  unfold spO In
  split
  · rename_i h; unfold VaOk at h; omega
  · decide
theorem f2E_zero {m : MS} {t n : Int} (h : m.f2E t n = 0) : (m.at (m.f2 t n).s (m.f2 t n).p).isSome = true := by
  have hf : m.f2 t n = ps (m.word true t n) := by unfold MS.f2; rw [if_pos h]
  rw [hf]
  unfold MS.f2E at h
  by_cases h1 : m.err true t n = 0
  · rw [if_pos h1] at h
    by_cases h2 : psE (m.word true t n) = 0
    · rw [if_pos h2] at h
      cases h3 : (m.at (ps (m.word true t n)).s (ps (m.word true t n)).p).isSome with
      | true => rfl
      | false => rw [h3] at h; simp at h
    · rw [if_neg h2] at h; exact absurd h h2
  · rw [if_neg h1] at h; exact absurd h h1
theorem wkE_zero {m : MS} {l va : Int} (h : m.wkE l va = 0) : (m.at (m.wk l va).s (m.wk l va).p).isSome = true := by
  unfold MS.wkE at h
  unfold MS.wk
  by_cases h1 : spE va = 0
  · simp only [if_pos h1] at h ⊢
    by_cases h2 : m.f1E l (spI va) = 0
    · simp only [if_pos h2] at h ⊢
      exact f2E_zero h
    · simp only [if_neg h2] at h; exact absurd h h2
  · simp only [if_neg h1] at h; exact absurd h h1
/-- A walk leads to words that are there. -/
theorem tr_err {m : MS} {l va a : Int} (h : m.trE l va a = 0) : m.err (m.trS l va a) (m.trP l va a) (m.trO l va a) = 0 := by
  unfold MS.trS MS.trP MS.trO
  simp only [if_pos h]
  have hk : m.wkE l va = 0 := by
    unfold MS.trE at h
    by_cases h1 : m.wkE l va = 0
    · exact h1
    · rw [if_neg h1] at h; exact h
  have h2 := wkE_zero hk
  unfold MS.err
  cases h3 : m.at (m.wk l va).s (m.wk l va).p with
  | none => rw [h3] at h2; simp at h2
  | some k => simp only; rw [if_pos (spO_range va)]
theorem MS.wkS_at (m : MS) (l va : Int) (s : Bool) (p : Int) : (m.wkS l va).at s p = m.at s p := by
  unfold MS.wkS
  split
  · split
    · rw [MS.read_at, MS.read_at]
    · rw [MS.read_at]
  · rfl
theorem MS.wkS_err (m : MS) (l va : Int) (s : Bool) (p o : Int) : (m.wkS l va).err s p o = m.err s p o := by unfold MS.err; rw [MS.wkS_at]
theorem MS.wkS_word (m : MS) (l va : Int) (s : Bool) (p o : Int) : (m.wkS l va).word s p o = m.word s p o := by
  unfold MS.wkS
  split
  · split
    · rw [MS.read_word, MS.read_word]
    · rw [MS.read_word]
  · rfl
/-- What reach answers, and what it leaves. -/
def MS.rcW (m : MS) (l va a v : Int) : Int := if m.trE l va a = 0 then (if a = 1 then v else m.word (m.trS l va a) (m.trP l va a) (m.trO l va a)) else 0
def MS.rcM (m : MS) (l va a v : Int) : MS := if m.trE l va a = 0 then (if a = 1 then (m.wkS l va).write (m.trS l va a) (m.trP l va a) (m.trO l va a) v else (m.wkS l va).read (m.trS l va a) (m.trP l va a) (m.trO l va a)) else m.wkS l va
theorem reach_any (w : World) (f : Fp) (m : MS) (h : Mem w f m) (hU : m.U) (l va a v : Int) (h0 : 0 ≤ va) (h1 : va < 4294967296) (ha : a = 0 ∨ a = 1) :
    Calls Tryz.prog 56 #[ptr f.gm, .int .i64 l, .int .u32 va, .int .i64 a, .int .u32 v] w fun x w' => x = .returned (.tuple #[.int .u32 (m.rcW l va a v), .int .i64 (m.trE l va a)]) ∧ Rd w w' f (m.rcM l va a v) := by
  have HT := hid (translate_any w f m h hU l va a h0 h1)
  have HE := hid (@tr_err m l va a)
  have HW := hid (fun w' (hm : Mem w' f (m.wkS l va)) => write_any w' f (m.wkS l va) hm (m.trS l va a) (m.trP l va a) (m.trO l va a) v)
  have HR := hid (fun w' (hm : Mem w' f (m.wkS l va)) => read_any w' f (m.wkS l va) hm (m.trS l va a) (m.trP l va a) (m.trO l va a))
  rw [MS.wkS_err] at HW HR
  rw [MS.wkS_word] at HR
  clear h hU h0 h1
  unfold MS.rcW MS.rcM
  generalize m.trS l va a = ts at *
  generalize m.trP l va a = tp at *
  generalize m.trO l va a = tof at *
  generalize m.trE l va a = te at *
  generalize m.word ts tp tof = wv at *
  generalize m.err ts tp tof = er at *
  generalize m.wkS l va = m' at *
  unfold fr ptr at *
  by_cases hte : te = 0
  · subst hte
    have he := HE.out rfl
    subst he
    simp only [if_pos]
    rcases ha with rfl | rfl
    · rw [if_neg (by decide), if_neg (by decide)]
      go_enter Tryz.func56, Tryz.ntmps56
      go_wp2_with fail
      refine HT.out.mono ?_
      rintro x w1 ⟨rfl, hr1⟩
      have HR1 := hid (hr1.on (below_one _ (.cells #[.bool ts, .int .i64 tp] 59)))
      clear hr1
      go_wp2_with fail
      refine (HR.out _ HR1.out.mem).mono ?_
      rintro x w2 ⟨rfl, hm2, hb2⟩
      have HR2 := hid (HR1.out.step hm2 hb2)
      clear hm2 hb2
      go_wp2_with fail
      go_ret2
      exact ⟨rfl, HR2.out⟩
    · rw [if_pos rfl, if_pos rfl]
      go_enter Tryz.func56, Tryz.ntmps56
      go_wp2_with fail
      refine HT.out.mono ?_
      rintro x w1 ⟨rfl, hr1⟩
      have HR1 := hid (hr1.on (below_one _ (.cells #[.bool ts, .int .i64 tp] 59)))
      clear hr1
      go_wp2_with fail
      refine (HW.out _ HR1.out.mem).mono ?_
      rintro x w2 ⟨rfl, hm2, hb2⟩
      have HR2 := hid (HR1.out.step hm2 hb2)
      clear hm2 hb2
      go_wp2_with fail
      go_ret2
      exact ⟨rfl, HR2.out⟩
  · simp only [if_neg hte]
    have hte' : (te != 0) = true := by simpa using hte
    clear HE HW HR hte
    go_enter Tryz.func56, Tryz.ntmps56
    go_wp2_with fail
    refine HT.out.mono ?_
    rintro x w1 ⟨rfl, hr1⟩
    have HR1 := hid (hr1.on (below_one _ (.cells #[.bool ts, .int .i64 tp] 59)))
    clear hr1
    go_wp2_with fail
    go_ret2
    exact ⟨rfl, HR1.out⟩
/-- The tables that an instruction's road meets. -/
def grp (n : Nat) : Int := if n = 0 then 0 else if n ≤ 14 then 1 else if n = 15 ∨ n = 17 then 2 else if n = 16 ∨ n = 18 then 3 else if n ≤ 20 then 4 else if n ≤ 23 then 5 else 6
structure Tb (W : World) : Prop where
  g : ∀ n : Nat, n < 25 → W.cell? ⟨0, n, none⟩ = some (.int .i64 (grp n))
  f : I.Forms W
  t : I.Tab W
  s : I.RShapes W
  z : 3 < W.heap.size
theorem Tb.on {W w : World} (h : Tb W) (hb : Below W.heap.size W w) : Tb w :=
  ⟨fun n hn => (hb.cell (p := ⟨0, n, none⟩) (by have := h.z; show 0 < _; omega)).trans (h.g n hn), h.f.below hb h.z, h.t.below hb h.z, h.s.below hb h.z, by have := hb.size; have := h.z; omega⟩
theorem Tb.but {W w : World} {G : List Nat} (h : Tb W) (hb : ButL G W w) (hG : ∀ k ∈ G, 3 < k) : Tb w := by
  have hb' : Below 4 W w := hb.below (fun k hk => hG k hk) h.z
  exact ⟨fun n hn => (hb'.cell (p := ⟨0, n, none⟩) (by show 0 < 4; decide)).trans (h.g n hn), h.f.below hb' (by decide), h.t.below hb' (by decide), h.s.below hb' (by decide), by have := hb.size; have := h.z; omega⟩
theorem ret_two {P : Program} {fn : Func} {p q : Tmp} {ty e ty2 e2 : TypeId} {d d2 : TypeDesc} {a : Act} {w : World} {post : Ending → World → Prop} (hr : fn.results = #[.cell p ty, .cell q ty2]) (hd : a.defers = []) (g g2 : Nat) (cs cs2 : List Value)
    (hp : a.tmps.getD p undef = .pointer (some ⟨g, 0, none⟩)) (hq : a.tmps.getD q undef = .pointer (some ⟨g2, 0, none⟩)) (hb : Cel w g e cs) (hb2 : Cel w g2 e2 cs2) (hu : P.underlying ty = some d) (hu2 : P.underlying ty2 = some d2) (hdd : (match d with | .struct _ | .array _ _ => true | _ => false) = true) (hdd2 : (match d2 with | .struct _ | .array _ _ => true | _ => false) = true) (hi : (P.info? ty).map (·.size) = some cs.length) (hi2 : (P.info? ty2).map (·.size) = some cs2.length)
    (h : post (.returned (.tuple #[.agg cs.toArray, .agg cs2.toArray])) w) : bodyPost P fn post .ret a w := by
  refine bodyPost_ret (v := .tuple #[.agg cs.toArray, .agg cs2.toArray]) ?_ hd h
  have hp' : a.tmps[p]?.getD undef = .pointer (some ⟨g, 0, none⟩) := by simpa using hp
  have hq' : a.tmps[q]?.getD undef = .pointer (some ⟨g2, 0, none⟩) := by simpa using hq
  have h1 := run_loadVar_row (P := P) w g e ty _ (0, 0) _ hb hu hdd (by rw [hi]; simp)
  have h2 := run_loadVar_row (P := P) w g2 e2 ty2 _ (0, 0) _ hb2 hu2 hdd2 (by rw [hi2]; simp)
  simp [results, hr, hp', hq', asAddr, h1, h2]
end Go.Proofs.YteldpapacdbbiaaGreatDoor
