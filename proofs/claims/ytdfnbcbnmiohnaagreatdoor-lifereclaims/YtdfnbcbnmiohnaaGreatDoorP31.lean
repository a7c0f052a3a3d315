import Derived.Test.YtdfnbcbnmiohnaaGreatDoorP22
import Derived.Test.YtdfnbcbnmiohnaaGreatDoorP27
import Derived.Test.YtdfnbcbnmiohnaaGreatDoorP24
import Derived.Test.YtdfnbcbnmiohnaaGreatDoorP18
import Derived.Test.YtdfnbcbnmiohnaaGreatDoorP30
namespace Go.Proofs.YtdfnbcbnmiohnaaGreatDoor
open Go.RowKit
end Go.Proofs.YtdfnbcbnmiohnaaGreatDoor
namespace Go.Proofs.YtdfnbcbnmiohnaaGreatDoor
open Go.RowKit
end Go.Proofs.YtdfnbcbnmiohnaaGreatDoor
namespace Go.Proofs.YtdfnbcbnmiohnaaGreatDoor
open Go.RowKit
end Go.Proofs.YtdfnbcbnmiohnaaGreatDoor
namespace Go.Proofs.YtdfnbcbnmiohnaaGreatDoor
open Go.RowKit
theorem read_any (w : World) (f : Fp) (m : MS) (h : Mem w f m) (s : Bool) (p off : Int) :
    Calls Tryz.prog 111 #[ptr f.gm, fr s p, .int .i64 off] w fun x w' => x = .returned (.tuple #[.int .u32 (m.word s p off), .int .i64 (m.err s p off)]) ∧ Mem w' f (m.read s p off) ∧ ButL f.w w w' := by
  have hX := h.on (below_one w (.cells #[.bool s, .int .i64 p] 64))
  have hB := hid (below_one w (.cells #[.bool s, .int .i64 p] 64))
  have HF := hid (at_any _ f m hX s p off)
  have h1 := h.ns0
  have hlt : Hid (∀ k, m.at s p = some k → k < m.P.length) := fun k hk => MS.at_lt h1 hk
  have H := hid hX
  clear h hX h1
  unfold MS.err at HF ⊢
  unfold MS.word MS.read
  generalize hr : m.at s p = r at *
  cases r with
  | none =>
    simp only [fr, ptr, pa] at *
    go_enter Tryz.func111, Tryz.ntmps111
    go_wp2_with fail
    refine HF.out.mono ?_
    rintro x w1 ⟨rfl, hb1⟩
    have HB1 := hid (below_on hB.out hb1)
    have HM := hid (H.out.on hb1)
    clear hb1
    go_wp2_with fail
    go_ret2
    exact ⟨rfl, HM.out, .of HB1.out⟩
  | some k =>
    have hk := hlt.out k rfl
    by_cases ho : In off
    · simp only [fr, ptr, pa, if_pos ho] at *
      obtain ⟨o0, o1⟩ := ho
      go_enter Tryz.func111, Tryz.ntmps111
      go_wp2_with fail
      refine HF.out.mono ?_
      rintro x w1 ⟨rfl, hb1⟩
      have HB1 := hid (below_on hB.out hb1)
      have HM := hid (H.out.on hb1)
      have c2 := HM.out.cm
      have f2 := HM.out.cel.free 2
      have cc : (w1.setCell ⟨f.gm, 2, none⟩ (.int .i64 (wrap64 (m.c + 1)))).cell? ⟨f.b k, off.toNat, none⟩ = some (.int .u32 (wd (m.p k) off.toNat)) := (HM.out.tick 1).word k hk off.toNat (by omega)
      have HT := hid (HM.out.tick 1)
      clear hb1
      go_wp2_with fail
      go_ret2
      exact ⟨rfl, HT.out, (ButL.of HB1.out).trans (.setCell _ _ _ _ (by simp [Fp.w]))⟩
    · simp only [fr, ptr, pa, if_neg ho] at *
      clear ho
      go_enter Tryz.func111, Tryz.ntmps111
      go_wp2_with fail
      refine HF.out.mono ?_
      rintro x w1 ⟨rfl, hb1⟩
      have HB1 := hid (below_on hB.out hb1)
      have HM := hid (H.out.on hb1)
      clear hb1
      go_wp2_with fail
      go_ret2
      exact ⟨rfl, HM.out, .of HB1.out⟩
end Go.Proofs.YtdfnbcbnmiohnaaGreatDoor
namespace Go.Proofs.YtdfnbcbnmiohnaaGreatDoor
open Go.RowKit
end Go.Proofs.YtdfnbcbnmiohnaaGreatDoor
namespace Go.Proofs.YtdfnbcbnmiohnaaGreatDoor
open Go.RowKit
/-- Every word is a word. -/
def MS.U (m : MS) : Prop := ∀ k j, 0 ≤ wd (m.p k) j ∧ wd (m.p k) j < 4294967296
theorem MS.U.word {m : MS} (h : m.U) (s : Bool) (p off : Int) : 0 ≤ m.word s p off ∧ m.word s p off < 4294967296 := by
  unfold MS.word
  split
  · decide
  · split
    · exact h _ _
    · decide
end Go.Proofs.YtdfnbcbnmiohnaaGreatDoor
namespace Go.Proofs.YtdfnbcbnmiohnaaGreatDoor
open Go.RowKit
theorem MS.read_p (m : MS) (s : Bool) (p off : Int) (k : Nat) : (m.read s p off).p k = m.p k := by
  unfold MS.read
  split
  · rfl
  · split <;> rfl
theorem MS.U.read {m : MS} (h : m.U) (s : Bool) (p off : Int) : (m.read s p off).U := fun k j => by rw [MS.read_p]; exact h k j
theorem wd_set (L : List Int) (i j : Nat) (v : Int) : wd (L.set i v) j = if i = j ∧ j < L.length then v else wd L j := by
  unfold wd
  simp only [List.getD_eq_getElem?_getD, List.getElem?_set]
  split
  · rename_i h
    subst h
    by_cases hl : i < L.length
    · simp [hl]
    · simp [hl]
  · rename_i h
    simp [h]
theorem MS.write_p (m : MS) (s : Bool) (p o v : Int) (k j : Nat) : wd ((m.write s p o v).p k) j = v ∨ wd ((m.write s p o v).p k) j = wd (m.p k) j := by
  unfold MS.write
  split
  · exact .inr rfl
  · rename_i q hq
    split
    · simp only [MS.p, List.getD_eq_getElem?_getD, List.getElem?_set]
      split
      · split
        · rename_i h1 h2
          subst h1
          simp only [Option.getD_some]
          rw [wd_set]
          split
          · exact .inl rfl
          · exact .inr rfl
        · rename_i h1 h2
          refine .inr ?_
          subst h1
          rw [List.getElem?_eq_none (by omega)]
      · exact .inr rfl
    · exact .inr rfl
theorem MS.U.write {m : MS} (h : m.U) (s : Bool) (p o v : Int) (h0 : 0 ≤ v) (h1 : v < 4294967296) : (m.write s p o v).U := fun k j => by
  rcases m.write_p s p o v k j with e | e <;> rw [e]
  · exact ⟨h0, h1⟩
  · exact h k j
theorem MS.U.new (s n : Nat) : (MS.new s n).U := fun k j => by
  unfold MS.new MS.p
  simp only [List.getD_eq_getElem?_getD, List.getElem?_replicate]
  have hz : wd zs j = 0 := by unfold wd zs; rw [List.getD_eq_getElem?_getD, List.getElem?_replicate]; split <;> rfl
  split
  · simp only [Option.getD_some]; rw [hz]; decide
  · simp [wd]
theorem NewMem.write {W w w' : World} {f : Fp} {m m' : MS} (h : NewMem W w f m) (hm : Mem w' f m') (hb : ButL f.w w w') : NewMem W w' f m' :=
  ⟨hm, h.below.trans (hb.below (fun k hk => h.new k (by simp only [Fp.w, Fp.all, List.mem_cons] at hk ⊢; rcases hk with hk | hk <;> simp [hk])) h.below.size), h.new⟩
theorem NewMem.on {W w w' : World} {f : Fp} {m : MS} (h : NewMem W w f m) (hb : Below w.heap.size w w') : NewMem W w' f m := ⟨h.mem.on hb, below_on h.below hb, h.new⟩
theorem MS.read_eq (m : MS) (s : Bool) (p o : Int) : m.read s p o = if m.err s p o = 0 then m.tick 1 else m := by
  unfold MS.read MS.err
  cases m.at s p with
  | none => rfl
  | some k => by_cases h : In o <;> simp [h]
theorem MS.write_at (m : MS) (s : Bool) (p o v : Int) (s' : Bool) (p' : Int) : (m.write s p o v).at s' p' = m.at s' p' := by
  unfold MS.write
  split
  · rfl
  · split
    · unfold MS.at; simp only [MS.tick, List.length_set]; try rfl
    · rfl
theorem MS.at_inj {m : MS} {s s' : Bool} {p p' : Int} {k : Nat} (h0 : m.ns ≤ m.P.length) (h : m.at s p = some k) (h' : m.at s' p' = some k) : s = s' ∧ p = p' := by
  unfold MS.at at h h'
  cases s <;> cases s' <;> simp at h h'
  · exact ⟨rfl, by omega⟩
  · exfalso; omega
  · exfalso; omega
  · exact ⟨rfl, by omega⟩
theorem MS.write_word {m : MS} (h0 : m.ns ≤ m.P.length) (s : Bool) (p o v : Int) (s' : Bool) (p' o' : Int) (h : ¬ (s = s' ∧ p = p' ∧ o = o')) : (m.write s p o v).word s' p' o' = m.word s' p' o' := by
  unfold MS.word
  rw [MS.write_at]
  cases h1 : m.at s' p' with
  | none => rfl
  | some k =>
    simp only
    by_cases hi : In o'
    · rw [if_pos hi, if_pos hi]
      unfold MS.write
      cases h2 : m.at s p with
      | none => rfl
      | some q =>
        simp only
        by_cases hj : In o
        · rw [if_pos hj]
          simp only [MS.p, List.getD_eq_getElem?_getD, List.getElem?_set]
          by_cases hq : q = k
          · subst hq
            obtain ⟨e1, e2⟩ := MS.at_inj h0 h2 h1
            have hne : o ≠ o' := fun e => h ⟨e1, e2, e⟩
            by_cases hl : q < m.P.length
            · simp only [if_pos, hl, Option.getD_some]
              rw [wd_set, if_neg]
              rintro ⟨e, _⟩
              unfold In at hi hj
              omega
            · simp only [if_pos, hl, if_false]
              rw [List.getElem?_eq_none (by omega)]
          · simp only [if_neg hq]
        · rw [if_neg hj]
    · rw [if_neg hi, if_neg hi]
end Go.Proofs.YtdfnbcbnmiohnaaGreatDoor
namespace Go.Proofs.YtdfnbcbnmiohnaaGreatDoor
open Go.RowKit
set_option maxRecDepth 100000
set_option maxHeartbeats 4000000
theorem DG.new {W w : World} {p : Dp} {d : DS} {G : List Nat} {L : List (Nat × TypeId × List Value)} (h : DG W w p d G L) (u : TypeId) (es : List Value) : DG W (w.alloc (.cells es.toArray u)) p d G ((w.heap.size, u, es) :: L) := h.add (ds := es) (Cel.new w u es) (.refl _ _)
theorem DG.startw {W : World} {p : Dp} {d : DS} (h : DB W p d) : DG W W p d p.f.w [] := .start h _ (fun k hk => h.mem.lt k (Fp.w_all hk))
theorem DG.mem {W w w2 : World} {p : Dp} {d : DS} {L : List (Nat × TypeId × List Value)} {m' : MS} (h : DG W w p d p.f.w L) (hm : Mem w2 p.f m') (hb : ButL p.f.w w w2) (hn : m'.ns = d.m.ns) : DG W w2 p { d with m := m' } p.f.w L := h.step (h.db.memory hm hb hn) hb (fun _ hk => hk)
theorem MS.read_ns (m : MS) (s : Bool) (p off : Int) : (m.read s p off).ns = m.ns := by
  unfold MS.read
  split
  · rfl
  · split <;> rfl
def DS.wr (d : DS) (pg off v : Int) : DS := { d with m := d.m.write true pg off v }
theorem Dp.fw_w (p : Dp) : ∀ k ∈ p.f.w, k ∈ p.w := fun _ hk => List.mem_cons_of_mem _ hk
theorem Dp.w_all' (p : Dp) : ∀ k ∈ p.w, k ∈ p.all := fun _ hk => Dp.w_all hk
structure DS.Sim (d d' : DS) : Prop where
  E : d'.E = d.E
  b : d'.b = d.b
  ns : d'.m.ns = d.m.ns
  P : d'.m.P = d.m.P
theorem DS.Sim.refl (d : DS) : DS.Sim d d := ⟨rfl, rfl, rfl, rfl⟩
theorem DS.Sim.symm {d e : DS} (h : DS.Sim d e) : DS.Sim e d := ⟨h.E.symm, h.b.symm, h.ns.symm, h.P.symm⟩
theorem DS.Sim.trans {d e f : DS} (h : DS.Sim d e) (k : DS.Sim e f) : DS.Sim d f := ⟨k.E.trans h.E, k.b.trans h.b, k.ns.trans h.ns, k.P.trans h.P⟩
theorem DS.Sim.at {d e : DS} (h : DS.Sim d e) (k : Nat) : e.at k = d.at k := by unfold DS.at; rw [h.E]
theorem DS.Sim.there {d e : DS} (h : DS.Sim d e) (q : Int) : e.there q = d.there q := by unfold DS.there; rw [h.ns]
theorem DS.Sim.ent {d e : DS} (h : DS.Sim d e) (q : Int) : e.ent q = d.ent q := by unfold DS.ent; rw [h.there, h.at]
theorem DS.Sim.entE {d e : DS} (h : DS.Sim d e) (q : Int) : e.entE q = d.entE q := by unfold DS.entE; rw [h.there]
theorem DS.Sim.mat {d e : DS} (h : DS.Sim d e) (s : Bool) (q : Int) : e.m.at s q = d.m.at s q := by unfold MS.at; rw [h.ns, h.P]
theorem DS.Sim.p {d e : DS} (h : DS.Sim d e) (k : Nat) : e.m.p k = d.m.p k := by unfold MS.p; rw [h.P]
theorem DS.Sim.word {d e : DS} (h : DS.Sim d e) (s : Bool) (q o : Int) : e.m.word s q o = d.m.word s q o := by unfold MS.word; simp only [h.mat, h.p]
theorem DS.Sim.err {d e : DS} (h : DS.Sim d e) (s : Bool) (q o : Int) : e.m.err s q o = d.m.err s q o := by unfold MS.err; rw [h.mat]
theorem DS.Sim.U {d e : DS} (h : DS.Sim d e) (k : d.m.U) : e.m.U := fun i j => by rw [h.p]; exact k i j
theorem DS.Sim.ws {d e : DS} (h : DS.Sim d e) : e.ws = d.ws := by unfold DS.ws; rw [h.E, h.b]
theorem DS.Sim.same {d e : DS} (h : DS.Sim d e) : d.m.same e.m = true := by unfold MS.same; rw [h.ns, h.P]; simp
theorem DS.Sim.read (d : DS) (s : Bool) (q o : Int) : DS.Sim d { d with m := d.m.read s q o } := by
  rw [MS.read_eq]
  split
  · exact ⟨rfl, rfl, rfl, rfl⟩
  · exact .refl d
theorem DS.Sim.ok {d e : DS} (h : DS.Sim d e) (k : d.Ok) : e.Ok := ⟨by rw [h.E, h.ns]; exact k.len, by rw [h.ns]; exact k.n64, fun i hi => by rw [h.at]; exact k.ok i (by rw [← h.ns]; exact hi), fun i hi => by rw [h.at, h.ns]; exact k.own i (by rw [← h.ns]; exact hi), by rw [h.b]; exact k.b0, by rw [h.b]; exact k.b1⟩
structure Gl (W : World) (p : Dp) : Prop where
  tab : H.Tab W
  sz : 1 < W.heap.size
  off : ∀ k ∈ p.all, 2 ≤ k
theorem Gl.step {W w : World} {p : Dp} {G : List Nat} (h : Gl W p) (hb : ButL G W w) (hG : ∀ k ∈ G, k ∈ p.all) : Gl w p :=
  ⟨h.tab.below (hb.below (B := 2) (fun k hk => h.off k (hG k hk)) h.sz) (by decide), by have := hb.size; have := h.sz; omega, h.off⟩
theorem Gl.on {W w : World} {p : Dp} (h : Gl W p) (hb : Below W.heap.size W w) : Gl w p := h.step (G := []) (.of hb) (by simp)
def DS.st (d : DS) (s : Int) : List Int := (List.range 26).map fun (i : Nat) => d.m.word true s (11 + (i : Int))
theorem DS.st_length (d : DS) (s : Int) : (d.st s).length = 26 := by simp [DS.st]
theorem DS.st_get (d : DS) (s : Int) (i : Nat) (h : i < 26) : (d.st s)[i]? = some (d.m.word true s (11 + (i : Int))) := by simp [DS.st, h]
theorem DS.st_wds {d : DS} (h : d.m.U) (s : Int) : H.Wds (d.st s) := fun i => by
  by_cases hi : i < 26
  · rw [List.getD_eq_getElem?_getD, d.st_get s i hi]; exact h.word _ _ _
  · rw [List.getD_eq_getElem?_getD, List.getElem?_eq_none (by rw [d.st_length]; omega)]; decide
theorem DS.Sim.st {d e : DS} (h : DS.Sim d e) (s : Int) : e.st s = d.st s := by unfold DS.st; simp only [h.word]
def mix (A B : List Int) (j : Nat) : List Int := A.take j ++ B.drop j
theorem mix_zero (A B : List Int) : mix A B 0 = B := rfl
theorem mix_all (A B : List Int) (h : A.length = B.length) : mix A B A.length = A := by unfold mix; rw [List.take_length, List.drop_of_length_le (by omega), List.append_nil]
theorem mix_set (A B : List Int) (j : Nat) (x : Int) (hA : j < A.length) (h : A.length = B.length) (hx : A[j]? = some x) : (u32s (mix A B j)).set j (.int .u32 x) = u32s (mix A B (j + 1)) := by
  have h1 : (A.take j).length = j := by rw [List.length_take]; omega
  have hB : j < B.length := by omega
  rw [u32s_set]
  congr 1
  unfold mix
  rw [List.set_append_right _ _ (by omega), h1, Nat.sub_self, List.drop_eq_getElem_cons hB, List.set_cons_zero, List.take_add_one, hx]
  simp
theorem mix_cell {w : World} {g : Nat} {t : TypeId} {A B : List Int} {j : Nat} (h : Cel w g t (u32s (mix A B j))) (hA : j < A.length) (hl : A.length = B.length) : ∃ y, w.cell? ⟨g, j, none⟩ = some (.int .u32 y) := by
  have h1 : (mix A B j).length = A.length := by unfold mix; rw [List.length_append, List.length_take, List.length_drop]; omega
  refine ⟨(mix A B j)[j]'(by omega), ?_⟩
  rw [h.cell]
  simp [u32s]
def DS.dig (d : DS) (s : Int) (L : List Int) : Nat → DS
  | 0 => d
  | j + 1 => (d.dig s L j).wr s (11 + (j : Int)) (L.getD j 0)
theorem DS.Sim.wc {d e : DS} (h : DS.Sim d e) : e = { d with m := { d.m with c := e.m.c } } := by
  obtain ⟨⟨c, ns, P⟩, b, E⟩ := d
  obtain ⟨⟨c', ns', P'⟩, b', E'⟩ := e
  obtain ⟨h1, h2, h3, h4⟩ := h
  simp only at h1 h2 h3 h4
  subst h1 h2 h3 h4
  rfl
theorem DS.Sim.takeE {d e : DS} (h : DS.Sim d e) (q t s : Int) : e.takeE q t s = d.takeE q t s := by unfold DS.takeE DS.more; rw [h.entE, h.ent, h.ent]
theorem DS.Sim.bearE {d e : DS} (h : DS.Sim d e) (s f : Int) : e.bearE s f = d.bearE s f := by unfold DS.bearE; rw [h.entE, h.entE, h.ent, h.ent, h.b]
theorem DS.Sim.lay {d e : DS} (h : DS.Sim d e) (k : Nat) (x : En) : DS.Sim (d.lay k x) (e.lay k x) := ⟨by unfold DS.lay; simp only [h.E], h.b, h.ns, h.P⟩
theorem DS.Sim.take {d e : DS} (h : DS.Sim d e) (q t s : Int) : DS.Sim (d.take q t s) (e.take q t s) := by
  unfold DS.take
  rw [h.takeE]
  split
  · unfold DS.taken DS.cnt
    have := (h.lay q.toNat (enT t s))
    rw [this.at]
    exact this.lay _ _
  · exact h
theorem MS.write_sim (m : MS) (c : Int) (s : Bool) (q o v : Int) : (MS.write { m with c := c } s q o v).ns = (m.write s q o v).ns ∧ (MS.write { m with c := c } s q o v).P = (m.write s q o v).P := by
  unfold MS.write
  rw [show MS.at { m with c := c } s q = m.at s q from rfl]
  split
  · exact ⟨rfl, rfl⟩
  · split <;> exact ⟨rfl, rfl⟩
theorem MS.zero_sim (m : MS) (c : Int) (s : Bool) (q : Int) : (MS.zero { m with c := c } s q).ns = (m.zero s q).ns ∧ (MS.zero { m with c := c } s q).P = (m.zero s q).P := by
  unfold MS.zero
  rw [show MS.at { m with c := c } s q = m.at s q from rfl]
  split <;> exact ⟨rfl, rfl⟩
theorem DS.Sim.write {d e : DS} (h : DS.Sim d e) (s : Bool) (q o v : Int) : DS.Sim { d with m := d.m.write s q o v } { e with m := e.m.write s q o v } := by
  rw [h.wc]
  have := MS.write_sim d.m e.m.c s q o v
  exact ⟨rfl, rfl, this.1, this.2⟩
theorem DS.Sim.wr {d e : DS} (h : DS.Sim d e) (q o v : Int) : DS.Sim (d.wr q o v) (e.wr q o v) := h.write true q o v
theorem DS.Sim.dig {d e : DS} (h : DS.Sim d e) (s : Int) (L : List Int) : ∀ j, DS.Sim (d.dig s L j) (e.dig s L j)
  | 0 => h
  | j + 1 => (DS.Sim.dig h s L j).wr _ _ _
theorem DS.Sim.wipe {d e : DS} (h : DS.Sim d e) (q : Int) : DS.Sim (d.wipe q) (e.wipe q) := by
  rw [h.wc]
  have := MS.zero_sim d.m e.m.c true q
  exact ⟨rfl, rfl, this.1, this.2⟩
theorem st_of {d e : DS} {a : Int} (h : ∀ o, e.m.word true a o = d.m.word true a o) : e.st a = d.st a := by
  unfold DS.st; simp only [h]
theorem MS.set_at (m : MS) (k : Nat) (L : List Int) (n : Int) (s : Bool) (x : Int) : MS.at { m.tick n with P := m.P.set k L } s x = m.at s x := by unfold MS.at; simp only [MS.tick, List.length_set]; rfl
theorem MS.set_p (m : MS) (k i : Nat) (L : List Int) (n : Int) (h : i ≠ k) : MS.p { m.tick n with P := m.P.set k L } i = m.p i := by
  simp only [MS.p, List.getD_eq_getElem?_getD, List.getElem?_set]
  rw [if_neg (fun e => h e.symm)]
theorem at_sec {m : MS} {b : Int} (h0 : 0 ≤ b) (h1 : b < (m.ns : Int)) : m.at true b = some b.toNat := by unfold MS.at; rw [if_pos h0]; simp [h1]
theorem MS.write_len (m : MS) (s : Bool) (q o v : Int) : (m.write s q o v).P.length = m.P.length := by
  unfold MS.write
  split
  · rfl
  · split
    · simp
    · rfl
structure DS.Fit (d e : DS) : Prop where
  U : d.m.U → e.m.U
  ns : e.m.ns = d.m.ns
  P : e.m.P.length = d.m.P.length
theorem DS.Fit.refl (d : DS) : DS.Fit d d := ⟨id, rfl, rfl⟩
theorem DS.Fit.trans {d e f : DS} (h : DS.Fit d e) (k : DS.Fit e f) : DS.Fit d f := ⟨fun u => k.U (h.U u), k.ns.trans h.ns, k.P.trans h.P⟩
theorem DS.Sim.fit {d e : DS} (h : DS.Sim d e) : DS.Fit d e := ⟨h.U, h.ns, by rw [h.P]⟩
theorem fit_write (d : DS) (s : Bool) (q o v : Int) (h0 : 0 ≤ v) (h1 : v < 4294967296) : DS.Fit d { d with m := d.m.write s q o v } := ⟨fun u => u.write s q o v h0 h1, MS.write_ns _ _ _ _ _, MS.write_len _ _ _ _ _⟩
theorem fit_wr (d : DS) (q o v : Int) (h0 : 0 ≤ v) (h1 : v < 4294967296) : DS.Fit d (d.wr q o v) := fit_write d true q o v h0 h1
theorem fit_m {d e : DS} (h : e.m = d.m) : DS.Fit d e := ⟨fun u => by rw [h]; exact u, by rw [h], by rw [h]⟩
theorem fit_dig (d : DS) (s : Int) (L : List Int) (hL : H.Wds L) : ∀ j, DS.Fit d (d.dig s L j)
  | 0 => .refl d
  | j + 1 => (fit_dig d s L hL j).trans (fit_wr _ s _ _ (hL j).1 (hL j).2)
theorem fit_space {d : DS} (hk : d.Ok) (s f : Int) (f0 : 0 ≤ f) (f1 : f < 4294967296) : DS.Fit d (d.takeSpace s f) := by
  unfold DS.takeSpace
  split
  · have b0 := hk.b0
    have b1 := hk.b1
    have h1 := fit_write d true s 0 f f0 f1
    have h2 := fit_write { d with m := d.m.write true s 0 f } true s 1 d.b b0 (by omega)
    have h3 := fit_write { d with m := (d.m.write true s 0 f).write true s 1 d.b } true s 2 0 (by decide) (by decide)
    have h4 := h1.trans (h2.trans h3)
    exact ⟨h4.U, h4.ns, h4.P⟩
  · exact .refl d
theorem fit_wipe (d : DS) (q : Int) : DS.Fit d (d.wipe q) := by
  refine ⟨fun u => ?_, MS.zero_ns _ _ _, ?_⟩
  · show (d.m.zero true q).U
    unfold MS.zero
    split
    · exact u
    · rename_i k hk
      intro i n
      by_cases e : i = k
      · subst e
        by_cases hl : i < d.m.P.length
        · simp only [MS.p, List.getD_eq_getElem?_getD, List.getElem?_set, if_true, if_pos hl, Option.getD_some]
          unfold wd zs
          rw [List.getD_eq_getElem?_getD, List.getElem?_replicate]
          split <;> decide
        · simp only [MS.p, List.getD_eq_getElem?_getD, List.getElem?_set, if_true, if_neg hl, Option.getD_none]
          simp [wd]
      · rw [MS.set_p _ _ _ _ _ e]; exact u i n
  · show (d.m.zero true q).P.length = _
    unfold MS.zero
    split
    · rfl
    · simp
theorem fit_give (d : DS) (q : Int) : DS.Fit d (d.give q) := by
  have h : DS.Fit d (d.freed q) := (fit_m (d := d) (e := d.lay q.toNat En.zero) rfl).trans (fit_wipe _ q)
  unfold DS.give
  split
  · unfold DS.given
    split
    · exact h.trans (fit_m rfl)
    · exact h
  · exact .refl d
theorem fit_state (d : DS) (q s : Int) : DS.Fit d (d.state q s) := by
  unfold DS.state
  split
  · exact fit_m rfl
  · exact .refl d
theorem MS.word_same {m : MS} (h0 : m.ns ≤ m.P.length) (hf : ∀ k, k < m.P.length → (m.p k).length = 1024) {s : Bool} {q : Int} {k : Nat} (hq : m.at s q = some k) {o : Int} (ho : In o) (v : Int) : (m.write s q o v).word s q o = v := by
  have hk := MS.at_lt h0 hq
  have hl := hf k hk
  have h1 : m.write s q o v = { m.tick 1 with P := m.P.set k ((m.p k).set o.toNat v) } := by unfold MS.write; rw [hq]; simp only [if_pos ho]
  rw [h1]
  unfold MS.word
  rw [MS.set_at, hq]
  simp only [if_pos ho, MS.p, List.getD_eq_getElem?_getD, List.getElem?_set, if_true, if_pos hk, Option.getD_some]
  unfold wd
  unfold In at ho
  rw [List.getD_eq_getElem?_getD, List.getElem?_set, if_pos rfl, if_pos (by simp only [MS.p, List.getD_eq_getElem?_getD] at hl; omega)]
  rfl
theorem MS.write_full {m : MS} (hf : ∀ k, k < m.P.length → (m.p k).length = 1024) (s : Bool) (q o v : Int) : ∀ k, k < (m.write s q o v).P.length → ((m.write s q o v).p k).length = 1024 := by
  intro k hk
  rw [MS.write_len] at hk
  unfold MS.write
  split
  · exact hf k hk
  · rename_i i hi
    split
    · by_cases e : k = i
      · subst e
        simp only [MS.p, List.getD_eq_getElem?_getD, List.getElem?_set, if_true, if_pos hk, Option.getD_some, List.length_set]
        have := hf k hk
        simpa [MS.p, List.getD_eq_getElem?_getD] using this
      · rw [MS.set_p _ _ _ _ _ e]; exact hf k hk
    · exact hf k hk
structure MS.Whole (m : MS) : Prop where
  ns0 : m.ns ≤ m.P.length
  full : ∀ k, k < m.P.length → (m.p k).length = 1024
theorem Mem.whole {w : World} {f : Fp} {m : MS} (h : Mem w f m) : m.Whole := ⟨h.ns0, h.full⟩
theorem MS.Whole.write {m : MS} (h : m.Whole) (s : Bool) (q o v : Int) : (m.write s q o v).Whole := ⟨by rw [MS.write_ns, MS.write_len]; exact h.ns0, MS.write_full h.full s q o v⟩
theorem dig_at (d : DS) (s : Int) (L : List Int) (x : Bool) (q : Int) : ∀ j, (d.dig s L j).m.at x q = d.m.at x q
  | 0 => rfl
  | j + 1 => (MS.write_at _ _ _ _ _ _ _).trans (dig_at d s L x q j)
theorem dig_whole {d : DS} (h : d.m.Whole) (s : Int) (L : List Int) : ∀ j, (d.dig s L j).m.Whole
  | 0 => h
  | j + 1 => (dig_whole h s L j).write _ _ _ _
theorem dig_other {d : DS} (h : d.m.Whole) (s : Int) (L : List Int) (x : Bool) (q o : Int) (hq : ¬ (x = true ∧ q = s)) : ∀ j, (d.dig s L j).m.word x q o = d.m.word x q o
  | 0 => rfl
  | j + 1 => (MS.write_word (dig_whole h s L j).ns0 _ _ _ _ _ _ _ (fun e => hq ⟨e.1.symm, e.2.1.symm⟩)).trans (dig_other h s L x q o hq j)
theorem dig_word {d : DS} (h : d.m.Whole) (s : Int) (L : List Int) (hs : d.there s = true) (o : Int) : ∀ j, j ≤ 26 → (d.dig s L j).m.word true s o = if 11 ≤ o ∧ o < 11 + (j : Int) then L.getD (o - 11).toNat 0 else d.m.word true s o
  | 0, _ => by rw [if_neg (by omega)]; rfl
  | j + 1, hj => by
    have hi := dig_word h s L hs o j (by omega)
    obtain ⟨s0, s1, s2⟩ := there_lt hs
    have hat : (d.dig s L j).m.at true s = some s.toNat := by rw [dig_at]; exact at_sec s0 (by omega)
    by_cases e : o = 11 + (j : Int)
    · subst e
      rw [if_pos (by omega)]
      show ((d.dig s L j).m.write true s (11 + (j : Int)) (L.getD j 0)).word true s (11 + (j : Int)) = _
      rw [MS.word_same (dig_whole h s L j).ns0 (dig_whole h s L j).full hat (by unfold In; omega)]
      congr 1
      omega
    · show ((d.dig s L j).m.write true s (11 + (j : Int)) (L.getD j 0)).word true s o = _
      rw [MS.write_word (dig_whole h s L j).ns0 _ _ _ _ _ _ _ (fun x => e x.2.2.symm), hi]
      by_cases e2 : 11 ≤ o ∧ o < 11 + (j : Int)
      · rw [if_pos e2, if_pos (by omega)]
      · rw [if_neg e2, if_neg (by omega)]
theorem dig_st {d : DS} (h : d.m.Whole) (s : Int) (L : List Int) (hs : d.there s = true) (hL : L.length = 26) : (d.dig s L 26).st s = L := by
  apply List.ext_getElem?
  intro i
  by_cases hi : i < 26
  · rw [DS.st_get _ _ _ hi, dig_word h s L hs _ 26 (Nat.le_refl _), if_pos (by omega), show (11 + (i : Int) - 11).toNat = i by omega, List.getD_eq_getElem?_getD, List.getElem?_eq_getElem (by omega)]
    rfl
  · rw [List.getElem?_eq_none (by rw [DS.st_length]; omega), List.getElem?_eq_none (by omega)]
theorem dig_E (d : DS) (s : Int) (L : List Int) : ∀ j, (d.dig s L j).E = d.E ∧ (d.dig s L j).b = d.b ∧ (d.dig s L j).m.ns = d.m.ns
  | 0 => ⟨rfl, rfl, rfl⟩
  | j + 1 => ⟨(dig_E d s L j).1, (dig_E d s L j).2.1, (MS.write_ns _ _ _ _ _).trans (dig_E d s L j).2.2⟩
theorem wds_nil' : H.Wds [] := fun i => by simp
theorem zall_len (m : MS) : ∀ k, (m.zall k).P.length = m.P.length
  | 0 => rfl
  | k + 1 => by
    show ((m.zall k).zero true (k : Int)).P.length = _
    unfold MS.zero
    split
    · exact zall_len m k
    · simp only [List.length_set]; exact zall_len m k
theorem zall_U {m : MS} (h : m.U) : ∀ k, (m.zall k).U
  | 0 => h
  | k + 1 => (fit_wipe (⟨m.zall k, 0, []⟩ : DS) (k : Int)).U (zall_U h k)
theorem zdig (j : Nat) : (List.replicate 26 (0 : Int)).getD j 0 = 0 := by
  rw [List.getD_eq_getElem?_getD, List.getElem?_replicate]; split <;> rfl
theorem rangeAt_on {W W' : World} {g off : Nat} {cs : List Value} (h : W.rangeAt g off cs) (hg : g < W.heap.size) (hb : Below W.heap.size W W') : W'.rangeAt g off cs := fun j v hv => by
  have := h j v hv
  unfold World.cell? at this ⊢
  rw [hb.block g hg]
  exact this
end Go.Proofs.YtdfnbcbnmiohnaaGreatDoor
namespace Go.Proofs.YtdfnbcbnmiohnaaGreatDoor
open Go.RowKit
theorem cntN_ext {f g : Nat → Bool} {n : Nat} (h : ∀ k, k < n → f k = g k) : cntN f n = cntN g n := by
  induction n with
  | zero => rfl
  | succ n ih => rw [cntN, cntN, ih (fun k hk => h k (by omega)), h n (by omega)]
theorem cntN_one {f g : Nat → Bool} {n k : Nat} (hk : k < n) (h : ∀ j, j < n → j ≠ k → f j = g j) : cntN f n + (if g k = true then 1 else 0) = cntN g n + (if f k = true then 1 else 0) := by
  induction n with
  | zero => omega
  | succ n ih =>
    by_cases e : k = n
    · subst e
      rw [cntN, cntN, cntN_ext (fun j hj => h j (by omega) (by omega))]
      omega
    · have := ih (by omega) (fun j hj hne => h j (by omega) hne)
      rw [cntN, cntN, h n (by omega) (fun e' => e e'.symm)]
      omega
theorem cntN_none {f : Nat → Bool} {n : Nat} (h : ∀ k, k < n → f k = false) : cntN f n = 0 := by
  induction n with
  | zero => rfl
  | succ n ih => rw [cntN, ih (fun k hk => h k (by omega)), h n (by omega)]; rfl
theorem cntN_zero {f : Nat → Bool} {n : Nat} (h : cntN f n = 0) : ∀ k, k < n → f k = false := by
  induction n with
  | zero => intro k hk; omega
  | succ n ih =>
    rw [cntN] at h
    intro k hk
    by_cases e : k = n
    · subst e
      cases hf : f k
      · rfl
      · rw [hf] at h; simp at h
    · exact ih (by omega) k (by omega)
theorem cntN_pos {f : Nat → Bool} {n k : Nat} (hk : k < n) (h : f k = true) : 0 < cntN f n := by
  rcases Nat.eq_zero_or_pos (cntN f n) with e | e
  · rw [cntN_zero e k hk] at h; cases h
  · exact e
theorem cntN_single {f : Nat → Bool} {n k : Nat} (hk : k < n) (h1 : f k = true) (h : ∀ j, j < n → j ≠ k → f j = false) : cntN f n = 1 := by
  have := cntN_one (f := f) (g := fun _ => false) hk h
  rw [cntN_none (f := fun _ => false) (fun _ _ => rfl), h1] at this
  simpa using this
theorem lstN_cnt (f : Nat → Bool) (n : Nat) : (lstN f n).length = cntN f n := by
  induction n with
  | zero => rfl
  | succ n ih => rw [lstN, cntN, List.length_append, ih]; split <;> simp
def upd (a : Nat → En) (k : Nat) (x : En) : Nat → En := fun j => if j = k then x else a j
theorem upd_self (a : Nat → En) (k : Nat) (x : En) : upd a k x k = x := if_pos rfl
theorem upd_ne (a : Nat → En) {k j : Nat} (x : En) (h : j ≠ k) : upd a k x j = a j := if_neg h
theorem lay_upd {d : DS} {k : Nat} (x : En) (hk : k < d.E.length) : (d.lay k x).at = upd d.at k x := by
  funext j; exact lay_at k j x hk
/-- Owners are spaces; a space is its own owner, and its references are counts. -/
structure InvF (a : Nat → En) (n : Nat) : Prop where
  sp : ∀ k, k < n → (a k).t ≠ 0 → 0 ≤ (a k).o ∧ (a k).o.toNat < n ∧ (a (a k).o.toNat).t = 1
  ow : ∀ k, k < n → (a k).t = 1 → (a k).o = (k : Int) ∧ (a k).r = (cntN (fun j => isO (k : Int) (j : Int) (a j)) n : Int)
theorem isO_iff (s k : Int) (x : En) : isO s k x = true ↔ k ≠ s ∧ x.o = s ∧ x.t ≠ 0 := by simp [isO]
theorem isO_f {s k : Int} {x : En} (h : ¬ (k ≠ s ∧ x.o = s ∧ x.t ≠ 0)) : isO s k x = false := by
  cases hh : isO s k x
  · rfl
  · exact absurd ((isO_iff _ _ _).1 hh) h
theorem isO_cg {s k : Int} {x y : En} (h1 : x.o = y.o) (h2 : x.t = y.t) : isO s k x = isO s k y := by unfold isO; rw [h1, h2]
theorem InvF.zero (n : Nat) : InvF (fun _ => En.zero) n := ⟨fun _ _ h => absurd rfl h, fun _ _ h => by cases h⟩
theorem InvF.space {a : Nat → En} {n s f : Nat} (h : InvF a n) (hs : s < n) (hf : f < n) (hne : s ≠ f) (ts : (a s).t = 0) (tf : (a f).t = 0) : InvF (upd (upd a f (enF (s : Int))) s (enS (s : Int))) n := by
  have hnone : ∀ j, j < n → (a j).t ≠ 0 → (a j).o ≠ (s : Int) := fun j hj ht e => by
    have := (h.sp j hj ht).2.2
    rw [e, Int.toNat_natCast, ts] at this
    cases this
  have hnonf : ∀ j, j < n → (a j).t ≠ 0 → (a j).o ≠ (f : Int) := fun j hj ht e => by
    have := (h.sp j hj ht).2.2
    rw [e, Int.toNat_natCast, tf] at this
    cases this
  refine ⟨fun k hk ht => ?_, fun k hk ht => ?_⟩
  · by_cases e1 : k = s
    · subst e1; rw [upd_self]; simp only [enS, Int.toNat_natCast]; rw [upd_self]; exact ⟨by omega, hk, rfl⟩
    · rw [upd_ne _ _ e1] at ht ⊢
      by_cases e2 : k = f
      · subst e2; rw [upd_self]; simp only [enF, Int.toNat_natCast]; rw [upd_self]; exact ⟨by omega, hs, rfl⟩
      · rw [upd_ne _ _ e2] at ht ⊢
        have h1 := h.sp k hk ht
        have h2 := hnone k hk ht
        have h3 := hnonf k hk ht
        rw [upd_ne _ _ (by omega), upd_ne _ _ (by omega)]
        exact h1
  · by_cases e1 : k = s
    · subst e1
      rw [upd_self]
      refine ⟨rfl, ?_⟩
      rw [cntN_single hf]
      · rfl
      · rw [isO_iff, upd_ne _ _ (Ne.symm hne), upd_self]; exact ⟨by omega, rfl, by simp [enF]⟩
      · intro j hj hjf
        refine isO_f ?_
        rintro ⟨h1, h2, h3⟩
        have e2 : j ≠ k := by omega
        rw [upd_ne _ _ e2, upd_ne _ _ hjf] at h2 h3
        exact hnone j hj h3 h2
    · rw [upd_ne _ _ e1] at ht ⊢
      by_cases e2 : k = f
      · subst e2; rw [upd_self] at ht; cases ht
      · rw [upd_ne _ _ e2] at ht ⊢
        obtain ⟨h1, h2⟩ := h.ow k hk ht
        refine ⟨h1, h2.trans ?_⟩
        congr 1
        refine cntN_ext fun j hj => ?_
        by_cases e3 : j = s
        · subst e3
          rw [upd_self, isO_f (by rw [ts]; simp), isO_f (by simp only [enS]; omega)]
        · rw [upd_ne _ _ e3]
          by_cases e4 : j = f
          · subst e4
            rw [upd_self, isO_f (by rw [tf]; simp), isO_f (by simp only [enF]; omega)]
          · rw [upd_ne _ _ e4]
theorem InvF.taken {a : Nat → En} {n q s : Nat} {t : Int} (h : InvF a n) (hq : q < n) (hs : s < n) (tq : (a q).t = 0) (ts : (a s).t = 1) (t0 : t ≠ 0) (t1 : t ≠ 1) : InvF (upd (upd a q (enT t (s : Int))) s { a s with r := (a s).r + 1 }) n := by
  have hne : s ≠ q := fun e => by rw [e, tq] at ts; cases ts
  have hso : (a s).o = (s : Int) := (h.ow s hs ts).1
  have hnonq : ∀ j, j < n → (a j).t ≠ 0 → (a j).o ≠ (q : Int) := fun j hj ht e => by
    have := (h.sp j hj ht).2.2
    rw [e, Int.toNat_natCast, tq] at this
    cases this
  refine ⟨fun k hk ht => ?_, fun k hk ht => ?_⟩
  · by_cases e1 : k = s
    · subst e1; rw [upd_self]; simp only [hso, Int.toNat_natCast]; rw [upd_self]; exact ⟨by omega, hk, ts⟩
    · rw [upd_ne _ _ e1] at ht ⊢
      by_cases e2 : k = q
      · subst e2; rw [upd_self]; simp only [enT, Int.toNat_natCast]; rw [upd_self]; exact ⟨by omega, hs, ts⟩
      · rw [upd_ne _ _ e2] at ht ⊢
        have h1 := h.sp k hk ht
        have h3 := hnonq k hk ht
        by_cases e3 : (a k).o.toNat = s
        · rw [e3, upd_self]; exact ⟨h1.1, hs, ts⟩
        · rw [upd_ne _ _ e3, upd_ne _ _ (by omega)]; exact h1
  · by_cases e1 : k = s
    · subst e1
      rw [upd_self]
      refine ⟨hso, ?_⟩
      have h2 := (h.ow k hs ts).2
      obtain ⟨A, hA⟩ : ∃ A, A = upd (upd a q (enT t (k : Int))) k { a k with r := (a k).r + 1 } := ⟨_, rfl⟩
      rw [← hA]
      have h3 := cntN_one (f := fun j => isO (k : Int) (j : Int) (A j)) (g := fun j => isO (k : Int) (j : Int) (a j)) (k := q) hq (fun j hj hjq => by
        by_cases e3 : j = k
        · subst e3; rw [isO_f (x := A j) (by simp), isO_f (x := a j) (by simp)]
        · rw [hA, upd_ne _ _ e3, upd_ne _ _ hjq])
      have h4 : isO (k : Int) (q : Int) (a q) = false := isO_f (by rw [tq]; simp)
      have h5 : isO (k : Int) (q : Int) (A q) = true := (isO_iff _ _ _).2 (by rw [hA, upd_ne _ _ (Ne.symm hne), upd_self]; exact ⟨by omega, rfl, t0⟩)
      rw [h4, h5] at h3
      simp only [Bool.false_eq_true, if_false, if_true] at h3
      clear hA
      show (a k).r + 1 = ((cntN (fun j => isO (k : Int) (j : Int) (A j)) n : Nat) : Int)
      omega
    · rw [upd_ne _ _ e1] at ht ⊢
      by_cases e2 : k = q
      · subst e2; rw [upd_self] at ht; exact absurd ht t1
      · rw [upd_ne _ _ e2] at ht ⊢
        obtain ⟨h1, h2⟩ := h.ow k hk ht
        refine ⟨h1, h2.trans ?_⟩
        congr 1
        refine cntN_ext fun j hj => ?_
        by_cases e3 : j = s
        · subst e3; rw [upd_self]; exact isO_cg rfl rfl
        · rw [upd_ne _ _ e3]
          by_cases e4 : j = q
          · subst e4
            rw [upd_self, isO_f (by rw [tq]; simp), isO_f (by simp only [enT]; omega)]
          · rw [upd_ne _ _ e4]
/-- An entry changes, but its owner and whether it is free or a space. -/
theorem InvF.like {a : Nat → En} {n q : Nat} {x : En} (h : InvF a n) (ho : x.o = (a q).o) (h0 : x.t = 0 ↔ (a q).t = 0) (h1 : x.t = 1 ↔ (a q).t = 1) (hr : x.t = 1 → x.r = (a q).r) : InvF (upd a q x) n := by
  have ht : ∀ j, ((upd a q x j).t = 1 ↔ (a j).t = 1) ∧ ((upd a q x j).t = 0 ↔ (a j).t = 0) ∧ (upd a q x j).o = (a j).o := fun j => by
    by_cases e : j = q
    · subst e; rw [upd_self]; exact ⟨h1, h0, ho⟩
    · rw [upd_ne _ _ e]; exact ⟨Iff.rfl, Iff.rfl, rfl⟩
  have hO : ∀ s k : Int, ∀ j, isO s k (upd a q x j) = isO s k (a j) := fun s k j => by
    have := ht j
    cases hh : isO s k (a j)
    · refine isO_f (fun hc => ?_)
      have := (isO_iff s k (a j)).2 ⟨hc.1, (ht j).2.2 ▸ hc.2.1, fun e => hc.2.2 ((ht j).2.1.2 e)⟩
      rw [hh] at this; cases this
    · have := (isO_iff s k (a j)).1 hh
      exact (isO_iff _ _ _).2 ⟨this.1, (ht j).2.2.trans this.2.1, fun e => this.2.2 ((ht j).2.1.1 e)⟩
  refine ⟨fun k hk hkt => ?_, fun k hk hkt => ?_⟩
  · have := h.sp k hk (fun e => hkt ((ht k).2.1.2 e))
    rw [(ht k).2.2]
    exact ⟨this.1, this.2.1, (ht _).1.2 this.2.2⟩
  · have h3 := h.ow k hk ((ht k).1.1 hkt)
    refine ⟨(ht k).2.2.trans h3.1, ?_⟩
    rw [cntN_ext (fun j _ => hO _ _ j), ← h3.2]
    by_cases e : k = q
    · subst e; rw [upd_self] at hkt ⊢; exact hr hkt
    · rw [upd_ne _ _ e]
theorem InvF.freeS {a : Nat → En} {n q : Nat} (h : InvF a n) (hq : q < n) (tq : (a q).t = 1) (r0 : (a q).r ≤ 0) : InvF (upd a q En.zero) n := by
  obtain ⟨ho, hr⟩ := h.ow q hq tq
  have hno := cntN_zero (f := fun j => isO (q : Int) (j : Int) (a j)) (n := n) (by omega)
  have hn : ∀ k, k < n → k ≠ q → (a k).t ≠ 0 → (a k).o ≠ (q : Int) := fun k hk hkq ht e => by
    have : isO (q : Int) (k : Int) (a k) = false := hno k hk
    rw [(isO_iff _ _ _).2 ⟨by omega, e, ht⟩] at this
    cases this
  refine ⟨fun k hk ht => ?_, fun k hk ht => ?_⟩
  · by_cases e1 : k = q
    · subst e1; rw [upd_self] at ht; exact absurd rfl ht
    · rw [upd_ne _ _ e1] at ht ⊢
      have h1 := h.sp k hk ht
      have h2 := hn k hk e1 ht
      rw [upd_ne _ _ (by omega)]
      exact h1
  · by_cases e1 : k = q
    · subst e1; rw [upd_self] at ht; cases ht
    · rw [upd_ne _ _ e1] at ht ⊢
      obtain ⟨h1, h2⟩ := h.ow k hk ht
      refine ⟨h1, h2.trans ?_⟩
      congr 1
      refine cntN_ext fun j hj => ?_
      by_cases e3 : j = q
      · subst e3; rw [upd_self, isO_f (by rw [ho]; omega), isO_f (by simp [En.zero])]
      · rw [upd_ne _ _ e3]
theorem InvF.freeO {a : Nat → En} {n q : Nat} (h : InvF a n) (hq : q < n) (t0 : (a q).t ≠ 0) (t1 : (a q).t ≠ 1) : 0 < (upd a q En.zero (a q).o.toNat).r ∧ InvF (upd (upd a q En.zero) (a q).o.toNat { upd a q En.zero (a q).o.toNat with r := (upd a q En.zero (a q).o.toNat).r + -1 }) n := by
  obtain ⟨o0, o1, ot⟩ := h.sp q hq t0
  have hne : (a q).o.toNat ≠ q := fun e => by rw [e] at ot; exact t1 ot
  rw [upd_ne _ _ hne]
  generalize ho : (a q).o.toNat = o at *
  have hoI : (a q).o = (o : Int) := by omega
  have hoo := h.ow o o1 ot
  have hqc : isO (o : Int) (q : Int) (a q) = true := (isO_iff _ _ _).2 ⟨by omega, hoI, t0⟩
  have hpos := cntN_pos (f := fun j => isO (o : Int) (j : Int) (a j)) hq hqc
  refine ⟨by rw [hoo.2]; omega, fun k hk ht => ?_, fun k hk ht => ?_⟩
  · by_cases e1 : k = o
    · subst e1; rw [upd_self]; simp only [hoo.1, Int.toNat_natCast]; rw [upd_self]; exact ⟨by omega, hk, ot⟩
    · rw [upd_ne _ _ e1] at ht ⊢
      by_cases e2 : k = q
      · subst e2; rw [upd_self] at ht; exact absurd rfl ht
      · rw [upd_ne _ _ e2] at ht ⊢
        have h1 := h.sp k hk ht
        by_cases e3 : (a k).o.toNat = o
        · rw [e3, upd_self]; exact ⟨h1.1, o1, ot⟩
        · rw [upd_ne _ _ e3]
          have e4 : (a k).o.toNat ≠ q := fun e => t1 (e ▸ h1.2.2)
          rw [upd_ne _ _ e4]
          exact h1
  · by_cases e1 : k = o
    · subst e1
      rw [upd_self]
      refine ⟨hoo.1, ?_⟩
      obtain ⟨A, hA⟩ : ∃ A, A = upd (upd a q En.zero) k { a k with r := (a k).r + -1 } := ⟨_, rfl⟩
      rw [← hA]
      have h3 := cntN_one (f := fun j => isO (k : Int) (j : Int) (A j)) (g := fun j => isO (k : Int) (j : Int) (a j)) (k := q) hq (fun j hj hjq => by
        by_cases e3 : j = k
        · subst e3; rw [isO_f (x := A j) (by simp), isO_f (x := a j) (by simp)]
        · rw [hA, upd_ne _ _ e3, upd_ne _ _ hjq])
      have h5 : isO (k : Int) (q : Int) (A q) = false := isO_f (by rw [hA, upd_ne _ _ (Ne.symm hne), upd_self]; simp [En.zero])
      rw [hqc, h5] at h3
      simp only [Bool.false_eq_true, if_false, if_true] at h3
      clear hA
      have h6 := hoo.2
      show (a k).r + -1 = ((cntN (fun j => isO (k : Int) (j : Int) (A j)) n : Nat) : Int)
      omega
    · rw [upd_ne _ _ e1] at ht ⊢
      by_cases e2 : k = q
      · subst e2; rw [upd_self] at ht; cases ht
      · rw [upd_ne _ _ e2] at ht ⊢
        obtain ⟨h1, h2⟩ := h.ow k hk ht
        refine ⟨h1, h2.trans ?_⟩
        congr 1
        refine cntN_ext fun j hj => ?_
        by_cases e3 : j = o
        · subst e3; rw [upd_self]; exact isO_cg rfl rfl
        · rw [upd_ne _ _ e3]
          by_cases e4 : j = q
          · subst e4; rw [upd_self, isO_f (by rw [hoI]; omega), isO_f (by simp [En.zero])]
          · rw [upd_ne _ _ e4]
end Go.Proofs.YtdfnbcbnmiohnaaGreatDoor
namespace Go.Proofs.YtdfnbcbnmiohnaaGreatDoor
open Go.RowKit
theorem DS.wipe_at (d : DS) (q : Int) : (d.wipe q).at = d.at := rfl
theorem cnt_at {d : DS} {k : Nat} (n : Int) (hk : k < d.E.length) : (d.cnt k n).at = upd d.at k { d.at k with r := (d.at k).r + n } := lay_upd _ hk
theorem lay_len (d : DS) (k : Nat) (x : En) : (d.lay k x).E.length = d.E.length := by simp [DS.lay]
theorem inv_space {d : DS} {s f : Int} (hk : d.Ok) (h : InvF d.at d.m.ns) (hz : d.bearE s f = 0) : InvF (d.space s f).at d.m.ns := by
  obtain ⟨ts, tf, hsf, t1, t2, hb⟩ := bear_zero hz
  obtain ⟨s0, s1, es⟩ := there_lt ts
  obtain ⟨f0, f1, ef⟩ := there_lt tf
  rw [ent_at ts] at t1
  rw [ent_at tf] at t2
  have hl := hk.len
  have he : (d.space s f).at = upd (upd d.at f.toNat (enF ((s.toNat : Nat) : Int))) s.toNat (enS ((s.toNat : Nat) : Int)) := by
    show ((d.lay f.toNat (enF s)).lay s.toNat (enS s)).at = _
    rw [lay_upd _ (by rw [lay_len]; omega), lay_upd _ (by omega), ← es]
  rw [he]
  exact h.space s1 f1 (by omega) t1 t2
theorem inv_taken {d : DS} {q t s : Int} (hk : d.Ok) (h : InvF d.at d.m.ns) (hz : d.takeE q t s = 0) : InvF (d.taken q t s).at d.m.ns := by
  obtain ⟨tq, ⟨t0, t1⟩, _, hm, hf⟩ := take_zero hz
  obtain ⟨ts, s1, s2⟩ := more_of hm
  obtain ⟨q0, q1, eq⟩ := there_lt tq
  obtain ⟨s0, s3, es⟩ := there_lt ts
  rw [ent_at tq] at hf
  rw [ent_at ts] at s1
  have hl := hk.len
  have hne : s.toNat ≠ q.toNat := fun e => by rw [e, hf] at s1; cases s1
  have he : (d.taken q t s).at = upd (upd d.at q.toNat (enT t ((s.toNat : Nat) : Int))) s.toNat { d.at s.toNat with r := (d.at s.toNat).r + 1 } := by
    unfold DS.taken
    rw [cnt_at _ (by rw [lay_len]; omega), lay_upd _ (by omega), upd_ne _ _ hne, ← es]
  rw [he]
  exact h.taken q1 s3 hf s1 (by omega) (by omega)
theorem inv_given {d : DS} {q : Int} (hk : d.Ok) (h : InvF d.at d.m.ns) (hz : d.giveE q = 0) : InvF (d.given q).at d.m.ns ∧ ((d.ent q).t ≠ 1 → d.given q = (d.freed q).cnt (d.ent q).o.toNat (-1)) ∧ ((d.ent q).t = 1 → d.given q = d.freed q) := by
  obtain ⟨tq, h1, h2⟩ := give_zero hz
  obtain ⟨q0, q1, eq⟩ := there_lt tq
  have hl := hk.len
  have hf : (d.freed q).at = upd d.at q.toNat En.zero := by
    show (d.lay q.toNat En.zero).at = _
    rw [lay_upd _ (by omega)]
  have hfl : (d.freed q).E.length = d.E.length := lay_len _ _ _
  rw [ent_at tq] at h1 h2 ⊢
  unfold DS.given
  rw [ent_at tq, hf]
  by_cases e : (d.at q.toNat).t = 1
  · rw [if_neg (by simp [e]), hf]
    exact ⟨h.freeS q1 e (by omega), fun h => absurd e h, fun _ => rfl⟩
  · obtain ⟨g1, g2⟩ := h.freeO q1 h1 e
    have g3 := (h.sp _ q1 h1).2.1
    rw [if_pos ⟨e, g1⟩]
    refine ⟨?_, fun _ => rfl, fun h => absurd h e⟩
    rw [cnt_at _ (by rw [hfl]; omega), hf]
    exact g2
def sumN (f : Nat → Nat) : Nat → Nat
  | 0 => 0
  | k + 1 => sumN f k + f k
def spc (x : En) : Bool := x.t == 1
end Go.Proofs.YtdfnbcbnmiohnaaGreatDoor
