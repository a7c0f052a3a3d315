import Derived.Test.YtdfnbcbnmiohnaaGreatDoorP48
import Derived.Test.YtdfnbcbnmiohnaaGreatDoorP50
namespace Go.Proofs.YtdfnbcbnmiohnaaGreatDoor
open Go.RowKit
set_option maxRecDepth 100000
set_option maxHeartbeats 8000000
/-- Which pages are gone, by the plan. -/
structure RT (d0 d : DS) (s i : Nat) (G : List Bool) (A : List Nat) (k : Nat) : Prop where
  rs : RS d0 d s i G
  tr : ∀ j, j < 8 → G.getD j false = true → j ≠ s → ∃ i', i' < i ∧ i' < A.length ∧ j = A.getD ((i' + k) % A.length) 0
  sg : G.getD s false = decide (A.length < i)
structure AO (d0 : DS) (s : Nat) (A : List Nat) : Prop where
  gr : GR d0
  hs : s < 8
  t1 : (d0.at s).t = 1
  mem : ∀ x ∈ A, x < 8 ∧ isO (s : Int) (x : Int) (d0.at x) = true
  nd : A.Nodup
  len : (A.length : Int) = (d0.at s).r
theorem AO.of {d0 : DS} (h : GR d0) {s : Nat} (hs : s < 8) (t1 : (d0.at s).t = 1) : AO d0 s (d0.owned (s : Int)) := by
  have ht : d0.there (s : Int) = true := (there8 h.ns _).2 ⟨by omega, by omega⟩
  have he := ent_at ht
  rw [Int.toNat_natCast] at he
  have hA : d0.owned (s : Int) = lstN (fun k => isO (s : Int) (k : Int) (d0.at k)) 8 := by unfold DS.owned; rw [he, if_pos t1, h.ns]
  rw [hA]
  exact ⟨h, hs, t1, fun x hx => (mem_lstN _ _ _).1 hx, nodup_lstN _ _, by rw [lstN_cnt, (h.inv.ow s hs t1).2]⟩
theorem gd_mem {A : List Nat} {i : Nat} (h : i < A.length) : A.getD i 0 ∈ A := by
  rw [List.getD_eq_getElem?_getD, List.getElem?_eq_getElem h]
  exact List.getElem_mem h
theorem nodup_getD {A : List Nat} (hn : A.Nodup) {i j : Nat} (hi : i < A.length) (hj : j < A.length) (h : A.getD i 0 = A.getD j 0) : i = j := by
  rw [List.getD_eq_getElem?_getD, List.getD_eq_getElem?_getD, List.getElem?_eq_getElem hi, List.getElem?_eq_getElem hj] at h
  exact (List.getElem_inj hn).1 h
theorem mod_inj {i j k m : Nat} (hi : i < m) (hj : j < m) (h : (i + k) % m = (j + k) % m) : i = j := by
  have h1 : (i + k) % m = (i % m + k % m) % m := Nat.add_mod ..
  have h2 : (j + k) % m = (j % m + k % m) % m := Nat.add_mod ..
  rw [Nat.mod_eq_of_lt hi] at h1
  rw [Nat.mod_eq_of_lt hj] at h2
  have hk : k % m < m := Nat.mod_lt _ (by omega)
  rw [h1, h2] at h
  have e : ∀ x, x < m → (x + k % m) % m = if x + k % m < m then x + k % m else x + k % m - m := fun x hx => by
    split
    · exact Nat.mod_eq_of_lt (by omega)
    · rw [Nat.mod_eq_sub_mod (by omega), Nat.mod_eq_of_lt (by omega)]
  rw [e i hi, e j hj] at h
  split at h <;> split at h <;> omega
theorem RT.start {d0 : DS} {s : Nat} {A : List Nat} (h : AO d0 s A) (hk : d0.Ok) (k : Nat) : RT d0 (d0.stD (s : Int)) s 0 g8 A k :=
  ⟨RS.start h.gr hk h.hs h.t1, fun j _ hg _ => by (rw [g8_at] at hg; cases hg), by rw [g8_at]; simp⟩
theorem RT.next {d0 d : DS} {s i k : Nat} {G : List Bool} {A : List Nat} (h : RT d0 d s i G A k) (ha : AO d0 s A) (hk : d.Ok) (hi : i < A.length) :
    A.getD ((i + k) % A.length) 0 < 8 ∧ G.getD (A.getD ((i + k) % A.length) 0) false = false ∧ (d0.at (A.getD ((i + k) % A.length) 0)).o = (s : Int) ∧ d.rmC ((A.getD ((i + k) % A.length) 0 : Nat) : Int) = 0 ∧ RT d0 (d.rmD ((A.getD ((i + k) % A.length) 0 : Nat) : Int)) s (i + 1) (G.set (A.getD ((i + k) % A.length) 0) true) A k := by
  have hx : (i + k) % A.length < A.length := Nat.mod_lt _ (by omega)
  obtain ⟨p8, hO⟩ := ha.mem _ (gd_mem hx)
  obtain ⟨o1, o2, o3⟩ := (isO_iff _ _ _).1 hO
  have hps : A.getD ((i + k) % A.length) 0 ≠ s := fun e => o1 (by rw [e])
  have hg : G.getD (A.getD ((i + k) % A.length) 0) false = false := by
    cases hc : G.getD (A.getD ((i + k) % A.length) 0) false with
    | false => rfl
    | true =>
      obtain ⟨i', h1, h2, h3⟩ := h.tr _ p8 hc hps
      have := nodup_getD ha.nd hx (Nat.mod_lt _ (by omega)) h3
      have := mod_inj hi h2 this
      omega
  have hgs : G.getD s false = false := by rw [h.sg]; simp; omega
  obtain ⟨r1, r2, r3⟩ := h.rs.step hk ha.gr ha.hs p8 hg hgs hO (by rw [← ha.len]; omega)
  refine ⟨p8, hg, o2, r1, r2, fun j hj hG hjs => ?_, by rw [r3]; simp; omega⟩
  rw [set_getD G _ j (by rw [h.rs.gl]; exact p8)] at hG
  split at hG
  · rename_i e; exact ⟨i, by omega, hi, e⟩
  · obtain ⟨i', h1, h2, h3⟩ := h.tr j hj hG hjs
    exact ⟨i', by omega, h2, h3⟩
theorem RT.last {d0 d : DS} {s k : Nat} {G : List Bool} {A : List Nat} (h : RT d0 d s A.length G A k) (ha : AO d0 s A) (hk : d.Ok) :
    G.getD s false = false ∧ (d0.at s).o = (s : Int) ∧ d.rmC (s : Int) = 0 ∧ RT d0 (d.rmD (s : Int)) s (A.length + 1) (G.set s true) A k := by
  have hgs : G.getD s false = false := by rw [h.sg]; simp
  obtain ⟨r1, r2, r3⟩ := h.rs.last hk ha.hs hgs ha.t1 ha.len
  refine ⟨hgs, (ha.gr.inv.ow s ha.hs ha.t1).1, r1, r2, fun j hj hG hjs => ?_, by rw [r3]; simp⟩
  rw [set_getD G _ j (by rw [h.rs.gl]; exact ha.hs), if_neg hjs] at hG
  obtain ⟨i', h1, h2, h3⟩ := h.tr j hj hG hjs
  exact ⟨i', by omega, h2, h3⟩
theorem RS.sim {d0 d e : DS} {s i : Nat} {G : List Bool} (h : RS d0 d s i G) (hs : DS.Sim d e) : RS d0 e s i G :=
  ⟨⟨hs.ns.trans h.gr.ns, by rw [hs.P]; exact h.gr.len, by rw [at_of_E hs.E]; exact h.gr.inv⟩, h.gl, fun j hj hg => by rw [hs.at, hs.p]; exact h.gone j hj hg, fun j hj hg hn => by rw [hs.at]; exact h.keep j hj hg hn, fun j hj hg => by rw [hs.p]; exact h.page j hj hg, fun hg => by rw [hs.at]; exact h.me hg, by rw [at_of_E hs.E]; exact h.fr⟩
def bools (G : List Bool) : List Value := G.map Value.bool
/-- What the rounds of one space keep. -/
structure LC (W w : World) (p po : Dp) (f' : Fp) (d d0 : DS) (gp : Nat) (L : List Nat) (g12 : Nat) (G : List Bool) : Prop where
  o : OD W w p d
  old : DB w po d0
  was : Mem w f' d0.m
  pl : PL w gp L
  go : Cel w g12 68 (bools G)
  a1 : ∀ k ∈ p.all, k ∉ po.all
  a2 : ∀ k ∈ p.all, k ∉ f'.all
  a3 : gp ∉ p.all
  a4 : g12 ∉ p.all
  a5 : g12 ∉ po.all
  a6 : g12 ∉ f'.all
  a7 : gp ≠ g12
  a8 : W.heap.size ≤ g12
theorem LC.on {W w w' : World} {p po : Dp} {f' : Fp} {d d0 : DS} {gp : Nat} {L : List Nat} {g12 : Nat} {G : List Bool} (h : LC W w p po f' d d0 gp L g12 G) (hb : Below w.heap.size w w') : LC W w' p po f' d d0 gp L g12 G := ⟨h.o.on hb, h.old.on hb, h.was.on hb, h.pl.on hb, h.go.on hb, h.a1, h.a2, h.a3, h.a4, h.a5, h.a6, h.a7, h.a8⟩
theorem LC.step {W w w' : World} {p po : Dp} {f' : Fp} {d d' d0 : DS} {gp : Nat} {L : List Nat} {g12 : Nat} {G : List Bool} (h : LC W w p po f' d d0 gp L g12 G) (hd : DB w' p d') (hb : ButL p.w w w') : LC W w' p po f' d' d0 gp L g12 G :=
  ⟨h.o.step hd hb, h.old.frame hb (fun k hk hm => h.a1 k (p.w_all' k hm) hk), h.was.frame hb (fun k hk hm => h.a2 k (p.w_all' k hm) hk), h.pl.but hb (fun hm => h.a3 (p.w_all' _ hm)), h.go.but hb (fun hm => h.a4 (p.w_all' _ hm)), h.a1, h.a2, h.a3, h.a4, h.a5, h.a6, h.a7, h.a8⟩
theorem LC.at {W w : World} {p po : Dp} {f' : Fp} {d d0 : DS} {gp : Nat} {L : List Nat} {g12 : Nat} {G : List Bool} (h : LC W w p po f' d d0 gp L g12 G) (j : Nat) (hj : j < G.length) : w.cell? ⟨g12, j, none⟩ = some (.bool (G.getD j false)) := by
  rw [h.go.cell j, bools, List.getElem?_map, List.getD_eq_getElem?_getD, List.getElem?_eq_getElem hj]
  rfl
/-- A database of eight pages whose counts are right. -/
structure RG8 (W w : World) (p : Dp) (d : DS) : Prop where
  o : OD W w p d
  g : GR d
theorem RG8.on {W w w' : World} {p : Dp} {d : DS} (h : RG8 W w p d) (hb : Below w.heap.size w w') : RG8 W w' p d := ⟨h.o.on hb, h.g⟩
def pgX (A : List Nat) (k s j : Nat) : Nat := if j < A.length then A.getD ((j + k) % A.length) 0 else s
theorem RT.any {d0 d : DS} {s j k : Nat} {G : List Bool} {A : List Nat} (h : RT d0 d s j G A k) (ha : AO d0 s A) (hk : d.Ok) (hj : j < A.length + 1) :
    pgX A k s j < 8 ∧ G.getD (pgX A k s j) false = false ∧ (d0.at (pgX A k s j)).o = (s : Int) ∧ d.rmC ((pgX A k s j : Nat) : Int) = 0 ∧ RT d0 (d.rmD ((pgX A k s j : Nat) : Int)) s (j + 1) (G.set (pgX A k s j) true) A k := by
  unfold pgX
  by_cases e : j < A.length
  · simp only [if_pos e]
    exact h.next ha hk e
  · obtain rfl : j = A.length := by omega
    simp only [if_neg e]
    exact ⟨ha.hs, h.last ha hk⟩
end Go.Proofs.YtdfnbcbnmiohnaaGreatDoor
