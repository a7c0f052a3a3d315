import Derived.Test.YtdfnbcbnmiohnaaGreatDoorP48
import Derived.Test.YtdfnbcbnmiohnaaGreatDoorP49
namespace Go.Proofs.YtdfnbcbnmiohnaaGreatDoor
open Go.RowKit
set_option maxRecDepth 100000
set_option maxHeartbeats 8000000
/-- Which pages are gone, by the plan. -/
structure RT (d0 d : DS) (s i : Nat) (G : List Bool) (A : List Nat) (k : Nat) : Prop where
  rs : RS d0 d s i G
  tr : ∀ j, j < 8 → G.getD j false = true → j ≠ s → ∃ i', i' < i ∧ i' < A.length ∧ j = A.getD ((i' + k) % A.length) 0
  sg : G.getD s false = decide (A.length < i)
structure AO (d0 : DS) (s : Nat) (A : List Nat) : Prop where
  gr : GR d0
  hs : s < 8
  t1 : (d0.at s).t = 1
  mem : ∀ x ∈ A, x < 8 ∧ isO (s : Int) (x : Int) (d0.at x) = true
  nd : A.Nodup
  len : (A.length : Int) = (d0.at s).r
theorem AO.of {d0 : DS} (h : GR d0) {s : Nat} (hs : s < 8) (t1 : (d0.at s).t = 1) : AO d0 s (d0.owned (s : Int)) := by
  have ht : d0.there (s : Int) = true := (there8 h.ns _).2 ⟨by omega, by omega⟩
  have he := ent_at ht
  rw [Int.toNat_natCast] at he
  have hA : d0.owned (s : Int) = lstN (fun k => isO (s : Int) (k : Int) (d0.at k)) 8 := by unfold DS.owned; rw [he, if_pos t1, h.ns]
  rw [hA]
  exact ⟨h, hs, t1, fun x hx => (mem_lstN _ _ _).1 hx, nodup_lstN _ _, by rw [lstN_cnt, (h.inv.ow s hs t1).2]⟩
theorem gd_mem {A : List Nat} {i : Nat} (h : i < A.length) : A.getD i 0 ∈ A := by
  rw [List.getD_eq_getElem?_getD, List.getElem?_eq_getElem h]
  exact List.getElem_mem h
theorem nodup_getD {A : List Nat} (hn : A.Nodup) {i j : Nat} (hi : i < A.length) (hj : j < A.length) (h : A.getD i 0 = A.getD j 0) : i = j := by
  rw [List.getD_eq_getElem?_getD, List.getD_eq_getElem?_getD, List.getElem?_eq_getElem hi, List.getElem?_eq_getElem hj] at h
  exact (List.getElem_inj hn).1 h
theorem mod_inj {i j k m : Nat} (hi : i < m) (hj : j < m) (h : (i + k) % m = (j + k) % m) : i = j := by
  have h1 : (i + k) % m = (i % m + k % m) % m := Nat.add_mod ..
  have h2 : (j + k) % m = (j % m + k % m) % m := Nat.add_mod ..
  rw [Nat.mod_eq_of_lt hi] at h1
  rw [Nat.mod_eq_of_lt hj] at h2
  have hk : k % m < m := Nat.mod_lt _ (by omega)
  rw [h1, h2] at h
  have e : ∀ x, x < m → (x + k % m) % m = if x + k % m < m then x + k % m else x + k % m - m := fun x hx => by
    split
    · exact Nat.mod_eq_of_lt (by omega)
    · rw [Nat.mod_eq_sub_mod (by omega), Nat.mod_eq_of_lt (by omega)]
  rw [e i hi, e j hj] at h
  split at h <;> split at h <;> omega
theorem RT.start {d0 : DS} {s : Nat} {A : List Nat} (h : AO d0 s A) (hk : d0.Ok) (k : Nat) : RT d0 (d0.stD (s : Int)) s 0 g8 A k :=
  ⟨RS.start h.gr hk h.hs h.t1, fun j _ hg _ => by (rw [g8_at] at hg; cases hg), by rw [g8_at]; simp⟩
theorem RT.next {d0 d : DS} {s i k : Nat} {G : List Bool} {A : List Nat} (h : RT d0 d s i G A k) (ha : AO d0 s A) (hk : d.Ok) (hi : i < A.length) :
    A.getD ((i + k) % A.length) 0 < 8 ∧ G.getD (A.getD ((i + k) % A.length) 0) false = false ∧ (d0.at (A.getD ((i + k) % A.length) 0)).o = (s : Int) ∧ d.rmC ((A.getD ((i + k) % A.length) 0 : Nat) : Int) = 0 ∧ RT d0 (d.rmD ((A.getD ((i + k) % A.length) 0 : Nat) : Int)) s (i + 1) (G.set (A.getD ((i + k) % A.length) 0) true) A k := by
  have hx : (i + k) % A.length < A.length := Nat.mod_lt _ (by omega)
  obtain ⟨p8, hO⟩ := ha.mem _ (gd_mem hx)
  obtain ⟨o1, o2, o3⟩ := (isO_iff _ _ _).1 hO
  have hps : A.getD ((i + k) % A.length) 0 ≠ s := fun e => o1 (by rw [e])
  have hg : G.getD (A.getD ((i + k) % A.length) 0) false = false := by
    cases hc : G.getD (A.getD ((i + k) % A.length) 0) false with
    | false => rfl
    | true =>
      obtain ⟨i', h1, h2, h3⟩ := h.tr _ p8 hc hps
      have := nodup_getD ha.nd hx (Nat.mod_lt _ (by omega)) h3
      have := mod_inj hi h2 this
      omega
  have hgs : G.getD s false = false := by rw [h.sg]; simp; omega
  obtain ⟨r1, r2, r3⟩ := h.rs.step hk ha.gr ha.hs p8 hg hgs hO (by rw [← ha.len]; omega)
  refine ⟨p8, hg, o2, r1, r2, fun j hj hG hjs => ?_, by rw [r3]; simp; omega⟩
  rw [set_getD G _ j (by rw [h.rs.gl]; exact p8)] at hG
  split at hG
  · rename_i e; exact ⟨i, by omega, hi, e⟩
  · obtain ⟨i', h1, h2, h3⟩ := h.tr j hj hG hjs
    exact ⟨i', by omega, h2, h3⟩
theorem RT.last {d0 d : DS} {s k : Nat} {G : List Bool} {A : List Nat} (h : RT d0 d s A.length G A k) (ha : AO d0 s A) (hk : d.Ok) :
    G.getD s false = false ∧ (d0.at s).o = (s : Int) ∧ d.rmC (s : Int) = 0 ∧ RT d0 (d.rmD (s : Int)) s (A.length + 1) (G.set s true) A k := by
  have hgs : G.getD s false = false := by rw [h.sg]; simp
  obtain ⟨r1, r2, r3⟩ := h.rs.last hk ha.hs hgs ha.t1 ha.len
  refine ⟨hgs, (ha.gr.inv.ow s ha.hs ha.t1).1, r1, r2, fun j hj hG hjs => ?_, by rw [r3]; simp⟩
  rw [set_getD G _ j (by rw [h.rs.gl]; exact ha.hs), if_neg hjs] at hG
  obtain ⟨i', h1, h2, h3⟩ := h.tr j hj hG hjs
  exact ⟨i', by omega, h2, h3⟩
theorem RS.sim {d0 d e : DS} {s i : Nat} {G : List Bool} (h : RS d0 d s i G) (hs : DS.Sim d e) : RS d0 e s i G :=
  ⟨⟨hs.ns.trans h.gr.ns, by rw [hs.P]; exact h.gr.len, by rw [at_of_E hs.E]; exact h.gr.inv⟩, h.gl, fun j hj hg => by rw [hs.at, hs.p]; exact h.gone j hj hg, fun j hj hg hn => by rw [hs.at]; exact h.keep j hj hg hn, fun j hj hg => by rw [hs.p]; exact h.page j hj hg, fun hg => by rw [hs.at]; exact h.me hg, by rw [at_of_E hs.E]; exact h.fr⟩
theorem sim_tick (d : DS) (n : Int) : DS.Sim d { d with m := d.m.tick n } := ⟨rfl, rfl, rfl, rfl⟩
theorem blank_some (w : World) (f : Fp) (m : MS) (h : Mem w f m) (p : Int) (k : Nat) (hr : m.at true p = some k) :
    Calls Tryz.prog 30 #[ptr f.gm, fr true p] w fun x w' => x = .returned (.tuple #[.bool (decide (m.p k = zs)), .int .i64 0]) ∧ Mem w' f (m.tick 1024) ∧ ButL f.w w w' := by
  have hX := h.on (below_one w (.cells #[.bool true, .int .i64 p] 64))
  have hB := hid (below_one w (.cells #[.bool true, .int .i64 p] 64))
  have HF := hid (find_any _ f m hX true p)
  have hk : k < m.P.length := MS.at_lt h.ns0 hr
  have H := hid hX
  clear h hX
  rw [hr] at HF
  clear hr
  simp only [fr, ptr, pv] at *
  go_enter Tryz.func30, Tryz.ntmps30
  go_wp2_with fail
  refine HF.out.mono ?_
  rintro x w1 ⟨rfl, hb1⟩
  have HB1 := hid (below_on hB.out hb1)
  have HM := hid (H.out.on hb1)
  have c2 := HM.out.cm
  have f2 := HM.out.cel.free 2
  have HT := hid (HM.out.tick 1024)
  have HBT : Hid (ButL f.w w (w1.setCell ⟨f.gm, 2, none⟩ (.int .i64 (wrap64 (m.c + 1024))))) := hid ((ButL.of HB1.out).trans (.setCell _ _ _ _ (by simp [Fp.w])))
  clear hb1
  go_wp2_with (first | (refine wpList_load_pg rfl _ rfl (f.b k) (m.p k) rfl (HT.out.pg k hk) (HT.out.full k hk) ?_) | (refine wpList_build_pg rfl rfl ?_) | (refine wpList_eql_pg rfl _ _ rfl (m.p k) zs rfl rfl (HT.out.full k hk) zs_len ?_))
  go_ret2
  exact ⟨rfl, HT.out, HBT.out⟩
def bools (G : List Bool) : List Value := G.map Value.bool
/-- What the rounds of one space keep. -/
structure LC (W w : World) (p po : Dp) (f' : Fp) (d d0 : DS) (gp : Nat) (L : List Nat) (g12 : Nat) (G : List Bool) : Prop where
  o : OD W w p d
  old : DB w po d0
  was : Mem w f' d0.m
  pl : PL w gp L
  go : Cel w g12 68 (bools G)
  a1 : ∀ k ∈ p.all, k ∉ po.all
  a2 : ∀ k ∈ p.all, k ∉ f'.all
  a3 : gp ∉ p.all
  a4 : g12 ∉ p.all
  a5 : g12 ∉ po.all
  a6 : g12 ∉ f'.all
  a7 : gp ≠ g12
  a8 : W.heap.size ≤ g12
theorem LC.on {W w w' : World} {p po : Dp} {f' : Fp} {d d0 : DS} {gp : Nat} {L : List Nat} {g12 : Nat} {G : List Bool} (h : LC W w p po f' d d0 gp L g12 G) (hb : Below w.heap.size w w') : LC W w' p po f' d d0 gp L g12 G := ⟨h.o.on hb, h.old.on hb, h.was.on hb, h.pl.on hb, h.go.on hb, h.a1, h.a2, h.a3, h.a4, h.a5, h.a6, h.a7, h.a8⟩
theorem LC.step {W w w' : World} {p po : Dp} {f' : Fp} {d d' d0 : DS} {gp : Nat} {L : List Nat} {g12 : Nat} {G : List Bool} (h : LC W w p po f' d d0 gp L g12 G) (hd : DB w' p d') (hb : ButL p.w w w') : LC W w' p po f' d' d0 gp L g12 G :=
  ⟨h.o.step hd hb, h.old.frame hb (fun k hk hm => h.a1 k (p.w_all' k hm) hk), h.was.frame hb (fun k hk hm => h.a2 k (p.w_all' k hm) hk), h.pl.but hb (fun hm => h.a3 (p.w_all' _ hm)), h.go.but hb (fun hm => h.a4 (p.w_all' _ hm)), h.a1, h.a2, h.a3, h.a4, h.a5, h.a6, h.a7, h.a8⟩
theorem LC.mark {W w : World} {p po : Dp} {f' : Fp} {d d0 : DS} {gp : Nat} {L : List Nat} {g12 : Nat} {G : List Bool} (h : LC W w p po f' d d0 gp L g12 G) (j : Nat) : LC W (w.setCell ⟨g12, j, none⟩ (.bool true)) p po f' d d0 gp L g12 (G.set j true) := by
  have hB : ButL [g12] w (w.setCell ⟨g12, j, none⟩ (.bool true)) := .setCell w g12 j _ (by simp)
  refine ⟨⟨h.o.db.frame hB (fun k hk hm => by rw [List.mem_singleton] at hm; exact h.a4 (hm ▸ hk)), h.o.bl.trans (hB.below (by simpa using h.a8) h.o.bl.size), h.o.own⟩, h.old.frame hB (fun k hk hm => by rw [List.mem_singleton] at hm; exact h.a5 (hm ▸ hk)), h.was.frame hB (fun k hk hm => by rw [List.mem_singleton] at hm; exact h.a6 (hm ▸ hk)), h.pl.but hB (by simpa using h.a7), ?_, h.a1, h.a2, h.a3, h.a4, h.a5, h.a6, h.a7, h.a8⟩
  have := h.go.setCell j (.bool true)
  rw [show bools (G.set j true) = (bools G).set j (.bool true) from by unfold bools; rw [List.map_set]]
  exact this
theorem LC.at {W w : World} {p po : Dp} {f' : Fp} {d d0 : DS} {gp : Nat} {L : List Nat} {g12 : Nat} {G : List Bool} (h : LC W w p po f' d d0 gp L g12 G) (j : Nat) (hj : j < G.length) : w.cell? ⟨g12, j, none⟩ = some (.bool (G.getD j false)) := by
  rw [h.go.cell j, bools, List.getElem?_map, List.getD_eq_getElem?_getD, List.getElem?_eq_getElem hj]
  rfl
/-- A database of eight pages whose counts are right. -/
structure RG8 (W w : World) (p : Dp) (d : DS) : Prop where
  o : OD W w p d
  g : GR d
theorem RG8.on {W w w' : World} {p : Dp} {d : DS} (h : RG8 W w p d) (hb : Below w.heap.size w w') : RG8 W w' p d := ⟨h.o.on hb, h.g⟩
def pgX (A : List Nat) (k s j : Nat) : Nat := if j < A.length then A.getD ((j + k) % A.length) 0 else s
theorem RT.any {d0 d : DS} {s j k : Nat} {G : List Bool} {A : List Nat} (h : RT d0 d s j G A k) (ha : AO d0 s A) (hk : d.Ok) (hj : j < A.length + 1) :
    pgX A k s j < 8 ∧ G.getD (pgX A k s j) false = false ∧ (d0.at (pgX A k s j)).o = (s : Int) ∧ d.rmC ((pgX A k s j : Nat) : Int) = 0 ∧ RT d0 (d.rmD ((pgX A k s j : Nat) : Int)) s (j + 1) (G.set (pgX A k s j) true) A k := by
  unfold pgX
  by_cases e : j < A.length
  · simp only [if_pos e]
    exact h.next ha hk e
  · obtain rfl : j = A.length := by omega
    simp only [if_neg e]
    exact ⟨ha.hs, h.last ha hk⟩
theorem reclaims_l (W : World) (ao : Option Addr) (n cp : Nat) (q : Nat → Oq) (hq : OpsAt W ao n q) (hn : (n : Int) ≤ 4611686018427387904) (turn : Int) (hT : H.Tab W) (hs : 1 < W.heap.size) :
    Calls Tryz.prog 5 #[.slice ao n cp, .int .i64 turn] W fun x W' => x = .returned (.bool true) ∧ Below W.heap.size W W' := by
  have HG := hid (grown_any W ao n cp q hq hn hT hs)
  have HK := hid (fun w (hb : Below W.heap.size W w) => known_any w (hT.below hb hs) (by have := hb.size; omega))
  clear hq hT hs
  go_enter Tryz.func5, Tryz.ntmps5
  go_upto_region 2 with (go_at_call 8; refine HG.out.mono ?_; rintro e w1 ⟨p, n0, dA, rfl, hn0, hR⟩; have R1 := hid (RG8.mk hR.o (hR.g (by omega)).gr); clear hR hn0 HG)
  go_upto_region 5 with (go_at_call 12; refine (HK.out _ R1.out.o.bl).mono ?_; rintro e w2 ⟨rfl, hb⟩; have R2 := hid (R1.out.on hb); clear hb R1)
  clear HK
  go_loopw [6] (fun i wr => ∃ (j : Nat) (d : DS), j ≤ 8 ∧ i = .int .i64 (j : Int) ∧ Hid (RG8 W wr p d)) (fun i _ => 8 - (intOf i).toNat)
  case atStart => exact ⟨0, _, by omega, rfl, R2⟩
  case round =>
    obtain ⟨s, d, hj, rfl, HR⟩ := hrel
    clear R2
    by_cases hlt : s < 8
    · have q2 : (s : Int) < 8 := by omega
      have q0 : (0 : Int) ≤ (s : Int) := by omega
      have HJ := hid hlt
      have ws : IntKind.wrap .u32 (s : Int) = (s : Int) := wr32 _ q0 (by omega)
      have HA := hid (fun w (h : DB w p d) x => at_l w p d h x)
      have HAs := hid (fun w (h : DB w p d) => at_l w p d h (s : Int))
      have HEat : Hid (d.ent (s : Int) = d.at s) := hid (by have := ent_at ((there8 HR.out.g.ns (s : Int)).2 ⟨q0, q2⟩); rw [Int.toNat_natCast] at this; exact this)
      clear hlt hj
      simp only [ptr, En.v, En.cs] at HA HAs
      generalize hE : d.ent (s : Int) = E at *
      go_upto_region 8 with (go_at_call 10; refine (HAs.out _ HR.out.o.db).mono ?_; rintro e w3 ⟨rfl, hb⟩; have R3 := hid (HR.out.on hb); clear hb HAs HR)
      have R4 := hid (R3.out.on (below_one w3 (.cells #[.int .i64 E.t, .int .i64 E.o, .int .i64 E.r, .int .i64 E.s, .bool E.e] 30)))
      have C4 := hid (Cel.new w3 30 [.int .i64 E.t, .int .i64 E.o, .int .i64 E.r, .int .i64 E.s, .bool E.e])
      clear R3
      generalize World.alloc _ _ = Y at *
      generalize w3.heap.size = g7 at *
      by_cases t1 : E.t = 1
      · have HP := hid (plan_yes Y p d R4.out.o.db s (by rw [hE]; exact t1))
        have HAO := hid (AO.of R4.out.g HJ.out (by rw [← HEat.out]; exact t1))
        have HEr : Hid (E.r = ((d.owned (s : Int)).length : Int)) := hid (by rw [HAO.out.len, ← HEat.out])
        have n1 : (E.t != 1) = false := by simpa using t1
        clear t1 hE
        unfold DS.planL at HP
        generalize d.owned (s : Int) = A at *
        go_upto_region 9 with (go_at_call 9; refine HP.out.mono ?_; rintro e w5 ⟨gp, cc, rfl, hp, hg, hb⟩; have R5 := hid (R4.out.on hb); have C5 := hid (C4.out.on hb); have P5 := hid hp; have HGp := hid (And.intro hg (fun hk => by have := R4.out.o.db.lt gp hk; omega : gp ∉ p.all)); clear hp hg hb HP R4 C4)
        have hm64 : (A.length : Int) < 64 := by
          rw [← HEr.out, HEat.out]
          exact ((En.ok_iff _).1 (R5.out.o.db.ok.ok s (by rw [R5.out.g.ns]; exact HJ.out))).r1
        have hm0 : (0 : Int) ≤ (A.length : Int) := by omega
        have hm1 : IntKind.wrap .i64 ((A.length : Int) + 1) = (A.length : Int) + 1 := wr64 _ (by omega) (by omega)
        have c0 := C5.out.cell 0
        simp only [List.getElem?_cons_zero] at c0
        have HCl := hid (fun w (h : OD W w p d) => dclone_any w p d h.db)
        have HMe := hid (fun w (h : DB w p d) => memory_any w p d h)
        have HCm := hid (fun w (h : Mem w p.f d.m) => clone_any w p.f d.m h)
        have HSo := hid (fun w (h : DB w p d) => (stop_any w p d h (s : Int) q0 (by omega)).mono (fun e w' hh => (by obtain ⟨he, hd, hb⟩ := hh; rw [(stop_ok R5.out.g R5.out.o.db.ok HJ.out (HAO.out.t1)).1] at he; exact ⟨he, hd, hb⟩ : e = .returned (.int .u32 0) ∧ DB w' p (d.stD (s : Int)) ∧ ButL p.w w w')))
        simp only [ptr] at HCl HMe HCm HSo
        go_upto_region 13 with (go_at_call 27; refine (HCl.out _ R5.out.o).mono ?_; rintro e w6 ⟨po, rfl, hN⟩; have N6 := hid hN; clear hN)
        go_upto_region 14 with (first | (go_at_call 28; refine (HMe.out _ (R5.out.o.db.on N6.out.below)).mono ?_; rintro e wx ⟨rfl, hw⟩; subst wx) | (go_at_call 21; refine (HCm.out _ (R5.out.o.db.on N6.out.below).mem).mono ?_; rintro e w7 ⟨f', rfl, hM⟩; have N7 := hid hM; clear hM))
        have O7 := hid ((R5.out.o.on N6.out.below).on N7.out.below)
        have D7 := hid (N6.out.db.on N7.out.below)
        have P7 := hid ((P5.out.on N6.out.below).on N7.out.below)
        have C7 := hid ((C5.out.on N6.out.below).on N7.out.below)
        have HA1 : Hid ((∀ k ∈ p.all, k ∉ po.all) ∧ (∀ k ∈ p.all, k ∉ f'.all) ∧ gp ∉ p.all) := hid ⟨fun k hk hm' => (by have := N6.out.new k hm'; have := R5.out.o.db.lt k hk; omega), fun k hk hm' => (by have := N7.out.new k hm'; have := R5.out.o.db.lt k hk; have := N6.out.below.size; omega), HGp.out.2⟩
        clear c0 C5
        have c2 := C7.out.cell 2
        simp only [List.getElem?_cons_zero, List.getElem?_cons_succ] at c2
        rw [HEr.out] at c2
        have cl : w7.cell? ⟨gp, A.length, none⟩ = some (.int .i64 (s : Int)) := by have := P7.out.at_ A.length (by simp); rw [this]; simp [List.getD_eq_getElem?_getD]
        go_upto_region 17 with (go_at_call 22; refine (HSo.out _ O7.out.db).mono ?_; rintro e w8 ⟨rfl, hd, hb⟩; have L8 : Hid (OD W w8 p (d.stD (s : Int)) ∧ DB w8 po d ∧ Mem w8 f' d.m ∧ PL w8 gp (A ++ [s])) := hid ⟨O7.out.step hd hb, D7.out.frame hb (fun k hk hm => HA1.out.1 k (p.w_all' k hm) hk), N7.out.mem.frame hb (fun k hk hm => HA1.out.2.1 k (p.w_all' k hm) hk), P7.out.but hb (fun hm => HA1.out.2.2 (p.w_all' _ hm))⟩; clear hd hb)
        clear c2 cl C7 P7 D7 N7 N6 O7 HCl HCm HSo HMe P5 HEr n1 hm1
        have HRT := fun k => hid (RT.start HAO.out R5.out.o.db.ok k)
        clear R5
        go_upto_region 18 with fail
        have L9 : Hid (LC W (w8.alloc (.cells #[.bool false, .bool false, .bool false, .bool false, .bool false, .bool false, .bool false, .bool false] 68)) p po f' (d.stD (s : Int)) d gp (A ++ [s]) w8.heap.size g8) := hid (by
          have hb := below_one w8 (.cells #[.bool false, .bool false, .bool false, .bool false, .bool false, .bool false, .bool false, .bool false] 68)
          obtain ⟨l1, l2, l3, l4⟩ := L8.out
          exact ⟨l1.on hb, l2.on hb, l3.on hb, l4.on hb, Cel.new w8 68 (bools g8), HA1.out.1, HA1.out.2.1, HA1.out.2.2, fun hk => (by have := l1.db.lt _ hk; omega), fun hk => (by have := l2.lt _ hk; omega), fun hk => (by have := l3.lt _ hk; omega), by have := l4.lt; omega, l1.bl.size⟩)
        clear L8 HA1 HGp
        generalize World.alloc _ _ = w9 at *
        generalize w8.heap.size = g12 at *
        obtain ⟨kN, hkN⟩ : ∃ kN : Nat, kN = if 0 < A.length then (turn % (A.length : Int)).toNat else 0 := ⟨_, rfl⟩
        have hk64 : (kN : Int) < 64 := by
          rw [hkN]
          split
          · rename_i h0
            have := Int.emod_lt_of_pos turn (show (0 : Int) < (A.length : Int) by omega)
            omega
          · decide
        have HKn := hid hkN
        clear hkN
        have h01 : (decide ((1 : Int) < (A.length : Int) + 1)) = decide (0 < A.length) := by by_cases h : 0 < A.length <;> simp [h] <;> omega
        go_upto_if 72 with fail
        go_cut [13] (fun v w => v = .int .i64 (kN : Int) ∧ w9 = w)
        case first =>
          by_cases h0 : 0 < A.length
          · have h1 : (1 : Int) < (A.length : Int) + 1 := by omega
            have HWi := hid (fun w => within_any w turn 0 ((A.length : Int) - 1) (by decide) (by omega) (by omega))
            have wk : IntKind.wrap .i64 ((A.length : Int) + 1 - 2) = (A.length : Int) - 1 := by rw [wr64 _ (by omega) (by omega)]; omega
            have HK2 : Hid (wi turn 0 ((A.length : Int) - 1 - 0 + 1) = (kN : Int)) := hid (by
              have := Int.emod_nonneg turn (show (A.length : Int) ≠ 0 by omega)
              rw [HKn.out, if_pos h0]
              unfold wi
              rw [show (A.length : Int) - 1 - 0 + 1 = (A.length : Int) by omega]
              omega)
            go_wp2_with (go_at_call 11; refine (HWi.out _).mono ?_; rintro e wx ⟨rfl, hw⟩; subst wx; rw [HK2.out])
            go_meet
            exact ⟨rfl, rfl⟩
          · have h1 : (A.length : Int) + 1 ≤ 1 := by omega
            have HK2 : Hid ((0 : Int) = (kN : Int)) := hid (by rw [HKn.out, if_neg h0]; rfl)
            go_wp2_with fail
            go_meet
            exact ⟨by rw [← HK2.out], rfl⟩
        case rest =>
          obtain ⟨rfl, rfl⟩ := hcut
          have RT0 := HRT kN
          clear HRT HKn
          clear hm0
          go_upto_region 22 with fail
          go_loopw [14] (fun i w => ∃ (j : Nat) (d' : DS) (G : List Bool), j ≤ A.length + 1 ∧ i = .int .i64 (j : Int) ∧ Hid (LC W w p po f' d' d gp (A ++ [s]) g12 G) ∧ Hid (RT d d' s j G A kN)) (fun i _ => A.length + 1 - (intOf i).toNat)
          case atStart => exact ⟨0, _, _, by omega, rfl, L9, RT0⟩
          case round =>
            obtain ⟨j, d', G, hj, rfl, HL, HRT⟩ := hrel
            clear L9 RT0
            by_cases hlt : j < A.length + 1
            · have HJ2 := hid hlt
              have HN := hid (HRT.out.any HAO.out HL.out.o.db.ok hlt)
              have k1 : (j : Int) < (A.length : Int) + 1 := by omega
              have k2 : IntKind.wrap .i64 ((A.length : Int) + 1 - 1) = (A.length : Int) := by rw [wr64 _ (by omega) (by omega)]; omega
              have HX : Hid (j < A.length → wr.cell? ⟨gp, (j + kN) % A.length, none⟩ = some (.int .i64 ((pgX A kN s j : Nat) : Int))) := hid (fun e => by
                have hx : (j + kN) % A.length < A.length := Nat.mod_lt _ (by omega)
                have := HL.out.pl.at_ ((j + kN) % A.length) (by simp; omega)
                rw [this]
                unfold pgX
                rw [if_pos e]
                simp [List.getD_eq_getElem?_getD, List.getElem?_append_left hx])
              have HXs : Hid (¬ j < A.length → pgX A kN s j = s) := hid (fun e => by unfold pgX; rw [if_neg e])
              clear hlt hj
              generalize pgX A kN s j = x at *
              go_upto_if 86 with fail
              go_cut [15] (fun v w => v = .int .i64 (x : Int) ∧ wr = w)
              case first =>
                by_cases e : j < A.length
                · have e1 : (j : Int) < (A.length : Int) := by omega
                  have cx := HX.out e
                  obtain ⟨ix, hix⟩ : ∃ ix, (j + kN) % A.length = ix := ⟨_, rfl⟩
                  have hix2 : ix < A.length := by rw [← hix]; exact Nat.mod_lt _ (by omega)
                  rw [hix] at cx
                  have e2 : IntKind.wrap .i64 ((j : Int) + (kN : Int)) = (j : Int) + (kN : Int) := wr64 _ (by omega) (by omega)
                  have e3 : ((j : Int) + (kN : Int)).tmod (A.length : Int) = (ix : Int) := by rw [← hix, Int.tmod_eq_emod_of_nonneg (by omega)]; simp
                  have e4 : ((A.length : Int) == 0) = false := beq_false_of_ne (by omega)
                  have e5 : (ix : Int) < (A.length : Int) + 1 := by omega
                  clear hix hix2 e HX HXs
                  go_wp2_with fail
                  go_meet
                  exact ⟨rfl, rfl⟩
                · have e1 : (A.length : Int) ≤ (j : Int) := by omega
                  have e2 := hid (HXs.out e)
                  clear e HX HXs
                  go_wp2_with fail
                  go_meet
                  exact ⟨by rw [e2.out], rfl⟩
              case rest =>
                obtain ⟨rfl, rfl⟩ := hcut
                clear HX HXs
                obtain ⟨x8, hg, hxo, hrc, hrt⟩ := HN.out
                have HRx := hid hrt
                have HX8 := hid x8
                have x1 : (x : Int) < 8 := by omega
                have x0 : (0 : Int) ≤ (x : Int) := by omega
                have wx : IntKind.wrap .u32 (x : Int) = (x : Int) := wr32 _ x0 (by omega)
                have HOx := hid (fun w (h : DB w po d) => at_l w po d h (x : Int))
                have HEo : Hid (d.ent (x : Int) = d.at x) := hid (by have := ent_at ((there8 HAO.out.gr.ns (x : Int)).2 ⟨x0, x1⟩); rw [Int.toNat_natCast] at this; exact this)
                have HRm := hid (fun w (h : DB w p d') => (remove_any w p d' h (x : Int) x0).mono (fun e w' hh => (by obtain ⟨he, hd, hb⟩ := hh; rw [hrc] at he; exact ⟨he, hd, hb⟩ : e = .returned (.int .u32 0) ∧ DB w' p (d'.rmD (x : Int)) ∧ ButL p.w w w')))
                have cg := HL.out.at x (by rw [HRT.out.rs.gl]; exact x8)
                have HGl := hid HRT.out.rs.gl
                rw [hg] at cg
                rw [HEo.out] at HOx
                simp only [ptr, En.v, En.cs, hxo] at HOx HRm
                clear HN hg hxo hrc hrt x8 HRT HEo
                generalize d.at x = Ex at *
                have hfo : ∀ w, (Instr.field 30 (.agg #[.int .i64 Ex.t, .int .i64 (s : Int), .int .i64 Ex.r, .int .i64 Ex.s, .bool Ex.e]) 1).run Tryz.prog w = .ok (.int .i64 (s : Int)) w := fun w => by kernel_rfl
                go_upto_region 29 with (first | (go_at_call 10; refine (HOx.out _ HL.out.old).mono ?_; rintro e wa ⟨rfl, hb⟩; have La := hid (HL.out.on hb); clear hb) | (go_at_call 29; refine (HRm.out _ La.out.o.db).mono ?_; rintro e wb ⟨rfl, hd, hb⟩; have Lb := hid (La.out.step hd hb); clear hd hb La))
                clear HL cg
                have cg2 := Lb.out.at x (by rw [HGl.out]; exact HX8.out)
                have fg2 := Lb.out.go.free x
                go_wp2_with fail
                go_roundw
                case measure => have := HJ2.out; simp [intOf] <;> omega
                case rel => exact ⟨j + 1, _, _, HJ2.out, by simp, hid (Lb.out.mark x), HRx⟩
            · obtain rfl : j = A.length + 1 := by omega
              have HGs : Hid (G.getD s false = true) := hid (by rw [HRT.out.sg]; simp)
              have HR0 := hid HRT.out.rs
              have HL0 := HL
              have HK : Hid (d.Ok) := hid HL.out.old.ok
              clear hlt hj HRT HL hk64
              go_upto_region 31 with fail
              go_loopw [16] (fun i w => ∃ (y : Nat) (e : DS), y ≤ 8 ∧ i = .int .i64 (y : Int) ∧ Hid (LC W w p po f' e d gp (A ++ [s]) g12 G) ∧ Hid (RS d e s (A.length + 1) G)) (fun i _ => 8 - (intOf i).toNat)
              case atStart => exact ⟨0, _, by omega, rfl, HL0, HR0⟩
              case round =>
                obtain ⟨y, e, hy, rfl, HL, HRS⟩ := hrel
                clear HL0 HR0
                by_cases hlt : y < 8
                · have HY := hid hlt
                  have y1 : (y : Int) < 8 := by omega
                  have y0 : (0 : Int) ≤ (y : Int) := by omega
                  have wy : IntKind.wrap .u32 (y : Int) = (y : Int) := wr32 _ y0 (by omega)
                  have HMe := hid (fun w (h : DB w p e) => memory_any w p e h)
                  have HFr := hid (fun w => lframe_any w (y : Int) y0 (by omega))
                  have HBl := hid (fun w (hm : Mem w p.f e.m) => blank_some w p.f e.m hm (y : Int) y (by have := at_sec (m := e.m) (b := (y : Int)) y0 (by rw [HRS.out.gr.ns]; exact y1); simpa using this))
                  clear hlt hy
                  simp only [ptr, fr] at HMe HFr HBl
                  go_upto_region 34 with (first | (go_at_call 28; refine (HMe.out _ HL.out.o.db).mono ?_; rintro e1 wx ⟨rfl, hw⟩; subst wx) | (go_at_call 26; refine (HFr.out _).mono ?_; rintro e1 wa ⟨rfl, hb⟩; have La := hid (HL.out.on hb); clear hb HL) | (go_at_call 30; refine (HBl.out _ La.out.o.db.mem).mono ?_; rintro e1 wb ⟨rfl, hm, hb⟩; have Lb := hid (La.out.step (La.out.o.db.memory hm hb rfl) (hb.mono p.fw_w)); clear hm hb La))
                  have HRS2 := hid (HRS.out.sim (sim_tick e 1024))
                  have HZp : Hid (G.getD y false = true → decide (e.m.p y = zs) = true) := hid (fun hg => by simp [(HRS.out.gone y HY.out hg).2])
                  clear HRS HMe HFr HBl
                  generalize hbz : decide (e.m.p y = zs) = bz at *
                  clear hbz
                  generalize ({ e with m := e.m.tick 1024 } : DS) = e2 at *
                  have cg := Lb.out.at y (by rw [HRS2.out.gl]; exact HY.out)
                  have HAe := hid (fun w (h : DB w p e2) => at_l w p e2 h (y : Int))
                  have HAo := hid (fun w (h : DB w po d) => at_l w po d h (y : Int))
                  have HMe := hid (fun w (h : DB w p e2) => memory_any w p e2 h)
                  have HEe : Hid (e2.ent (y : Int) = e2.at y) := hid (by have := ent_at ((there8 HRS2.out.gr.ns (y : Int)).2 ⟨y0, y1⟩); rw [Int.toNat_natCast] at this; exact this)
                  have HEo : Hid (d.ent (y : Int) = d.at y) := hid (by have := ent_at ((there8 HAO.out.gr.ns (y : Int)).2 ⟨y0, y1⟩); rw [Int.toNat_natCast] at this; exact this)
                  rw [HEe.out] at HAe
                  rw [HEo.out] at HAo
                  clear HEe HEo
                  have hGy : G.getD y false = true ∨ G.getD y false = false := by cases G.getD y false <;> simp
                  rcases hGy with hg | hg
                  · rw [hg] at cg
                    have hbz := HZp.out hg
                    subst hbz
                    have hz := (HRS2.out.gone y HY.out hg).1
                    rw [hz] at HAe
                    have HZe := hid (fun w => (show (Op.equalIn 10000 30 (.agg #[.int .i64 0, .int .i64 0, .int .i64 0, .int .i64 0, .bool false]) (.agg #[.int .i64 0, .int .i64 0, .int .i64 0, .int .i64 0, .bool false])).run Tryz.prog w = .ok true w from by have := eqE w 9996 En.zero En.zero; rw [En.same_self] at this; exact this))
                    simp only [ptr, En.v, En.cs, En.zero] at HAe
                    clear hg hz HZp HAo
                    go_upto_region 36 with (first | (go_at_call 10; refine (HAe.out _ Lb.out.o.db).mono ?_; rintro e1 wc ⟨rfl, hb⟩; have Lc := hid (Lb.out.on hb); clear hb) | (refine wpList_ne (by rfl) 30 _ _ rfl _ _ rfl rfl guardE true (HZe.out _) ?_))
                    have cg3 : wc.cell? ⟨g12, y, none⟩ = some (.bool true) := by
                      rw [← cg]
                      exact (Lc.out.at y (by rw [HRS2.out.gl]; exact HY.out)).trans (Lb.out.at y (by rw [HRS2.out.gl]; exact HY.out)).symm
                    go_wp2_with fail
                    go_roundw
                    case measure => have := HY.out; simp [intOf] <;> omega
                    case rel => (repeat apply Exists.intro); refine ⟨?_, rfl⟩; exact ⟨y + 1, e2, HY.out, by simp, Lc, HRS2⟩
                  · rw [hg] at cg
                    have hys : y ≠ s := fun h => by rw [h, HGs.out] at hg; cases hg
                    have hk := HRS2.out.keep y HY.out hg hys
                    have HSm := hid (fun w (h : LC W w p po f' e2 d gp (A ++ [s]) g12 G) => samePage_yes w p.f f' e2.m d.m h.o.db.mem h.was (y : Int) y0 (by omega) (fun o _ _ => word_p HAO.out.gr.ns HRS2.out.gr.ns y HY.out (HRS2.out.page y HY.out hg) o))
                    rw [hk] at HAe
                    generalize d.at y = Ey at *
                    have HEq := hid (fun w => (show (Op.equalIn 10000 30 (.agg #[.int .i64 Ey.t, .int .i64 Ey.o, .int .i64 Ey.r, .int .i64 Ey.s, .bool Ey.e]) (.agg #[.int .i64 Ey.t, .int .i64 Ey.o, .int .i64 Ey.r, .int .i64 Ey.s, .bool Ey.e])).run Tryz.prog w = .ok true w from by have := eqE w 9996 Ey Ey; rw [En.same_self] at this; exact this))
                    simp only [ptr, En.v, En.cs] at HAe HAo HMe HSm
                    clear hg hys hk HZp
                    go_upto_region 36 with fail
                    go_wp2_with (first | (go_at_call 10; revert Lb; intro Lb; refine (HAe.out _ Lb.out.o.db).mono ?_; rintro e1 wc ⟨rfl, hb⟩; have Lc := hid (Lb.out.on hb); clear hb Lb) | (go_at_call 10; revert Lc; intro Lc; refine (HAo.out _ Lc.out.old).mono ?_; rintro e1 wd ⟨rfl, hb⟩; have Ld := hid (Lc.out.on hb); clear hb Lc) | (refine wpList_ne (by rfl) 30 _ _ rfl _ _ rfl rfl guardE true (HEq.out _) ?_) | (go_at_call 28; refine (HMe.out _ Ld.out.o.db).mono ?_; rintro e1 wx ⟨rfl, hw⟩; subst wx) | (go_at_call 31; refine (HSm.out _ Ld.out).mono ?_; rintro e1 we ⟨rfl, hb⟩; have Le := hid (Ld.out.on hb); clear hb))
                    go_roundw
                    case measure => have := HY.out; simp [intOf] <;> omega
                    case rel => (repeat apply Exists.intro); refine ⟨?_, rfl⟩; exact ⟨y + 1, e2, HY.out, by simp, Le, HRS2⟩
                · obtain rfl : y = 8 := by omega
                  have HFe := hid (fun w (h : DB w p e) => free_any w p e h)
                  have HFo := hid (fun w (h : DB w po d) => free_any w po d h)
                  have hfr : (e.free : Int) = (d.free : Int) + ((A.length : Int) + 1) := by
                    have h1 : e.free = d.free + (A.length + 1) := by
                      unfold DS.free
                      rw [HRS.out.gr.ns, HAO.out.gr.ns]
                      exact HRS.out.fr
                    rw [h1]
                    simp
                  have hfd : (d.free : Int) ≤ 8 := by
                    unfold DS.free
                    rw [HAO.out.gr.ns]
                    have := cntN_le (fun k => isF (d.at k)) 8
                    omega
                  rw [hfr] at HFe
                  generalize d.free = fd at *
                  have wf : IntKind.wrap .i64 ((fd : Int) + ((A.length : Int) + 1)) = (fd : Int) + ((A.length : Int) + 1) := wr64 _ (by omega) (by omega)
                  have HG2 := hid HRS.out.gr
                  clear hlt hy hfr HRS
                  simp only [ptr] at HFe HFo
                  go_wp2_with (first | (go_at_call 32; revert HL; intro HL; refine (HFe.out _ HL.out.o.db).mono ?_; rintro e1 wa ⟨rfl, hb⟩; have La := hid (HL.out.on hb); clear hb HL) | (go_at_call 32; revert La; intro La; refine (HFo.out _ La.out.old).mono ?_; rintro e1 wb ⟨rfl, hb⟩; have Lb := hid (La.out.on hb); clear hb La))
                  go_roundw
                  case measure => have := HJ.out; simp [intOf] <;> omega
                  case rel => exact ⟨s + 1, e, HJ.out, by simp, hid ⟨Lb.out.o, HG2.out⟩⟩
      · have HP := hid (plan_no Y p d R4.out.o.db (s : Int) (by rw [hE]; exact t1))
        have n1 : (E.t != 1) = true := by simpa using t1
        clear t1 hE HEat
        go_upto_region 9 with (go_at_call 9; refine HP.out.mono ?_; rintro e w5 ⟨rfl, hb⟩; have R5 := hid (R4.out.on hb); have C5 := hid (C4.out.on hb); clear hb)
        have c0 := C5.out.cell 0
        simp only [List.getElem?_cons_zero] at c0
        go_wp2_with fail
        go_roundw
        case measure => have := HJ.out; simp [intOf] <;> omega
        case rel => exact ⟨s + 1, d, HJ.out, by simp, R5⟩
    · obtain rfl : s = 8 := by omega
      go_wp2_with fail
      go_ret
      exact ⟨rfl, HR.out.o.bl⟩
end Go.Proofs.YtdfnbcbnmiohnaaGreatDoor
