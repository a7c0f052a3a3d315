import Derived.Test.YtildhjiddidghaaGreatDoorP39
import Derived.Test.YtildhjiddidghaaGreatDoorP01
import Derived.Test.YtildhjiddidghaaGreatDoorP38
import Derived.Test.YtildhjiddidghaaGreatDoorP13
import Derived.Test.YtildhjiddidghaaGreatDoorP08
import Derived.Test.YtildhjiddidghaaGreatDoorP09
import Derived.Test.YtildhjiddidghaaGreatDoorP22
namespace Go.Proofs.YtildhjiddidghaaGreatDoor
open Go.RowKit
set_option maxHeartbeats 4000000
set_option maxRecDepth 100000
abbrev BxT := Nat × TypeId × List Value
def okT (t : TypeId) : Bool := t != 85 && (t != 22 && (t != 90 && (t != 153 && (t != 156 && (t != 62 && (t != 121 && (t != 115 && t != 40)))))))
structure SB (W w : World) (g : Nat) (p : Dp) (r : Rp) (d e : DS) (L : List BxT) : Prop where
  ss : SS W w g p r d e
  bag : ∀ x ∈ L, Cel w x.1 x.2.1 x.2.2
  ty : ∀ x ∈ L, okT x.2.1 = true
theorem SB.on {W w w' : World} {g : Nat} {p : Dp} {r : Rp} {d e : DS} {L : List BxT} (h : SB W w g p r d e L) (hb : Below w.heap.size w w') : SB W w' g p r d e L := ⟨h.ss.on hb, fun x hx => (h.bag x hx).on hb, h.ty⟩
theorem SB.offp {W w : World} {g : Nat} {p : Dp} {r : Rp} {d e : DS} {L : List BxT} (h : SB W w g p r d e L) {x : BxT} (hx : x ∈ L) : x.1 ∉ p.all := fun hk => by
  have ht := h.ty x hx
  rcases h.ss.own.ty x.1 hk x.2.1 _ (h.bag x hx) with e | e | e | e | e <;> (rw [e] at ht; revert ht; decide)
theorem SB.offr {W w : World} {g : Nat} {p : Dp} {r : Rp} {d e : DS} {L : List BxT} (h : SB W w g p r d e L) {x : BxT} (hx : x ∈ L) : x.1 ∉ r.all := fun hk => by
  have ht := h.ty x hx
  rcases h.ss.doc.ty x.1 hk x.2.1 _ (h.bag x hx) with e | e | e | e | e <;> (rw [e] at ht; revert ht; decide)
theorem SB.memA {W w w' : World} {g : Nat} {p : Dp} {r : Rp} {d e : DS} {L : List BxT} {m' : MS} (h : SB W w g p r d e L) (hm : Mem w' p.f m') (hb : ButL p.f.w w w') (hn : m'.ns = d.m.ns) : SB W w' g p r { d with m := m' } e L :=
  ⟨h.ss.memA hm hb hn, fun x hx => (h.bag x hx).but hb (fun hk => h.offp hx (Dp.w_all (by simp only [Dp.w, List.mem_cons]; exact .inr hk))), h.ty⟩
theorem SB.memR {W w w' : World} {g : Nat} {p : Dp} {r : Rp} {d e : DS} {L : List BxT} {r' : Rf} {m' : MS} (h : SB W w g p r d e L) (hs : RSt w w' r.r r' m') (hn : m'.ns = e.m.ns) : SB W w' g p { r with r := r' } d { e with m := m' } L :=
  ⟨h.ss.memR hs hn, fun x hx => (h.bag x hx).but ((RG.start h.ss.doc).mem hs hn).but (h.offr hx), h.ty⟩
theorem SB.but {W w w' : World} {g : Nat} {p : Dp} {r : Rp} {d e : DS} {L : List BxT} (h : SB W w g p r d e L) {b : Nat} {t : TypeId} {cs : List Value} (hc : Cel w b t cs) (ht : okT t = true) (h34 : t ≠ 34) (hB : W.heap.size ≤ b) (hL : ∀ x ∈ L, x.1 ≠ b) (hb : ButL [b] w w') : SB W w' g p r d e L := by
  have hp : b ∉ p.all := fun hk => by
    rcases h.ss.own.ty b hk t _ hc with e | e | e | e | e <;> (rw [e] at ht; revert ht; decide)
  have hr : b ∉ r.all := fun hk => by
    rcases h.ss.doc.ty b hk t _ hc with e | e | e | e | e <;> (rw [e] at ht; revert ht; decide)
  have hg : g ≠ b := fun e => h34 (by subst e; exact (h.ss.cel.ty hc).symm)
  refine ⟨⟨h.ss.own.frame hb (fun k hk hm => by rw [List.mem_singleton] at hm; exact hp (hm ▸ hk)), h.ss.doc.frame hb (fun k hk hm => by rw [List.mem_singleton] at hm; exact hr (hm ▸ hk)), h.ss.ap, h.ss.cel.but hb (by rw [List.mem_singleton]; exact hg), h.ss.ng, h.ss.np, h.ss.nr, h.ss.bl.trans (hb.below (B := W.heap.size) (by simpa using hB) h.ss.bl.size)⟩, fun x hx => (h.bag x hx).but hb (by rw [List.mem_singleton]; exact hL x hx), h.ty⟩
theorem SB.box {W w : World} {g : Nat} {p : Dp} {r : Rp} {d e : DS} {L : List BxT} (h : SB W w g p r d e L) (t : TypeId) (cs : List Value) (ht : okT t = true) : SB W (w.alloc (.cells cs.toArray t)) g p r d e (L ++ [(w.heap.size, t, cs)]) := by
  have h' := h.on (below_one w (.cells cs.toArray t))
  refine ⟨h'.ss, fun x hx => ?_, fun x hx => ?_⟩
  · rcases List.mem_append.1 hx with hx | hx
    · exact h'.bag x hx
    · rw [List.mem_singleton] at hx; subst hx; exact Cel.new w t cs
  · rcases List.mem_append.1 hx with hx | hx
    · exact h'.ty x hx
    · rw [List.mem_singleton] at hx; subst hx; exact ht
theorem SB.get {W w : World} {g : Nat} {p : Dp} {r : Rp} {d e : DS} {L : List BxT} (h : SB W w g p r d e L) (k : Nat) {b : Nat} {t : TypeId} {cs : List Value} (hk : L[k]? = some (b, t, cs)) : Cel w b t cs := h.bag _ (List.mem_of_getElem? hk)
theorem butL_of {b : Nat} {w w' : World} (h : H.But b w w') : ButL [b] w w' := ⟨h.os, h.tape, h.output, h.size, fun k hk hn => h.block k hk (by simpa using hn)⟩
theorem SB.put {W w w' : World} {g : Nat} {p : Dp} {r : Rp} {d e : DS} {L : List BxT} {b : Nat} {t : TypeId} {cs cs' : List Value} (h : SB W w g p r d e ((b, t, cs) :: L)) (h34 : t ≠ 34) (hB : W.heap.size ≤ b) (hL : ∀ x ∈ L, x.1 ≠ b) (hc : Cel w' b t cs') (hb : ButL [b] w w') : SB W w' g p r d e ((b, t, cs') :: L) := by
  have h0 : SB W w g p r d e L := ⟨h.ss, fun x hx => h.bag x (by simp [hx]), fun x hx => h.ty x (by simp [hx])⟩
  have h1 := h0.but (h.bag (b, t, cs) (by simp)) (h.ty (b, t, cs) (by simp)) h34 hB hL hb
  refine ⟨h1.ss, fun x hx => ?_, fun x hx => ?_⟩
  · rcases List.mem_cons.1 hx with rfl | hx
    · exact hc
    · exact h1.bag x hx
  · rcases List.mem_cons.1 hx with rfl | hx
    · exact h.ty (b, t, cs) (by simp)
    · exact h1.ty x hx
theorem write_b (W w : World) (g : Nat) (p : Dp) (r : Rp) (d : DS) (L : List BxT) (h : SB W w g p r d d L) (q off v : Int) :
    Calls Tryz.prog 8 #[.pointer (some ⟨g, 0, none⟩), .int .i64 q, .int .i64 off, .int .u32 v] w fun e w' => e = .returned (.bool true) ∧ ∃ r', SB W w' g p r' { d with m := d.m.write true q off v } { d with m := d.m.write true q off v } L := by
  have HA := hid (fun w (hw : DB w p d) => write_any w p.f d.m hw.mem true q off v)
  have HR := hid (fun w (hw : RDB w r d) => rwrite_any w r.r d.m hw.mem true q off v)
  have HNs : Hid ((d.m.write true q off v).ns = d.m.ns) := hid (MS.write_ns _ _ _ _ _)
  have S1 := hid (h.on (Below.refl _ _).drew)
  have HSc := hid (fun w => secure_l w q)
  have HNm := hid (fun w x => num_l w x)
  clear h
  simp only [ptr, fr] at *
  generalize hm2 : d.m.write true q off v = m2 at *
  clear hm2
  generalize d.m.err true q off = f at *
  go_enter Tryz.func8, Tryz.ntmps8
  go_upto_region 1 with fail
  refine wp_region_held_drew (S := fun w => w.cell? ⟨g, 0, none⟩ = some (.pointer (some ⟨p.f.gm, 0, none⟩))) (by kernel_rfl) S1.out.ss.c.1 (fun hHeld => ?_)
  generalize World.drew _ = w1 at *
  refine tk 0 (some 11) (.pointer (some ⟨g, 0, none⟩)) ?_
  simp only [Act.put, tqA, tqZ, tqS]
  refine tk 1 (some 12) (.pointer (some ⟨g, 0, none⟩)) ?_
  simp only [Act.put, tqA, tqZ, tqS]
  refine tk 2 (some 13) (.pointer (some ⟨g, 0, none⟩)) ?_
  simp only [Act.put, tqA, tqZ, tqS]
  refine tk 3 (some 14) (.pointer (some ⟨p.f.gm, 0, none⟩)) ?_ (hy := Or.inl ⟨by rfl, by intro w hSw; have hc := hSw; go_simp⟩)
  simp only [Act.put, tqA, tqZ, tqS]
  refine tk 4 (some 15) (.int .i64 q) ?_
  simp only [Act.put, tqA, tqZ, tqS]
  refine tk 6 (some 17) (.int .i64 off) ?_
  simp only [Act.put, tqA, tqZ, tqS]
  refine tk 7 (some 18) (.int .u32 v) ?_
  simp only [Act.put, tqA, tqZ, tqS]
  refine wpAnyH_ready (rs := [5]) (by kernel_rfl) (by simp) (AllReadyH.cons (o := ⟨some 16, .call { callee := .value (.func 23), args := #[.tmp 15], argTypes := #[3] }, 57, "law.go:69", #[⟨4, .data⟩], none⟩) rfl (fun KQ hK => ?_) AllReadyH.nil)
  go_simp
  refine (HSc.out _).mono ?_
  rintro e w2 ⟨rfl, hb⟩
  have S2 := hid (S1.out.on hb)
  clear hb S1
  go_wp2_with fail
  refine hK.out _ _ S2.out.ss.c.1 (fun hHeld => ?_)
  clear hK KQ
  try simp only [Act.put, tqA, tqZ, tqS]
  refine wpAnyH_ready (rs := [8]) (by kernel_rfl) (by simp) (AllReadyH.cons (o := ⟨some 19, .call { callee := .value (.func 22), args := #[.tmp 14, .tmp 16, .tmp 17, .tmp 18], argTypes := #[30, 57, 3, 22] }, 54, "law.go:69", #[⟨3, .data⟩, ⟨5, .data⟩, ⟨6, .data⟩, ⟨7, .data⟩, ⟨5, .chain⟩], none⟩) rfl (fun KQ hK => ?_) AllReadyH.nil)
  go_simp
  refine (HA.out _ S2.out.ss.own).mono ?_
  rintro e w3 ⟨rfl, hm, hb⟩
  have S3 := hid (S2.out.memA hm hb HNs.out)
  clear hm hb S2
  go_wp2_with fail
  refine hK.out _ _ S3.out.ss.c.1 (fun hHeld => ?_)
  clear hK KQ
  try simp only [Act.put, tqA, tqZ, tqS]
  refine wpAnyH_ready (rs := [9]) (by kernel_rfl) (by simp) (AllReadyH.cons (o := ⟨some 9, .assign (.tmp 19), 54, "law.go:69", #[⟨8, .data⟩, ⟨8, .chain⟩, ⟨0, .phase⟩, ⟨1, .phase⟩, ⟨2, .phase⟩, ⟨3, .phase⟩, ⟨4, .phase⟩, ⟨5, .phase⟩, ⟨6, .phase⟩, ⟨7, .phase⟩, ⟨8, .phase⟩], none⟩) rfl (fun KQ hK => ?_) AllReadyH.nil)
  go_simp
  refine hK.out _ _ S3.out.ss.c.1 (fun hHeld => ?_)
  clear hK KQ
  try simp only [Act.put, tqA, tqZ, tqS]
  refine wpAnyH_done (by kernel_rfl) ?_ _
  obtain ⟨x0, x1, x2⟩ := S3.out.ss.c
  have x3 := S3.out.ss.doc.c0
  go_wp2_with (first | (go_at_call 24; refine (HR.out _ S3.out.ss.doc).mono ?_; rintro e w4 ⟨rfl, r4, hs⟩; have S4 := hid (S3.out.memR hs HNs.out); clear hs S3 x0 x1 x2 x3) | (go_at_call 25; refine (HNm.out _ _).mono ?_; rintro e wx ⟨rfl, hw⟩; subst wx))
  go_ret
  exact ⟨rfl, _, S4.out⟩
end Go.Proofs.YtildhjiddidghaaGreatDoor
namespace Go.Proofs.YtildhjiddidghaaGreatDoor
open Go.RowKit
set_option maxHeartbeats 4000000
set_option maxRecDepth 100000
def rep7 (j : Nat) : List Int := List.replicate j 7
theorem rep7_len (j : Nat) : (rep7 j).length = j := by simp [rep7]
theorem rep7_snoc (j : Nat) : rep7 j ++ [7] = rep7 (j + 1) := by simp [rep7, List.replicate_succ']
def dgA (j : Nat) : List Int := H.S.run H.S.First (rep7 j) (j / 16)
def dgP (j : Nat) : List Int := (rep7 j).drop (16 * (j / 16))
theorem dgA_len (j : Nat) : (dgA j).length = 8 := H.run_length _ _ rfl _
theorem dgP_len (j : Nat) : (dgP j).length = j % 16 := by rw [dgP, List.length_drop, rep7_len]; omega
theorem dg_next (j : Nat) : H.S.run (dgA j) (dgP j ++ [7]) ((j % 16 + 1) / 16) = dgA (j + 1) ∧ (dgP j ++ [7]).drop (16 * ((j % 16 + 1) / 16)) = dgP (j + 1) := by
  have e1 : dgP j ++ [7] = (rep7 (j + 1)).drop (16 * (j / 16)) := by
    rw [dgP, ← rep7_snoc, List.drop_append_of_le_length (by rw [rep7_len]; omega)]
  have e2 : (j + 1) / 16 = j / 16 + (j % 16 + 1) / 16 := by omega
  constructor
  · have h1 : H.S.run H.S.First (rep7 (j + 1)) (j / 16) = dgA j := by rw [← rep7_snoc, H.run_head _ _ _ _ (by rw [rep7_len]; omega)]; rfl
    rw [show dgA (j + 1) = H.S.run H.S.First (rep7 (j + 1)) ((j + 1) / 16) from rfl, e2, H.run_more, h1, e1]
  · rw [e1, dgP, List.drop_drop, e2]
    congr 1
    omega
def sv (j : Nat) : List Int := H.saveL (dgA j) j (dgP j)
theorem sv_len (j : Nat) : (sv j).length = 26 := H.saveL_length _ _ _ (dgA_len j) (by rw [dgP_len]; omega)
theorem sv_rg (j : Nat) (hj : j < 4294967296) (i : Nat) : 0 ≤ (sv j).getD i 0 ∧ (sv j).getD i 0 < 4294967296 := by
  have hA := dgA_len j
  by_cases h8 : i < 8
  · rw [sv, H.saveL_A _ _ _ hA i h8]; exact H.wds_run _ _ i
  · by_cases e8 : i = 8
    · subst e8; rw [sv, H.saveL_n8 _ _ _ hA]; omega
    · by_cases e9 : i = 9
      · subst e9; rw [sv, H.saveL_n9 _ _ _ hA]; omega
      · by_cases hp : i - 10 < (dgP j).length
        · obtain ⟨q, rfl⟩ : ∃ q, i = 10 + q := ⟨i - 10, by omega⟩
          rw [sv, H.saveL_p _ _ _ hA q (by omega)]
          have : ∀ y ∈ dgP j, y = 7 := fun y hy => by
            have := List.mem_of_mem_drop hy
            rw [rep7, List.mem_replicate] at this
            exact this.2
          have h2 : q < (dgP j).length := by omega
          rw [List.getD_eq_getElem?_getD, List.getElem?_eq_getElem h2]
          have := this _ (List.getElem_mem h2)
          simp only [Option.getD_some]
          omega
        · rw [sv, H.saveL_z _ _ _ hA i (by omega)]; decide
theorem SB.made {W w w' : World} {g : Nat} {p : Dp} {r : Rp} {d e : DS} {L : List BxT} (h : SB W w g p r d e L) (t : TypeId) (zs cs' : List Value) (ht : okT t = true) (h34 : t ≠ 34) (hc : Cel w' w.heap.size t cs') (hb : ButL [w.heap.size] (w.alloc (.cells zs.toArray t)) w') : SB W w' g p r d e ((w.heap.size, t, cs') :: L) := by
  have x3 := h.on (below_one w (.cells zs.toArray t))
  have x4 : SB W (w.alloc (.cells zs.toArray t)) g p r d e ((w.heap.size, t, zs) :: L) := by
    refine ⟨x3.ss, fun y hy => ?_, fun y hy => ?_⟩
    · rcases List.mem_cons.1 hy with rfl | hy
      · exact Cel.new w t zs
      · exact x3.bag y hy
    · rcases List.mem_cons.1 hy with rfl | hy
      · exact ht
      · exact x3.ty y hy
  exact x4.put h34 h.ss.bl.size (fun y hy => by have := (h.bag y hy).lt; omega) hc hb
theorem size136 : (Tryz.prog.info? 136).map (·.size) = some 26 := by kernel_rfl
structure D8 (W x : World) (g : Nat) (p : Dp) (r : Rp) (d : DS) (g3 : Nat) (cs : List Value) (gd g6 j : Nat) : Prop where
  sb : ∃ ao k c, SB W x g p r d d [(g6, 132, H.rdC (dgA j) (.slice ao k c) (j : Int)), (g3, 42, cs)] ∧ k = (dgP j).length ∧ k ≤ c ∧ H.Wat x ao (dgP j)
  dig : H.DigL x gd (rep7 j)
  nd : W.heap.size ≤ gd
  n6 : W.heap.size ≤ g6
theorem DigL.cel {x : World} {gd : Nat} {L : List Int} (h : H.DigL x gd L) : ∃ cs, Cel x gd 166 cs := by
  obtain ⟨r, _, hc⟩ := h.cells
  exact ⟨_, hc⟩
theorem Cel.ne2 {x : World} {a b : Nat} {t s : TypeId} {cs cs' : List Value} (h : Cel x a t cs) (h' : Cel x b s cs') (hts : t ≠ s) : a ≠ b := fun e => hts (by subst e; exact h.ty h')
theorem D8.on {W x x' : World} {g : Nat} {p : Dp} {r : Rp} {d : DS} {g3 : Nat} {cs : List Value} {gd g6 j : Nat} (h : D8 W x g p r d g3 cs gd g6 j) (hb : Below x.heap.size x x') : D8 W x' g p r d g3 cs gd g6 j := by
  obtain ⟨ao, k, c, h1, h2, h3, h4⟩ := h.sb
  exact ⟨⟨ao, k, c, h1.on hb, h2, h3, h4.below hb⟩, h.dig.below hb, h.nd, h.n6⟩
theorem D8.b3 {W x : World} {g : Nat} {p : Dp} {r : Rp} {d : DS} {g3 : Nat} {cs : List Value} {gd g6 j : Nat} (h : D8 W x g p r d g3 cs gd g6 j) : Cel x g3 42 cs := by
  obtain ⟨ao, k, c, h1, _⟩ := h.sb
  exact h1.get 1 rfl
theorem D8.bl {W x : World} {g : Nat} {p : Dp} {r : Rp} {d : DS} {g3 : Nat} {cs : List Value} {gd g6 j : Nat} (h : D8 W x g p r d g3 cs gd g6 j) : Below W.heap.size W x := by
  obtain ⟨ao, k, c, h1, _⟩ := h.sb
  exact h1.ss.bl
structure D8h (W x : World) (g : Nat) (p : Dp) (r : Rp) (d : DS) (g3 : Nat) (cs : List Value) (gd g6 j : Nat) (ao : Option Addr) (k c : Nat) : Prop where
  sb : SB W x g p r d d [(g6, 132, H.rdC (dgA j) (.slice ao k c) (j : Int)), (g3, 42, cs)]
  hk : k = (dgP j).length
  hc : k ≤ c
  wat : H.Wat x ao (dgP j)
  dig : H.DigL x gd (rep7 (j + 1))
  nd : W.heap.size ≤ gd
  n6 : W.heap.size ≤ g6
theorem D8.half {W x x' : World} {g : Nat} {p : Dp} {r : Rp} {d : DS} {g3 : Nat} {cs : List Value} {gd g6 j : Nat} (h : D8 W x g p r d g3 cs gd g6 j) (hd : H.DigL x' gd (rep7 j ++ [7])) (hb : H.But gd x x') : ∃ ao k c, D8h W x' g p r d g3 cs gd g6 j ao k c := by
  obtain ⟨ao, k, c, h1, h2, h3, h4⟩ := h.sb
  obtain ⟨dc, hdc⟩ := DigL.cel h.dig
  refine ⟨ao, k, c, h1.but hdc rfl (by decide) h.nd (fun y hy => ?_) (butL_of hb), h2, h3, h4.but hdc (by decide) hb, by rw [rep7_snoc] at hd; exact hd, h.nd, h.n6⟩
  simp only [List.mem_cons, List.not_mem_nil, or_false] at hy
  rcases hy with rfl | rfl
  · exact (h1.get 0 rfl).ne2 hdc (by decide)
  · exact (h1.get 1 rfl).ne2 hdc (by decide)
theorem D8h.on {W x x' : World} {g : Nat} {p : Dp} {r : Rp} {d : DS} {g3 : Nat} {cs : List Value} {gd g6 j : Nat} {ao : Option Addr} {k c : Nat} (h : D8h W x g p r d g3 cs gd g6 j ao k c) (hb : Below x.heap.size x x') : D8h W x' g p r d g3 cs gd g6 j ao k c :=
  ⟨h.sb.on hb, h.hk, h.hc, h.wat.below hb, h.dig.below hb, h.nd, h.n6⟩
theorem D8h.full {W x x' : World} {g : Nat} {p : Dp} {r : Rp} {d : DS} {g3 : Nat} {cs : List Value} {gd g6 j : Nat} {ao ao' : Option Addr} {k c c' : Nat} (h : D8h W x g p r d g3 cs gd g6 j ao k c) (hc : Cel x' g6 132 (H.rdC (dgA (j + 1)) (.slice ao' (dgP (j + 1)).length c') ((j + 1 : Nat) : Int))) (hb : ButL [g6] x x') (hw : H.Wat x ao' (dgP (j + 1))) (hcc : (dgP (j + 1)).length ≤ c') : D8 W x' g p r d g3 cs gd g6 (j + 1) := by
  have c6 := h.sb.get 0 rfl
  obtain ⟨dc, hdc⟩ := DigL.cel h.dig
  have hb' : H.But g6 x x' := ⟨hb.os, hb.tape, hb.output, hb.size, fun k hk hn => hb.block k hk (by simpa using hn)⟩
  refine ⟨⟨ao', _, c', h.sb.put (by decide) h.n6 (fun y hy => ?_) hc hb, rfl, hcc, hw.but c6 (by decide) hb'⟩, h.dig.but hb' (hdc.ne2 c6 (by decide)), h.nd, h.n6⟩
  rw [List.mem_singleton] at hy
  subst hy
  exact (h.sb.get 1 rfl).ne2 c6 (by decide)
theorem radd7 (w : World) (hR : H.TabR w) (h2 : 2 < w.heap.size) (j : Nat) (hj : j < 40) (ao : Option Addr) (k c : Nat) (hk : k = (dgP j).length) (hw : H.Wat w ao (dgP j)) (b : Nat) (hb : H.At w .u32 (some ⟨b, 0, none⟩) [7]) :
    Calls Tryz.prog 79 #[.agg (H.rdC (dgA j) (.slice ao k c) (j : Int)).toArray, .slice (some ⟨b, 0, none⟩) 1 1] w fun e w' => ∃ ao' c', e = .returned (.agg (H.rdC (dgA (j + 1)) (.slice ao' (dgP (j + 1)).length c') ((j + 1 : Nat) : Int)).toArray) ∧ (dgP (j + 1)).length ≤ c' ∧ H.Wat w' ao' (dgP (j + 1)) ∧ Below w.heap.size w w' := by
  subst hk
  refine (H.radd_fits w hR h2 (dgA j) (dgA_len j) ao _ c j (dgP j) rfl (by rw [dgP_len]; omega) hw.at (some ⟨b, 0, none⟩) 1 1 [7] rfl hb (by decide) (by omega)).mono ?_
  rintro e w' ⟨ao', c', he, h1, h3, h4⟩
  rw [dgP_len] at he h1 h3
  rw [(dg_next j).1, (dg_next j).2] at he
  rw [(dg_next j).2] at h1 h3
  exact ⟨ao', c', he, h1, h3.wat, h4⟩
def MS.w26 (m : MS) (a : Int) (L : List Int) : Nat → MS
  | 0 => m
  | k + 1 => (m.w26 a L k).write true a (11 + (k : Int)) (L.getD k 0)
def DS.dgs (d : DS) (a : Int) (n : Nat) : DS := { d with m := d.m.w26 a (sv n) 26 }
theorem digests_l (W w : World) (hT : H.Tab W) (hR : H.TabR W) (h2 : 2 < W.heap.size) (g : Nat) (p : Dp) (r : Rp) (d : DS) (h : SS W w g p r d d) (k a b c v : Int) (v0 : 0 ≤ v) (v1 : v < 4294967296) (u : Value) :
    Calls Tryz.prog 43 #[.pointer (some ⟨g, 0, none⟩), .agg #[.int .i64 k, .int .i64 a, .int .i64 b, .int .i64 c, .int .u32 v, u]] w fun e w' => e = .returned (.bool true) ∧ ∃ q, SS W w' g p q (d.dgs a (min v.toNat 40)) (d.dgs a (min v.toNat 40)) := by
  have HTb := hid (fun w (hb : Below W.heap.size W w) => And.intro (hT.below hb h2) (And.intro (hR.below hb (by omega)) (show 2 < w.heap.size by have := hb.size; omega)))
  obtain ⟨n, hn⟩ : ∃ n : Nat, v = (n : Int) := ⟨v.toNat, by omega⟩
  subst hn
  have HV : Hid (((n : Int)).toNat = n) := hid (by omega)
  rw [HV.out]
  have X0 : Hid (SB W (w.alloc (.cells #[.int .i64 k, .int .i64 a, .int .i64 b, .int .i64 c, .int .u32 (n : Int), u] 42)) g p r d d [(w.heap.size, 42, [.int .i64 k, .int .i64 a, .int .i64 b, .int .i64 c, .int .u32 (n : Int), u])]) := hid ((SB.mk h (by simp) (by simp) : SB W w g p r d d []).box 42 [.int .i64 k, .int .i64 a, .int .i64 b, .int .i64 c, .int .u32 (n : Int), u] rfl)
  have HWs := hid h.bl.size
  obtain ⟨N, hN⟩ : ∃ N, min n 40 = N := ⟨_, rfl⟩
  rw [hN]
  have HN := hid hN
  clear h hT hR h2 v0 hN
  go_enter Tryz.func43, Tryz.ntmps43
  go_upto_region 1 with fail
  generalize World.alloc _ _ = X at *
  generalize w.heap.size = g3 at *
  go_upto_region 4 with (go_at_call 76; refine (H.newL_any _).mono ?_; rintro e w1 ⟨gd, hgd, rfl, hdig, hb1⟩; have X1 := hid (X0.out.on hb1); have DG := hid hdig; have HGd := hid (show W.heap.size ≤ gd by have := X0.out.ss.bl.size; omega); clear hgd hdig hb1 X0)
  go_upto_region 5 with (first | (go_at_call 77; refine (H.rnew_any _).mono ?_; rintro e w2 ⟨rfl, hb2⟩; have X2 := hid (X1.out.on hb2); have DG2 := hid (DG.out.below hb2); clear hb2 X1 DG) | (refine H.wpList_store_cel rfl 132 _ _ rfl w2.heap.size (H.rdC H.S.First (.slice none 0 0) 0) rfl rfl (Cel.new w2 132 H.zero59) H.size59 rfl (H.rdC_one H.S.First none 0 0 0) ?_; intro w3 hc3 hb3 hs3))
  simp only [Act.put]
  have D0 : Hid (D8 W w3 g p r d g3 [.int .i64 k, .int .i64 a, .int .i64 b, .int .i64 c, .int .u32 (n : Int), u] gd w2.heap.size 0) := hid (by
    have x3 := X2.out.box 132 H.zero59 rfl
    have x4 : SB W (w2.alloc (.cells H.zero59.toArray 132)) g p r d d [(w2.heap.size, 132, H.zero59), (g3, 42, [.int .i64 k, .int .i64 a, .int .i64 b, .int .i64 c, .int .u32 (n : Int), u])] := ⟨x3.ss, fun y hy => x3.bag y (by simp only [List.mem_cons, List.not_mem_nil, or_false] at hy; rcases hy with rfl | rfl <;> simp), fun y hy => x3.ty y (by simp only [List.mem_cons, List.not_mem_nil, or_false] at hy; rcases hy with rfl | rfl <;> simp)⟩
    have l3 := (X2.out.get 0 rfl).lt
    have ld := DG2.out.lt
    have x5 := x4.put (by decide) X2.out.ss.bl.size (fun y hy => by rw [List.mem_singleton] at hy; subst hy; simp only; omega) hc3 (butL_of hb3)
    exact ⟨⟨none, 0, 0, x5, rfl, Nat.le_refl _, .inl rfl⟩, (DG2.out.below (below_one _ _)).but hb3 (by omega), HGd.out, X2.out.ss.bl.size⟩)
  generalize w2.heap.size = g6 at *
  clear hc3 hb3 hs3 X2 DG2 HGd
  go_upto_region 6 with fail
  go_loopw [7] (fun i wr => ∃ (j : Nat), j ≤ min n 40 ∧ i = .int .u32 (j : Int) ∧ Hid (D8 W wr g p r d g3 [.int .i64 k, .int .i64 a, .int .i64 b, .int .i64 c, .int .u32 (n : Int), u] gd g6 j)) (fun i _ => min n 40 - (intOf i).toNat)
  case atStart => exact ⟨0, Nat.zero_le _, rfl, D0⟩
  case round =>
    obtain ⟨j, hj, rfl, HD⟩ := hrel
    clear D0
    have y4 : wr.cell? ⟨g3, 4, none⟩ = some (.int .u32 (n : Int)) := HD.out.b3.cell 4
    by_cases hlt : j < min n 40
    · have q1 : (j : Int) < (n : Int) := by omega
      have q2 : (j : Int) < 40 := by omega
      have HJ := hid hlt
      have hwj : IntKind.wrap .u32 ((j : Int) + 1) = (j : Int) + 1 := wr32 _ (by omega) (by omega)
      clear hlt hj
      go_upto_region 8 with fail
      have HDa := hid (HD.out.on (below_one wr (.cells #[.int .u32 7] 22)))
      have A7 : Hid (H.At (wr.alloc (.cells #[.int .u32 7] 22)) .u32 (some ⟨wr.heap.size, 0, none⟩) [7]) := hid (.inr ⟨wr.heap.size, 0, rfl, (Cel.new wr 22 [.int .u32 7]).lt, H.row_new wr .u32 22 [7] #[.int .u32 7] rfl⟩)
      clear HD y4
      go_upto_region 9 with (go_at_call 78; refine (H.addL_any _ (HTb.out _ HDa.out.bl).1 (HTb.out _ HDa.out.bl).2.2 gd (rep7 j) HDa.out.dig (some ⟨wr.heap.size, 0, none⟩) 1 1 [7] rfl A7.out (by decide) (by rw [rep7_len]; have := HJ.out; omega)).mono ?_; rintro e w5 ⟨rfl, hd5, hb5⟩; obtain ⟨ao, kk, cc, hh⟩ := HDa.out.half hd5 hb5; have HH := hid hh; clear hh hd5 hb5 HDa A7)
      have C6 := hid (HH.out.sb.get 0 rfl)
      have HHa := hid (HH.out.on (below_one w5 (.cells #[.int .u32 7] 22)))
      have A8 : Hid (H.At (w5.alloc (.cells #[.int .u32 7] 22)) .u32 (some ⟨w5.heap.size, 0, none⟩) [7]) := hid (.inr ⟨w5.heap.size, 0, rfl, (Cel.new w5 22 [.int .u32 7]).lt, H.row_new w5 .u32 22 [7] #[.int .u32 7] rfl⟩)
      clear HH
      go_wp2_with (first | (refine H.wpList_load_cel rfl 132 _ rfl g6 (H.rdC (dgA j) (.slice ao kk cc) (j : Int)) rfl C6.out Tryz.underlying132 rfl (by rw [H.size59, H.rdC_length _ _ _ (dgA_len j)]) ?_) | (go_at_call 79; refine (radd7 _ (HTb.out _ HHa.out.sb.ss.bl).2.1 (HTb.out _ HHa.out.sb.ss.bl).2.2 j (by have := HJ.out; omega) ao kk cc HHa.out.hk HHa.out.wat w5.heap.size A8.out).mono ?_; rintro e w6 ⟨ao', c', rfl, hc6, hw6, hb6⟩; have HHb := hid (HHa.out.on hb6); have HW6 := hid (And.intro hc6 hw6); clear hc6 hw6 hb6 HHa A8 C6; have C7 := hid (HHb.out.sb.get 0 rfl)) | (refine H.wpList_store_cel rfl 132 _ _ rfl g6 (H.rdC (dgA (j + 1)) (.slice ao' (dgP (j + 1)).length c') ((j + 1 : Nat) : Int)) rfl rfl C7.out (by rw [H.size59, H.rdC_length _ _ _ (dgA_len (j + 1))]) (by rw [H.rdC_length _ _ _ (dgA_len j), H.rdC_length _ _ _ (dgA_len (j + 1))]) (H.rdC_one _ _ _ _ _) ?_; intro w7 hc7 hb7 hs7; have HD8 := hid (HHb.out.full hc7 (butL_of hb7) HW6.out.2 HW6.out.1); clear hc7 hb7 hs7 HHb HW6 C7))
      go_roundw
      case measure => have := HJ.out; simp [intOf] <;> omega
      case rel => exact ⟨j + 1, by have := HJ.out; omega, by simp, HD8⟩
    · have HJm : Hid (j = N) := hid (by have := HN.out; omega)
      go_upto_region 6 with fail
      go_cut [21] (fun x w => x = .bool false ∧ wr = w)
      case first =>
        have hjn : (n : Int) ≤ (j : Int) ∨ ((j : Int) < (n : Int) ∧ (40 : Int) ≤ (j : Int)) := by omega
        clear hlt hj
        rcases hjn with hjn | ⟨hjn, hjm⟩
        · clear v1
          go_wp2_with fail
          go_meet
          first | exact ⟨rfl, rfl⟩ | exact ⟨by simp <;> omega, rfl⟩
        · clear v1
          go_wp2_with fail
          go_meet
          first | exact ⟨rfl, rfl⟩ | exact ⟨by simp <;> omega, rfl⟩
      case rest =>
        obtain ⟨rfl, rfl⟩ := hcut
        have HJ40 : Hid (j ≤ 40) := hid (by omega)
        clear hlt hj y4
        have HL26 : Hid ((sv j).length = 26) := hid (sv_len j)
        obtain ⟨ao, kk, cc, hsb, hkk, hcc, hwt⟩ := HD.out.sb
        have S1 := hid hsb
        have HKW := hid (And.intro hkk hwt)
        have SVd : Hid (∀ w, H.DigL w gd (rep7 j) → Calls Tryz.prog 80 #[.pointer (some ⟨gd, 0, none⟩)] w fun e w' => e = .returned (.agg ((sv j).map (Value.int .u32)).toArray) ∧ Below w.heap.size w w') := hid (fun w hd => by have := H.save_any w gd _ _ _ hd; rw [rep7_len] at this; exact this)
        have RSv : Hid (∀ w, H.Wat w ao (dgP j) → Calls Tryz.prog 81 #[.agg (H.rdC (dgA j) (.slice ao kk cc) (j : Int)).toArray] w fun e w' => e = .returned (.agg ((sv j).map (Value.int .u32)).toArray) ∧ Below w.heap.size w w') := hid (fun w hw => H.rdsave_any w (dgA j) (dgA_len j) ao kk cc j (by have := HJ40.out; omega) (dgP j) hkk.symm (by rw [hkk, dgP_len]; omega) hw.at)
        have HDg := hid HD.out.dig
        clear hsb hkk hcc hwt HD
        go_upto_region 11 with (first | (go_at_call 80; refine (SVd.out _ HDg.out).mono ?_; rintro e w8 ⟨rfl, hb8⟩; have S2 := hid (S1.out.on hb8); have HW8 := hid (HKW.out.2.below hb8); clear hb8 S1) | (refine H.wpList_store_cel rfl 136 _ _ rfl w8.heap.size ((sv j).map (Value.int .u32)) rfl rfl (Cel.new w8 136 ((List.replicate 26 0).map (Value.int .u32))) (by rw [size136, List.length_map, HL26.out]) (by rw [List.length_map, List.length_map, HL26.out]; rfl) (by intro y hy; rw [List.mem_map] at hy; obtain ⟨z, _, rfl⟩ := hy; rfl) ?_; intro w9 hc9 hb9 hs9; have S3 := hid (S2.out.made 136 ((List.replicate 26 0).map (Value.int .u32)) ((sv j).map (Value.int .u32)) rfl (by decide) hc9 (butL_of hb9)); have HW9 := hid ((HW8.out.below (below_one w8 (.cells ((List.replicate 26 0).map (Value.int .u32)).toArray 136))).but (Cel.new w8 136 ((List.replicate 26 0).map (Value.int .u32))) (by decide) hb9); clear hc9 hb9 hs9 S2 HW8))
        simp only [Act.put]
        generalize w8.heap.size = g8 at *
        have S4 := hid (S3.out.on (Below.refl _ _).drew)
        have HWa := hid (HW9.out.below (Below.refl _ _).drew)
        clear S3 HW9 SVd HDg
        refine wp_region_held_drew (S := fun w => Cel w g8 136 ((sv j).map (Value.int .u32)) ∧ Cel w g6 132 (H.rdC (dgA j) (.slice ao kk cc) (j : Int))) (by kernel_rfl) ⟨S4.out.get 0 rfl, S4.out.get 1 rfl⟩ (fun hHeld => ?_)
        refine tk 0 (some 32) (.agg ((sv j).map (Value.int .u32)).toArray) ?_ (hy := yieldsIf_load_mid (by rfl) _ _ rfl _ _ rfl _ _ (fun w hSw => hSw.1.range) Tryz.underlying136 rfl (by rw [size136, List.length_map, HL26.out]))
        simp only [Act.put, tqA, tqZ, tqS]
        refine tk 1 (some 33) (.agg (H.rdC (dgA j) (.slice ao kk cc) (j : Int)).toArray) ?_ (hy := yieldsIf_load_mid (by rfl) _ _ rfl _ _ rfl _ _ (fun w hSw => hSw.2.range) Tryz.underlying132 rfl (by rw [H.size59, H.rdC_length _ _ _ (dgA_len j)]))
        simp only [Act.put, tqA, tqZ, tqS]
        refine wpAnyH_ready (rs := [2]) (by kernel_rfl) (by simp) (AllReadyH.cons (o := ⟨some 34, .call { callee := .value (.func 81), args := #[.tmp 33], argTypes := #[132] }, 136, "law.go:86", #[⟨1, .data⟩], none⟩) rfl (fun KQ hK => ?_) AllReadyH.nil)
        go_simp
        refine (RSv.out _ HWa.out).mono ?_
        rintro e wb ⟨rfl, hbb⟩
        have S5 := hid (S4.out.on hbb)
        clear hbb S4 HWa
        go_wp2_with fail
        refine hK.out _ _ ⟨S5.out.get 0 rfl, S5.out.get 1 rfl⟩ (fun hHeld => ?_)
        clear hK KQ
        try simp only [Act.put, tqA, tqZ, tqS]
        refine tk 3 (some 35) (.bool false) ?_ (hy := Or.inl ⟨by rfl, by intro w hSw; have e40 := H.eq40 (sv j) (sv j) HL26.out HL26.out w; simp only [decide_true] at e40; go_simp⟩)
        simp only [Act.put, tqA, tqZ, tqS]
        refine wpAnyH_done (by kernel_rfl) ?_ _
        go_upto_region 14 with fail
        have S6 := hid S5.out
        go_loopw [9] (fun i wr => ∃ (q : Nat) (r2 : Rp), q ≤ 26 ∧ i = .int .i64 (q : Int) ∧ Hid (SB W wr g p r2 { d with m := d.m.w26 a (sv j) q } { d with m := d.m.w26 a (sv j) q } [(g8, 136, (sv j).map (Value.int .u32)), (g6, 132, H.rdC (dgA j) (.slice ao kk cc) (j : Int)), (g3, 42, [.int .i64 k, .int .i64 a, .int .i64 b, .int .i64 c, .int .u32 (n : Int), u])])) (fun i _ => 26 - (intOf i).toNat)
        case atStart => exact ⟨0, _, by omega, rfl, S6⟩
        case round =>
          obtain ⟨q, r2, hq, rfl, HS⟩ := hrel
          clear S5 S6
          by_cases hlt : q < 26
          · have q1 : (q : Int) < 26 := by omega
            have HQ := hid hlt
            have hwq : IntKind.wrap .i64 (11 + (q : Int)) = 11 + (q : Int) := wr64 _ (by omega) (by omega)
            have HHd : Hid (∀ w r3 d3, SB W w g p r3 d3 d3 [(g8, 136, (sv j).map (Value.int .u32)), (g6, 132, H.rdC (dgA j) (.slice ao kk cc) (j : Int)), (g3, 42, [.int .i64 k, .int .i64 a, .int .i64 b, .int .i64 c, .int .u32 (n : Int), u])] → w.cell? ⟨g3, 1, none⟩ = some (.int .i64 a) ∧ w.cell? ⟨g8, q, none⟩ = some (.int .u32 ((sv j).getD q 0))) := hid (fun w r3 d3 hh => by
              refine ⟨(hh.get 2 rfl).cell 1, ?_⟩
              have hlq : q < (sv j).length := by rw [HL26.out]; exact hlt
              rw [(hh.get 0 rfl).cell q, List.getElem?_map, List.getElem?_eq_getElem hlq, List.getD_eq_getElem?_getD, List.getElem?_eq_getElem hlq]
              rfl)
            clear hlt hq
            go_upto_region 16 with fail
            have S7 := hid (HS.out.on (Below.refl _ _).drew)
            clear HS
            refine wp_region_held_drew (S := fun w => w.cell? ⟨g3, 1, none⟩ = some (.int .i64 a) ∧ w.cell? ⟨g8, q, none⟩ = some (.int .u32 ((sv j).getD q 0))) (by kernel_rfl) (HHd.out _ _ _ S7.out) (fun hHeld => ?_)
            refine tk 0 (some 40) (.pointer (some ⟨g, 0, none⟩)) ?_
            simp only [Act.put, tqA, tqZ, tqS]
            refine tk 1 (some 41) (.pointer (some ⟨g3, 1, none⟩)) ?_
            simp only [Act.put, tqA, tqZ, tqS]
            refine tk 2 (some 42) (.int .i64 a) ?_ (hy := Or.inl ⟨by rfl, by intro w hSw; have hc := hSw.1; go_simp⟩)
            simp only [Act.put, tqA, tqZ, tqS]
            refine tk 3 (some 43) (.int .i64 (q : Int)) ?_
            simp only [Act.put, tqA, tqZ, tqS]
            refine tk 4 (some 44) (.int .i64 (11 + (q : Int))) ?_
            simp only [Act.put, tqA, tqZ, tqS]
            refine tk 5 (some 45) (.int .i64 (q : Int)) ?_
            simp only [Act.put, tqA, tqZ, tqS]
            refine tk 6 (some 46) (.pointer (some ⟨g8, q, none⟩)) ?_
            simp only [Act.put, tqA, tqZ, tqS]
            refine tk 7 (some 47) (.int .u32 ((sv j).getD q 0)) ?_ (hy := Or.inl ⟨by rfl, by intro w hSw; have hc := hSw.2; go_simp⟩)
            simp only [Act.put, tqA, tqZ, tqS]
            refine wpAnyH_ready (rs := [8]) (by kernel_rfl) (by simp) (AllReadyH.cons (o := ⟨some 48, .call { callee := .value (.func 8), args := #[.tmp 40, .tmp 42, .tmp 44, .tmp 47], argTypes := #[26, 3, 3, 22] }, 4, "law.go:90", #[⟨0, .data⟩, ⟨2, .data⟩, ⟨4, .data⟩, ⟨7, .data⟩], none⟩) rfl (fun KQ hK => ?_) AllReadyH.nil)
            go_simp
            refine (write_b W _ g p r2 { d with m := d.m.w26 a (sv j) q } _ S7.out a (11 + (q : Int)) ((sv j).getD q 0)).mono ?_
            rintro e wc ⟨rfl, r3, hs3⟩
            have S8 := hid hs3
            clear hs3 S7
            go_wp2_with fail
            refine hK.out _ _ (HHd.out _ _ _ S8.out) (fun hHeld => ?_)
            clear hK KQ
            try simp only [Act.put, tqA, tqZ, tqS]
            refine tk 9 (some 49) (.bool false) ?_
            simp only [Act.put, tqA, tqZ, tqS]
            refine wpAnyH_done (by kernel_rfl) ?_ _
            go_wp2_with fail
            go_roundw
            case measure => have := HQ.out; simp [intOf] <;> omega
            case rel => exact ⟨q + 1, _, HQ.out, by simp, S8⟩
          · obtain rfl : q = 26 := by omega
            clear hlt hq
            go_wp2_with fail
            go_ret
            have hjN := HJm.out
            subst hjN
            exact ⟨rfl, _, HS.out.ss⟩
end Go.Proofs.YtildhjiddidghaaGreatDoor
namespace Go.Proofs.YtildhjiddidghaaGreatDoor
open Go.RowKit
set_option maxHeartbeats 2000000
set_option maxRecDepth 100000
theorem WL.on {W W' : World} {ao : Option Addr} {n : Nat} {L : List Int} (h : WL W ao n L) (hb : Below W.heap.size W W') : WL W' ao n L :=
  ⟨h.len, h.rg, fun hn => by
    obtain ⟨g, off, h1, h2, h3⟩ := h.at_ hn
    refine ⟨g, off, h1, fun j v hv => ?_, by have := hb.size; omega⟩
    have := h2 j v hv
    unfold World.cell? at this ⊢
    rw [hb.block g h3]
    exact this⟩
theorem WL.at {W : World} {g off : Nat} {n : Nat} {L : List Int} (h : WL W (some ⟨g, off, none⟩) n L) {j : Nat} (hj : j < n) : W.cell? ⟨g, off + j, none⟩ = some (.int .u32 (wd L j)) := by
  obtain ⟨g', off', h1, h2, h3⟩ := h.at_ (by omega)
  cases h1
  exact h2 j _ (by rw [u32s, List.getElem?_map, wd_at (by rw [h.len]; exact hj)]; rfl)
structure Oq where
  k : Int
  d : Int
  a : Int
  b : Int
  t : Int
  on : Bool
  off : Int
  v : Int
def Oq.cs (o : Oq) : List Value := [.int .i64 o.k, .int .i64 o.d, .int .i64 o.a, .int .i64 o.b, .int .i64 o.t, .bool o.on, .int .i64 o.off, .int .u32 o.v]
def Oq.val (o : Oq) : Value := .agg o.cs.toArray
def DS.callE (d : DS) (o : Oq) : Int := if o.k = 1 then d.bearE o.a o.b else if o.k = 2 then d.takeE o.a o.t o.b else if o.k = 3 then d.turnE o.a o.t else if o.k = 4 then d.giveE o.a else if o.k = 5 then d.stateE o.a o.t else d.enteredE o.a
def DS.call (d : DS) (o : Oq) : DS := if o.k = 1 then d.takeSpace o.a o.b else if o.k = 2 then d.take o.a o.t o.b else if o.k = 3 then d.turn o.a o.t else if o.k = 4 then d.give o.a else if o.k = 5 then d.state o.a o.t else d.entered o.a o.on
end Go.Proofs.YtildhjiddidghaaGreatDoor
