import Derived.Test.YtildhjiddidghaaGreatDoorP33
import Derived.Test.YtildhjiddidghaaGreatDoorP01
import Derived.Test.YtildhjiddidghaaGreatDoorP40
namespace Go.Proofs.YtildhjiddidghaaGreatDoor
open Go.RowKit
set_option maxHeartbeats 4000000
set_option maxRecDepth 100000
theorem wp_append_e {B : Nat} {w : World} {o : Oper} {a : Act} {K : Act → World → Prop} {Q : Exit → Act → World → Prop} (s x : Operand)
    (ho : o.op = .call { callee := .builtin .append, args := #[s, x], argTypes := #[60, 60] }) (v : Value) (E : List En) (hs : a.eval s = v) (H : w.ownsRow B 121 5 v E.length (ecs E)) (hB : B ≤ w.heap.size) (ad : Addr) (n c : Nat) (Y : List En) (hn : Y.length = n) (hx : a.eval x = .slice (some ad) n c)
    (hsrc : ∀ j u, (ecs Y)[j]? = some u → w.cell? (ad.add j) = some u) (hlen : E.length + n ≤ 1000)
    (h : ∀ v' w', w'.ownsRow B 121 5 v' (E ++ Y).length (ecs (E ++ Y)) → w.grownBy w' v.ownBlock → K (a.put o.dst v') w') : o.wp Tryz.prog a w K Q := by
  obtain ⟨i, hi, hz, hsize, hby⟩ := info_parts info124
  obtain ⟨v', w', hr, h1, h2, _⟩ := run_append_own (P := Tryz.prog) w B 60 o.type 121 i En.zero.v 5 40 under78 hi hz hsize hby rfl (by decide) v E.length _ H ad n c (ecs Y) (by rw [ecs_len, hn]) hsrc (fun u hu => by
    simp only [ecs, List.mem_flatMap] at hu
    obtain ⟨y, _, hy⟩ := hu
    exact cs_one y u hy) (by unfold maxLen; omega) (by omega) hB
  have hH : w'.ownsRow B 121 5 v' (E ++ Y).length (ecs (E ++ Y)) := by
    rw [List.length_append, hn, show ecs (E ++ Y) = ecs E ++ ecs Y from List.flatMap_append ..]
    exact h1
  unfold Oper.wp execOp
  simp only [ho, resolve, invoke, builtin, Sem.run_bind, Sem.run_pure, Result.andThen_ok, List.map_toArray, List.map_cons, List.map_nil, hs, hx, hr]
  exact h _ _ hH h2
theorem RN.snocB {W w w' : World} {r0 r : Rf} {g : Nat} {v v' : Value} {E : List En} {b : Int} {m : MS} (h : RN W w r0 g v r E b m) (hgr : w.grownBy w' v.ownBlock) (hB : Below W.heap.size W w) : Below W.heap.size W (w'.setCell ⟨g, 1, none⟩ v') := by
  have hbt : ButL v.ownBlock.toList w w' := grown_but hgr (fun b hb => by rw [hb]; simp)
  have h1 := hB.trans (hbt.below (B := W.heap.size) (fun k hk => by rw [Option.mem_toList] at hk; exact (own_blk h.own hk).1) hB.size)
  exact h1.trans ((ButL.setCell w' g 1 v' (by simp : g ∈ [g])).below (B := W.heap.size) (fun k hk => by rw [List.mem_singleton] at hk; rw [hk]; exact h.hg) h1.size)
theorem own_but2 {w w' : World} {B : Nat} {v : Value} {n : Nat} {L : List Value} {G : List Nat} (h : w.ownsRow B 121 5 v n L) (hb : ButL G w w') (hn : ∀ b, v.ownBlock = some b → b ∉ G) : w'.ownsRow B 121 5 v n L :=
  ⟨h.1, h.2.imp id fun ⟨g, cap, cur, hv, hB, hg, r⟩ => ⟨g, cap, cur, hv, hB, (hb.block g (Array.getElem?_eq_some_iff.1 hg).1 (hn g (by rw [hv]; rfl))).trans hg, r⟩⟩
theorem RN.apart {W w : World} {r0 r : Rf} {g : Nat} {v : Value} {E : List En} {b : Int} {m : MS} (h : RN W w r0 g v r E b m) {k : Nat} (hk : v.ownBlock = some k) : k < w.heap.size := by
  obtain ⟨_, cur, hc⟩ := own_blk h.own hk
  exact (Array.getElem?_eq_some_iff.1 hc).1
theorem grown_cel {w w' : World} {v : Value} {g : Nat} {t : TypeId} {cs : List Value} (hc : Cel w g t cs) (hgr : w.grownBy w' v.ownBlock) (hn : ∀ k, v.ownBlock = some k → k < g) : Cel w' g t cs :=
  hc.but (grown_but hgr (G := v.ownBlock.toList) (fun b hb => by rw [hb]; simp)) (fun hm => by rw [Option.mem_toList] at hm; have := hn g hm; omega)
theorem ldok_not {n : Nat} {L : List Int} {j : Nat} (hj : j < n) (h : ldS n L j = false) : ldok n L = false := by
  cases hh : ldok n L
  · rfl
  · have := ((ldok_iff _ _).1 hh).2.2 j hj
    rw [h] at this
    exact this.symm
theorem ldE_snoc (L : List Int) (j : Nat) : (List.range j).map (ldE L) ++ [ldE L j] = (List.range (j + 1)).map (ldE L) := by
  rw [List.range_succ, List.map_append]
  rfl
structure RNL (W w : World) (r : Rf) (g : Nat) (v : Value) (E : List En) (b : Int) (m : MS) : Prop where
  rn : RN W w r g v r E b m
  bl : Below W.heap.size W w
theorem RNL.on {W w w' : World} {r : Rf} {g : Nat} {v : Value} {E : List En} {b : Int} {m : MS} (h : RNL W w r g v E b m) (hb : Below w.heap.size w w') : RNL W w' r g v E b m := ⟨h.rn.on hb, below_on h.bl hb⟩
structure RNX (W w : World) (r : Rf) (g : Nat) (v : Value) (E : List En) (b : Int) (m : MS) (k : Nat) (x : En) : Prop where
  l : RNL W w r g v E b m
  c : Cel w k 121 x.cs
  ap : ∀ j, v.ownBlock = some j → j < k
theorem RNX.on {W w w' : World} {r : Rf} {g : Nat} {v : Value} {E : List En} {b : Int} {m : MS} {k : Nat} {x : En} (h : RNX W w r g v E b m k x) (hb : Below w.heap.size w w') : RNX W w' r g v E b m k x := ⟨h.l.on hb, h.c.on hb, h.ap⟩
theorem RNL.box {W w : World} {r : Rf} {g : Nat} {v : Value} {E : List En} {b : Int} {m : MS} (h : RNL W w r g v E b m) (x : En) : RNX W (w.alloc (.cells x.cs.toArray 121)) r g v E b m w.heap.size x := ⟨h.on (below_one _ _), Cel.new w 121 x.cs, fun _ hj => h.rn.apart hj⟩
theorem RNX.put {W w w' : World} {r : Rf} {g : Nat} {v : Value} {E : List En} {b : Int} {m : MS} {k : Nat} {x y : En} (h : RNX W w r g v E b m k x) (hW : W.heap.size ≤ k) (hc : Cel w' k 121 y.cs) (hb : ButL [k] w w') : RNX W w' r g v E b m k y := by
  have hgk : g ≠ k := fun e => by
    have h1 := h.l.rn.cel
    rw [e] at h1
    exact absurd (h1.ty h.c) (by decide)
  refine ⟨⟨⟨own_but2 h.l.rn.own hb (fun j hj hm => by rw [List.mem_singleton] at hm; have := h.ap j hj; omega), h.l.rn.cel.but hb (by rw [List.mem_singleton]; exact hgk), h.l.rn.hg, h.l.rn.mem.frame hb (fun j hj hm => ?_), h.l.rn.but.trans_sub hb (fun j hj => ?_), h.l.rn.sub⟩, h.l.bl.trans (hb.below (B := W.heap.size) (fun j hj => ?_) h.l.bl.size)⟩, hc, h.ap⟩
  · rw [List.mem_singleton] at hm
    subst hm
    exact h.l.rn.mem.off h.c (by decide) hj
  · rw [List.mem_singleton] at hj
    subst hj
    exact .inr hW
  · rw [List.mem_singleton] at hj
    subst hj
    exact hW
theorem rload_any (W : World) (r : Rf) (m : MS) (hm : RMem W r m) (h64 : m.ns ≤ 64) (h0 : 0 < m.ns) (ao : Option Addr) (n c : Nat) (L : List Int) (h : WL W ao n L) :
    Calls Tryz.prog 84 #[ptr r.g, .slice ao n c] W fun e W' => (ldok m.ns L = false ∧ e = .returned (.tuple #[.pointer none, .int .i64 110]) ∧ Below W.heap.size W W') ∨
      (ldok m.ns L = true ∧ ∃ p, e = .returned (.tuple #[ptr p.g, .int .i64 0]) ∧ p.r = r ∧ RDB W' p (DS.load m L) ∧ W.heap.size ≤ p.g ∧ W.heap.size ≤ p.ge ∧ Below W.heap.size W W') := by
  have HS := hid (fun w (hw : RMem w r m) => rsecure_any w r m hw)
  have HM := hid hm
  have k1 : IntKind.wrap .i64 (2 * (m.ns : Int)) = 2 * (m.ns : Int) := wr64 _ (by omega) (by omega)
  have k2 : IntKind.wrap .i64 (1 + 2 * (m.ns : Int)) = 1 + 2 * (m.ns : Int) := wr64 _ (by omega) (by omega)
  by_cases hn : n = 1 + 2 * m.ns
  · obtain ⟨gw, off, rfl, hrg, hlt⟩ := h.at_ (by omega)
    have y0 : W.cell? ⟨gw, off, none⟩ = some (.int .u32 (wd L 0)) := by
      have := hrg 0 (.int .u32 (wd L 0)) (by rw [u32s, List.getElem?_map, wd_at (by rw [h.len]; omega)]; rfl)
      exact this
    have n0 : (0 : Int) < (n : Int) := by omega
    have hni : (n : Int) = 1 + 2 * (m.ns : Int) := by omega
    have hne : ((n : Int) != 1 + 2 * (m.ns : Int)) = false := by rw [hni]; simp
    by_cases hb : wd L 0 ≤ 64
    · have HA := hid (fun (w : World) (g : Nat) (v : Value) (E : List En) (b : Int) (hw : RNL W w r g v E b m) (k : Nat) (hk : k < n) => (h.on hw.bl).at hk)
      have HRg := hid (fun (k : Nat) (hk : k < n) => h.rg (wd L k) (wd_mem (by rw [h.len]; exact hk)))
      have HS0 : Hid (RNL W (W.alloc (.cells #[.pointer (some ⟨r.g, 0, none⟩), .slice none 0 0, .int .i64 (wd L 0)] 62)) r W.heap.size (.slice none 0 0) [] (wd L 0) m) := hid
        ⟨⟨World.ownsRow_nil _ _ _ _, Cel.new W 62 [.pointer (some ⟨r.g, 0, none⟩), .slice none 0 0, .int .i64 (wd L 0)], Nat.le_refl _, hm.on (below_one _ _), .of (below_one _ _), fun k hk => .inl hk⟩, below_one _ _⟩
      have HR : Hid (L.length = 1 + 2 * m.ns ∧ wd L 0 ≤ 64 ∧ (∀ x ∈ L, 0 ≤ x ∧ x < 4294967296) ∧ n = 1 + 2 * m.ns ∧ m.ns ≤ 64 ∧ 0 < m.ns) := hid ⟨h.len.trans hn, hb, h.rg, hn, h64, h0⟩
      have b0 : 0 ≤ wd L 0 := (h.rg _ (wd_mem (by rw [h.len]; omega))).1
      clear hm h h64 hrg hlt hn h0 hni
      simp only [ptr] at *
      go_enter Tryz.func84, Tryz.ntmps84
      go_upto_region 4 with (go_at_call 63; refine (HS.out _ HM.out).mono ?_; rintro e w1 ⟨rfl, hw1⟩; subst w1)
      clear HM y0
      go_upto_region 5 with fail
      generalize W.alloc _ = X at *
      have HG6 : Hid (W.heap.size = W.heap.size) := hid rfl
      generalize hg : W.heap.size = g at *
      have HGG := hid hg
      clear hg HG6
      have HBW : Hid (wd L 0 = wd L 0) := hid rfl
      generalize hbw : wd L 0 = b at *
      replace HBW := hid hbw
      clear hbw
      go_loopw [7] (fun i wr => ∃ (j : Nat) (v : Value), j ≤ m.ns ∧ i = .int .i64 (j : Int) ∧ Hid (RN W wr r g v r ((List.range j).map (ldE L)) b m ∧ Below W.heap.size W wr ∧ ∀ k, k < j → ldS m.ns L k = true)) (fun i _ => m.ns - (intOf i).toNat)
      case atStart => exact ⟨0, _, Nat.zero_le _, rfl, hid ⟨HS0.out.1, HS0.out.2, by intro k hk; omega⟩⟩
      case round =>
        obtain ⟨j, v, hj, rfl, HQ⟩ := hrel
        clear HS0
        by_cases hlt : j < m.ns
        · have q1 : (j : Int) < (m.ns : Int) := by omega
          have HJ := hid hlt
          have HL := hid (RNL.mk HQ.out.1 HQ.out.2.1)
          have hn5 := HR.out.2.2.2
          have HD := hid (fun w => rdecode_any w (wd L (1 + 2 * j)) (wd L (2 + 2 * j)) (HRg.out _ (by omega)).1 (HRg.out _ (by omega)).2 (HRg.out _ (by omega)).1 (HRg.out _ (by omega)).2)
          have HAj : Hid (∀ w, RNL W w r g v ((List.range j).map (ldE L)) b m → w.cell? ⟨gw, off + (1 + 2 * (j : Int)).toNat, none⟩ = some (.int .u32 (wd L (1 + 2 * j))) ∧ w.cell? ⟨gw, off + (2 + 2 * (j : Int)).toNat, none⟩ = some (.int .u32 (wd L (2 + 2 * j)))) := hid (fun w hw => by
            rw [show (1 + 2 * (j : Int)).toNat = 1 + 2 * j by omega, show (2 + 2 * (j : Int)).toNat = 2 + 2 * j by omega]
            exact ⟨HA.out w _ _ _ _ hw _ (by omega), HA.out w _ _ _ _ hw _ (by omega)⟩)
          have i0 : 0 ≤ 1 + 2 * (j : Int) := by omega
          have i1 : 1 + 2 * (j : Int) < (n : Int) := by omega
          have i2 : 0 ≤ 2 + 2 * (j : Int) := by omega
          have i3 : 2 + 2 * (j : Int) < (n : Int) := by omega
          have iw : IntKind.wrap .i64 (2 * (j : Int)) = 2 * (j : Int) := wr64 _ (by omega) (by omega)
          have iw1 : IntKind.wrap .i64 (1 + 2 * (j : Int)) = 1 + 2 * (j : Int) := wr64 _ (by omega) (by omega)
          have iw2 : IntKind.wrap .i64 (2 + 2 * (j : Int)) = 2 + 2 * (j : Int) := wr64 _ (by omega) (by omega)
          have HSn := hid (fun v (w : World) (hw : RNL W w r g v ((List.range j).map (ldE L)) b m) => HS.out w hw.rn.mem)
          have HLS : Hid (ldS m.ns L j = (dok (wd L (1 + 2 * j)) (wd L (2 + 2 * j)) && decide ((dec (wd L (1 + 2 * j)) (wd L (2 + 2 * j))).o < (m.ns : Int)))) := hid rfl
          have HLE : Hid ((List.range j).map (ldE L) ++ [dec (wd L (1 + 2 * j)) (wd L (2 + 2 * j))] = (List.range (j + 1)).map (ldE L)) := hid (ldE_snoc L j)
          have HJ1000 : Hid (((List.range j).map (ldE L)).length + 1 ≤ 1000) := hid (by rw [List.length_map, List.length_range]; omega)
          obtain ⟨E2, hE2⟩ : ∃ E2, E2 = (List.range (j + 1)).map (ldE L) := ⟨_, rfl⟩
          rw [← hE2] at HLE
          have HE2 := hid hE2
          have j64 : (j : Int) ≤ 64 := by omega
          have HN0 : Hid (ldS m.ns L j = false → ldok m.ns L = false) := hid (fun h => ldok_not HJ.out h)
          have HQ3 := hid HQ.out.2.2
          clear hn5 hlt hj HQ
          generalize hE1 : (List.range j).map (ldE L) = EE at *
          generalize hw1 : wd L (1 + 2 * j) = a at *
          generalize hw2 : wd L (2 + 2 * j) = a2 at *
          clear hE1 hw1 hw2 hE2
          simp only [twoV, two, En.v] at HD
          go_upto_region 7 with (go_at_call 63; refine (HSn.out _ _ HL.out).mono ?_; rintro e w1 ⟨rfl, hw1⟩; subst w1)
          have L0 := hid (HL.out.on (Below.refl _ _).drew)
          clear HL
          by_cases hd : dok a a2 = true
          · have hdE : decE a a2 = 0 := by unfold decE; rw [if_pos hd]
            rw [hdE] at HD
            rw [hd, Bool.true_and] at HLS
            clear hd hdE
            generalize dec a a2 = X at *
            by_cases ho : X.o < (m.ns : Int)
            · rw [decide_eq_true ho] at HLS
              refine wp_region_held_drew (S := fun w => RNL W w r g v EE b m) (by kernel_rfl) L0.out (fun hHeld => ?_)
              generalize World.drew _ = w0 at *
              refine tk 0 (some 41) (.slice (some ⟨gw, off, none⟩) n c) ?_
              simp only [Act.put, tqA, tqZ, tqS]
              refine tk 1 (some 42) (.int .i64 (j : Int)) ?_
              simp only [Act.put, tqA, tqZ, tqS]
              refine tk 2 (some 43) (.int .i64 (2 * (j : Int))) ?_
              simp only [Act.put, tqA, tqZ, tqS]
              refine tk 3 (some 44) (.int .i64 (1 + 2 * (j : Int))) ?_
              simp only [Act.put, tqA, tqZ, tqS]
              refine tk 4 (some 45) (.pointer (some ⟨gw, off + (1 + 2 * (j : Int)).toNat, none⟩)) ?_
              simp only [Act.put, tqA, tqZ, tqS]
              refine tk 5 (some 46) (.int .u32 a) ?_ (hy := Or.inl ⟨by rfl, by intro w hSw; have hc := (HAj.out w hSw).1; go_simp⟩)
              simp only [Act.put, tqA, tqZ, tqS]
              refine tk 6 (some 47) (.slice (some ⟨gw, off, none⟩) n c) ?_
              simp only [Act.put, tqA, tqZ, tqS]
              refine tk 7 (some 48) (.int .i64 (j : Int)) ?_
              simp only [Act.put, tqA, tqZ, tqS]
              refine tk 8 (some 49) (.int .i64 (2 * (j : Int))) ?_
              simp only [Act.put, tqA, tqZ, tqS]
              refine tk 9 (some 50) (.int .i64 (2 + 2 * (j : Int))) ?_
              simp only [Act.put, tqA, tqZ, tqS]
              refine tk 10 (some 51) (.pointer (some ⟨gw, off + (2 + 2 * (j : Int)).toNat, none⟩)) ?_
              simp only [Act.put, tqA, tqZ, tqS]
              refine tk 11 (some 52) (.int .u32 a2) ?_ (hy := Or.inl ⟨by rfl, by intro w hSw; have hc := (HAj.out w hSw).2; go_simp⟩)
              simp only [Act.put, tqA, tqZ, tqS]
              refine tk 12 (some 53) (.agg #[.int .u32 a, .int .u32 a2]) ?_
              simp only [Act.put, tqA, tqZ, tqS]
              refine wpAnyH_ready (rs := [13, 17]) (by kernel_rfl) (by simp) (AllReadyH.cons (o := ⟨some 54, .call { callee := .value (.func 123), args := #[.tmp 53], argTypes := #[158] }, 175, "ref.go:216", #[⟨12, .data⟩], none⟩) rfl (fun KQ hK => ?_) (AllReadyH.cons (o := ⟨some 8, .alloc 121, 0, "ref.go:216", #[], none⟩) rfl (fun KQ hK => ?_) AllReadyH.nil))
              · go_simp
                refine (HD.out _).mono ?_
                rintro e w1 ⟨rfl, hb⟩
                have L1 := hid (L0.out.on hb)
                clear hb L0
                go_wp2_with fail
                refine hK.out _ _ L1.out (fun hHeld => ?_)
                clear hK KQ
                try simp only [Act.put, tqA, tqZ, tqS]
                refine tk 14 (some 40) (.tuple #[.agg X.cs.toArray, .int .i64 0]) ?_
                simp only [Act.put, tqA, tqZ, tqS]
                refine tk 15 (some 55) (.agg X.cs.toArray) ?_
                simp only [Act.put, tqA, tqZ, tqS]
                refine tk 16 (some 56) (.int .i64 0) ?_
                simp only [Act.put, tqA, tqZ, tqS]
                refine wpAnyH_ready (rs := [17]) (by kernel_rfl) (by simp) (AllReadyH.cons (o := ⟨some 8, .alloc 121, 0, "ref.go:216", #[], none⟩) rfl (fun KQ hK => ?_) AllReadyH.nil)
                go_simp
                have X2 : Hid (RNX W (w1.alloc (.cells #[.int .i64 0, .int .i64 0, .int .i64 0, .int .i64 0, .bool false] 121)) r g v EE b m w1.heap.size En.zero) := hid (L1.out.box En.zero)
                have HW := hid L1.out.bl.size
                clear L1
                generalize World.alloc _ _ = w2 at *
                generalize w1.heap.size = g8 at *
                refine hK.out _ _ X2.out.l (fun hHeld => ?_)
                clear hK KQ
                try simp only [Act.put, tqA, tqZ, tqS]
                refine wpAnyH_ready (rs := [18]) (by kernel_rfl) (by simp) (AllReadyH.cons (o := ⟨none, .store 121 (.tmp 8) (.tmp 55), 0, "ref.go:216", #[⟨17, .data⟩, ⟨15, .data⟩, ⟨13, .chain⟩, ⟨0, .phase⟩, ⟨1, .phase⟩, ⟨2, .phase⟩, ⟨3, .phase⟩, ⟨4, .phase⟩, ⟨5, .phase⟩, ⟨6, .phase⟩, ⟨7, .phase⟩, ⟨8, .phase⟩, ⟨9, .phase⟩, ⟨10, .phase⟩, ⟨11, .phase⟩, ⟨12, .phase⟩, ⟨13, .phase⟩, ⟨14, .phase⟩, ⟨15, .phase⟩, { on := 16, ground := .textOnly Departure.lateStores }, ⟨17, .phase⟩], none⟩) rfl (fun KQ hK => ?_) AllReadyH.nil)
                rw [if_pos (by rfl)]
                refine wp_store_st 121 _ _ rfl g8 X.cs rfl rfl X2.out.c sizeR rfl rfl ?_
                intro w3 hc hb hs
                have X3 := hid (X2.out.put HW.out hc hb)
                clear hc hb hs X2
                refine hK.out _ _ X3.out.l (fun hHeld => ?_)
                clear hK KQ
                try simp only [Act.put]
                refine wpAnyH_ready (rs := [19]) (by kernel_rfl) (by simp) (AllReadyH.cons (o := ⟨some 9, .assign (.tmp 56), 3, "ref.go:216", #[⟨16, .data⟩, ⟨18, .chain⟩, ⟨0, .phase⟩, ⟨1, .phase⟩, ⟨2, .phase⟩, ⟨3, .phase⟩, ⟨4, .phase⟩, ⟨5, .phase⟩, ⟨6, .phase⟩, ⟨7, .phase⟩, ⟨8, .phase⟩, ⟨9, .phase⟩, ⟨10, .phase⟩, ⟨11, .phase⟩, ⟨12, .phase⟩, ⟨13, .phase⟩, ⟨14, .phase⟩, ⟨15, .phase⟩, ⟨16, .phase⟩, ⟨17, .phase⟩, ⟨18, .phase⟩], none⟩) rfl (fun KQ hK => ?_) AllReadyH.nil)
                go_simp
                refine hK.out _ _ X3.out.l (fun hHeld => ?_)
                clear hK KQ
                try simp only [Act.put, tqA, tqZ, tqS]
                refine wpAnyH_done (by kernel_rfl) ?_ _
                have X4 := hid (X3.out.on (Below.refl _ _).drew)
                clear X3
                go_upto_region 8 with fail
                refine wp_region_held_drew (S := fun w => RNX W w r g v EE b m g8 X) (by kernel_rfl) X4.out (fun hHeld => ?_)
                generalize World.drew _ = w4 at *
                refine tk 0 (some 57) (.int .i64 0) ?_
                simp only [Act.put, tqA, tqZ, tqS]
                refine tk 1 (some 58) (.bool false) ?_
                simp only [Act.put, tqA, tqZ, tqS]
                refine tk 2 (some 59) (.bool false) ?_
                simp only [Act.put, tqA, tqZ, tqS]
                refine tk 3 (some 60) (.pointer (some ⟨g8, 1, none⟩)) ?_
                simp only [Act.put, tqA, tqZ, tqS]
                refine tk 4 (some 61) (.int .i64 X.o) ?_ (hy := Or.inl ⟨by rfl, by intro w hSw; have hc : w.cell? ⟨g8, 1, none⟩ = some (.int .i64 X.o) := hSw.c.cell 1; go_simp⟩)
                simp only [Act.put, tqA, tqZ, tqS]
                refine tk 5 (some 62) (.pointer (some ⟨r.g, 0, none⟩)) ?_
                simp only [Act.put, tqA, tqZ, tqS]
                refine wpAnyH_ready (rs := [6]) (by kernel_rfl) (by simp) (AllReadyH.cons (o := ⟨some 63, .call { callee := .value (.func 63), args := #[.tmp 62], argTypes := #[59] }, 3, "ref.go:217", #[⟨5, .data⟩, ⟨2, .chain⟩, ⟨2, .guard⟩], some (2, false)⟩) rfl (fun KQ hK => ?_) AllReadyH.nil)
                go_simp
                refine (HSn.out _ _ X4.out.l).mono ?_
                rintro e w5 ⟨rfl, hw5⟩
                subst w5
                go_wp2_with fail
                refine hK.out _ _ X4.out (fun hHeld => ?_)
                clear hK KQ
                try simp only [Act.put, tqA, tqZ, tqS]
                refine tk 7 (some 64) (.bool false) ?_
                simp only [Act.put, tqA, tqZ, tqS]
                refine tk 8 (some 65) (.bool false) ?_
                simp only [Act.put, tqA, tqZ, tqS]
                refine wpAnyH_done (by kernel_rfl) ?_ _
                have X5 := hid (X4.out.on (Below.refl _ _).drew)
                clear X4
                go_upto_region 10 with fail
                obtain ⟨ao8, cc8, rfl⟩ := own_form5 X5.out.l.rn.own
                refine wp_region_held_drew (S := fun w => Cel w g8 121 X.cs) (by kernel_rfl) X5.out.c (fun hHeld => ?_)
                generalize World.drew _ = w5 at *
                refine tk 0 (some 66) (.pointer (some ⟨g, 0, none⟩)) ?_
                simp only [Act.put, tqA, tqZ, tqS]
                refine tk 1 (some 67) (.pointer (some ⟨g, 0, none⟩)) ?_
                simp only [Act.put, tqA, tqZ, tqS]
                refine tk 2 (some 68) (.pointer (some ⟨g, 0, none⟩)) ?_
                simp only [Act.put, tqA, tqZ, tqS]
                refine tk 3 (some 69) (.pointer (some ⟨g, 1, none⟩)) ?_
                simp only [Act.put, tqA, tqZ, tqS]
                refine tk 5 (some 71) (.agg #[.int .i64 X.t, .int .i64 X.o, .int .i64 X.r, .int .i64 X.s, .bool X.e]) ?_ (hy := yieldsIf_load_mid (by rfl) _ _ rfl _ _ rfl _ _ (fun w hSw => hSw.range) underR rfl (by rw [sizeR]; rfl))
                simp only [Act.put, tqA, tqZ, tqS]
                refine wpAnyH_ready (rs := [4, 6]) (by kernel_rfl) (by simp) (AllReadyH.cons (o := ⟨some 70, .load 60 (.tmp 69), 60, "ref.go:220", #[⟨3, .data⟩], none⟩) rfl (fun KQ hK => ?_) (AllReadyH.cons (o := ⟨some 72, .buildSlice 60 1 #[(0, .tmp 71)], 60, "ref.go:220", #[⟨5, .data⟩], none⟩) rfl (fun KQ hK => ?_) AllReadyH.nil))
                · have y0 := X5.out.l.rn.cel.cell 1
                  simp only [List.getElem?_cons_zero, List.getElem?_cons_succ] at y0
                  go_simp
                  clear y0
                  refine hK.out _ _ X5.out.c (fun hHeld => ?_)
                  clear hK KQ
                  try simp only [Act.put, tqA, tqZ, tqS]
                  refine wpAnyH_ready (rs := [6]) (by kernel_rfl) (by simp) (AllReadyH.cons (o := ⟨some 72, .buildSlice 60 1 #[(0, .tmp 71)], 60, "ref.go:220", #[⟨5, .data⟩], none⟩) rfl (fun KQ hK => ?_) AllReadyH.nil)
                  go_simp
                  have X6 : Hid (RNX W (w5.alloc (.cells #[.int .i64 X.t, .int .i64 X.o, .int .i64 X.r, .int .i64 X.s, .bool X.e] 121)) r g (.slice ao8 EE.length cc8) EE b m g8 X) := hid (X5.out.on (below_one w5 (.cells X.cs.toArray 121)))
                  have HSrc : Hid (Cel (w5.alloc (.cells #[.int .i64 X.t, .int .i64 X.o, .int .i64 X.r, .int .i64 X.s, .bool X.e] 121)) w5.heap.size 121 X.cs) := hid (Cel.new w5 121 X.cs)
                  clear X5
                  generalize World.alloc _ _ = w6 at *
                  generalize w5.heap.size = g9 at *
                  refine hK.out _ _ X6.out.c (fun hHeld => ?_)
                  clear hK KQ
                  try simp only [Act.put, tqA, tqZ, tqS]
                  refine wpAnyH_ready (rs := [7]) (by kernel_rfl) (by simp) (AllReadyH.cons (o := ⟨some 73, .call { callee := .builtin .append, args := #[.tmp 70, .tmp 72], argTypes := #[60, 60] }, 60, "ref.go:220", #[⟨4, .data⟩, ⟨6, .data⟩], none⟩) rfl (fun KQ hK => ?_) AllReadyH.nil)
                  rw [if_pos (by rfl)]
                  refine wp_append_e (B := W.heap.size) _ _ rfl (.slice ao8 EE.length cc8) EE rfl X6.out.l.rn.own X6.out.l.bl.size ⟨g9, 0, none⟩ 1 1 [X] rfl rfl (by simpa [ecs] using HSrc.out.src) HJ1000.out ?_
                  intro v7 w7 h7 hgr
                  rw [HLE.out] at h7
                  obtain ⟨ao9, cc9, rfl⟩ := own_form5 h7
                  obtain ⟨hq8, y1, y2⟩ := X6.out.l.rn.snoc h7 hgr
                  have HQ8 := hid (RNL.mk hq8 (X6.out.l.rn.snocB hgr X6.out.l.bl))
                  have HC7 := hid (grown_cel X6.out.c hgr X6.out.ap)
                  have HGK : Hid (g8 ≠ g) := hid (fun e => by have h1 := X6.out.l.rn.cel; rw [← e] at h1; exact absurd (h1.ty X6.out.c) (by decide))
                  clear hq8 hgr h7 X6 HSrc
                  refine hK.out _ _ HC7.out (fun hHeld => ?_)
                  clear hK KQ
                  try simp only [Act.put, tqA, tqZ, tqS]
                  refine tk 8 (some 74) (.pointer (some ⟨g, 0, none⟩)) ?_
                  simp only [Act.put, tqA, tqZ, tqS]
                  refine tk 9 (some 75) (.pointer (some ⟨g, 1, none⟩)) ?_
                  simp only [Act.put, tqA, tqZ, tqS]
                  refine wpAnyH_ready (rs := [10]) (by kernel_rfl) (by simp) (AllReadyH.cons (o := ⟨none, .store 60 (.tmp 75) (.tmp 73), 0, "ref.go:220", #[⟨9, .data⟩, ⟨7, .data⟩, ⟨7, .chain⟩, ⟨0, .phase⟩, ⟨1, .phase⟩, ⟨2, .phase⟩, ⟨3, .phase⟩, ⟨4, .phase⟩, ⟨5, .phase⟩, ⟨6, .phase⟩, ⟨7, .phase⟩], none⟩) rfl (fun KQ hK => ?_) AllReadyH.nil)
                  go_simp
                  clear y1 y2
                  refine hK.out _ _ (HC7.out.but (ButL.setCell w7 g 1 _ (by simp : g ∈ [g])) (by rw [List.mem_singleton]; exact HGK.out)) (fun hHeld => ?_)
                  clear hK KQ
                  try simp only [Act.put]
                  refine wpAnyH_done (by kernel_rfl) ?_ _
                  go_wp2_with fail
                  go_roundw
                  case measure => have := HJ.out; simp [intOf] <;> omega
                  case rel => exact ⟨j + 1, _, HJ.out, by simp, hid ⟨by rw [← HE2.out]; exact HQ8.out.rn, HQ8.out.bl, fun k hk => by
                    by_cases e : k = j
                    · rw [e]; exact HLS.out
                    · exact HQ3.out k (by omega)⟩⟩
                · go_simp
                  have X6 : Hid (RNX W (w5.alloc (.cells #[.int .i64 X.t, .int .i64 X.o, .int .i64 X.r, .int .i64 X.s, .bool X.e] 121)) r g (.slice ao8 EE.length cc8) EE b m g8 X) := hid (X5.out.on (below_one w5 (.cells X.cs.toArray 121)))
                  have HSrc : Hid (Cel (w5.alloc (.cells #[.int .i64 X.t, .int .i64 X.o, .int .i64 X.r, .int .i64 X.s, .bool X.e] 121)) w5.heap.size 121 X.cs) := hid (Cel.new w5 121 X.cs)
                  clear X5
                  generalize World.alloc _ _ = w6 at *
                  generalize w5.heap.size = g9 at *
                  refine hK.out _ _ X6.out.c (fun hHeld => ?_)
                  clear hK KQ
                  try simp only [Act.put, tqA, tqZ, tqS]
                  refine wpAnyH_ready (rs := [4]) (by kernel_rfl) (by simp) (AllReadyH.cons (o := ⟨some 70, .load 60 (.tmp 69), 60, "ref.go:220", #[⟨3, .data⟩], none⟩) rfl (fun KQ hK => ?_) AllReadyH.nil)
                  have y0 := X6.out.l.rn.cel.cell 1
                  simp only [List.getElem?_cons_zero, List.getElem?_cons_succ] at y0
                  go_simp
                  clear y0
                  refine hK.out _ _ X6.out.c (fun hHeld => ?_)
                  clear hK KQ
                  try simp only [Act.put, tqA, tqZ, tqS]
                  refine wpAnyH_ready (rs := [7]) (by kernel_rfl) (by simp) (AllReadyH.cons (o := ⟨some 73, .call { callee := .builtin .append, args := #[.tmp 70, .tmp 72], argTypes := #[60, 60] }, 60, "ref.go:220", #[⟨4, .data⟩, ⟨6, .data⟩], none⟩) rfl (fun KQ hK => ?_) AllReadyH.nil)
                  rw [if_pos (by rfl)]
                  refine wp_append_e (B := W.heap.size) _ _ rfl (.slice ao8 EE.length cc8) EE rfl X6.out.l.rn.own X6.out.l.bl.size ⟨g9, 0, none⟩ 1 1 [X] rfl rfl (by simpa [ecs] using HSrc.out.src) HJ1000.out ?_
                  intro v7 w7 h7 hgr
                  rw [HLE.out] at h7
                  obtain ⟨ao9, cc9, rfl⟩ := own_form5 h7
                  obtain ⟨hq8, y1, y2⟩ := X6.out.l.rn.snoc h7 hgr
                  have HQ8 := hid (RNL.mk hq8 (X6.out.l.rn.snocB hgr X6.out.l.bl))
                  have HC7 := hid (grown_cel X6.out.c hgr X6.out.ap)
                  have HGK : Hid (g8 ≠ g) := hid (fun e => by have h1 := X6.out.l.rn.cel; rw [← e] at h1; exact absurd (h1.ty X6.out.c) (by decide))
                  clear hq8 hgr h7 X6 HSrc
                  refine hK.out _ _ HC7.out (fun hHeld => ?_)
                  clear hK KQ
                  try simp only [Act.put, tqA, tqZ, tqS]
                  refine tk 8 (some 74) (.pointer (some ⟨g, 0, none⟩)) ?_
                  simp only [Act.put, tqA, tqZ, tqS]
                  refine tk 9 (some 75) (.pointer (some ⟨g, 1, none⟩)) ?_
                  simp only [Act.put, tqA, tqZ, tqS]
                  refine wpAnyH_ready (rs := [10]) (by kernel_rfl) (by simp) (AllReadyH.cons (o := ⟨none, .store 60 (.tmp 75) (.tmp 73), 0, "ref.go:220", #[⟨9, .data⟩, ⟨7, .data⟩, ⟨7, .chain⟩, ⟨0, .phase⟩, ⟨1, .phase⟩, ⟨2, .phase⟩, ⟨3, .phase⟩, ⟨4, .phase⟩, ⟨5, .phase⟩, ⟨6, .phase⟩, ⟨7, .phase⟩], none⟩) rfl (fun KQ hK => ?_) AllReadyH.nil)
                  go_simp
                  clear y1 y2
                  refine hK.out _ _ (HC7.out.but (ButL.setCell w7 g 1 _ (by simp : g ∈ [g])) (by rw [List.mem_singleton]; exact HGK.out)) (fun hHeld => ?_)
                  clear hK KQ
                  try simp only [Act.put]
                  refine wpAnyH_done (by kernel_rfl) ?_ _
                  go_wp2_with fail
                  go_roundw
                  case measure => have := HJ.out; simp [intOf] <;> omega
                  case rel => exact ⟨j + 1, _, HJ.out, by simp, hid ⟨by rw [← HE2.out]; exact HQ8.out.rn, HQ8.out.bl, fun k hk => by
                    by_cases e : k = j
                    · rw [e]; exact HLS.out
                    · exact HQ3.out k (by omega)⟩⟩
              · go_simp
                have X1 : Hid (RNX W (w0.alloc (.cells #[.int .i64 0, .int .i64 0, .int .i64 0, .int .i64 0, .bool false] 121)) r g v EE b m w0.heap.size En.zero) := hid (L0.out.box En.zero)
                have HW := hid L0.out.bl.size
                clear L0
                generalize World.alloc _ _ = w1 at *
                generalize w0.heap.size = g8 at *
                refine hK.out _ _ X1.out.l (fun hHeld => ?_)
                clear hK KQ
                try simp only [Act.put, tqA, tqZ, tqS]
                refine wpAnyH_ready (rs := [13]) (by kernel_rfl) (by simp) (AllReadyH.cons (o := ⟨some 54, .call { callee := .value (.func 123), args := #[.tmp 53], argTypes := #[158] }, 175, "ref.go:216", #[⟨12, .data⟩], none⟩) rfl (fun KQ hK => ?_) AllReadyH.nil)
                go_simp
                refine (HD.out _).mono ?_
                rintro e w2 ⟨rfl, hb⟩
                have X2 := hid (X1.out.on hb)
                clear hb X1
                go_wp2_with fail
                refine hK.out _ _ X2.out.l (fun hHeld => ?_)
                clear hK KQ
                try simp only [Act.put, tqA, tqZ, tqS]
                refine tk 14 (some 40) (.tuple #[.agg X.cs.toArray, .int .i64 0]) ?_
                simp only [Act.put, tqA, tqZ, tqS]
                refine tk 15 (some 55) (.agg X.cs.toArray) ?_
                simp only [Act.put, tqA, tqZ, tqS]
                refine tk 16 (some 56) (.int .i64 0) ?_
                simp only [Act.put, tqA, tqZ, tqS]
                refine wpAnyH_ready (rs := [18]) (by kernel_rfl) (by simp) (AllReadyH.cons (o := ⟨none, .store 121 (.tmp 8) (.tmp 55), 0, "ref.go:216", #[⟨17, .data⟩, ⟨15, .data⟩, ⟨13, .chain⟩, ⟨0, .phase⟩, ⟨1, .phase⟩, ⟨2, .phase⟩, ⟨3, .phase⟩, ⟨4, .phase⟩, ⟨5, .phase⟩, ⟨6, .phase⟩, ⟨7, .phase⟩, ⟨8, .phase⟩, ⟨9, .phase⟩, ⟨10, .phase⟩, ⟨11, .phase⟩, ⟨12, .phase⟩, ⟨13, .phase⟩, ⟨14, .phase⟩, ⟨15, .phase⟩, { on := 16, ground := .textOnly Departure.lateStores }, ⟨17, .phase⟩], none⟩) rfl (fun KQ hK => ?_) AllReadyH.nil)
                rw [if_pos (by rfl)]
                refine wp_store_st 121 _ _ rfl g8 X.cs rfl rfl X2.out.c sizeR rfl rfl ?_
                intro w3 hc hb hs
                have X3 := hid (X2.out.put HW.out hc hb)
                clear hc hb hs X2
                refine hK.out _ _ X3.out.l (fun hHeld => ?_)
                clear hK KQ
                try simp only [Act.put]
                refine wpAnyH_ready (rs := [19]) (by kernel_rfl) (by simp) (AllReadyH.cons (o := ⟨some 9, .assign (.tmp 56), 3, "ref.go:216", #[⟨16, .data⟩, ⟨18, .chain⟩, ⟨0, .phase⟩, ⟨1, .phase⟩, ⟨2, .phase⟩, ⟨3, .phase⟩, ⟨4, .phase⟩, ⟨5, .phase⟩, ⟨6, .phase⟩, ⟨7, .phase⟩, ⟨8, .phase⟩, ⟨9, .phase⟩, ⟨10, .phase⟩, ⟨11, .phase⟩, ⟨12, .phase⟩, ⟨13, .phase⟩, ⟨14, .phase⟩, ⟨15, .phase⟩, ⟨16, .phase⟩, ⟨17, .phase⟩, ⟨18, .phase⟩], none⟩) rfl (fun KQ hK => ?_) AllReadyH.nil)
                go_simp
                refine hK.out _ _ X3.out.l (fun hHeld => ?_)
                clear hK KQ
                try simp only [Act.put, tqA, tqZ, tqS]
                refine wpAnyH_done (by kernel_rfl) ?_ _
                have X4 := hid (X3.out.on (Below.refl _ _).drew)
                clear X3
                go_upto_region 8 with fail
                refine wp_region_held_drew (S := fun w => RNX W w r g v EE b m g8 X) (by kernel_rfl) X4.out (fun hHeld => ?_)
                generalize World.drew _ = w4 at *
                refine tk 0 (some 57) (.int .i64 0) ?_
                simp only [Act.put, tqA, tqZ, tqS]
                refine tk 1 (some 58) (.bool false) ?_
                simp only [Act.put, tqA, tqZ, tqS]
                refine tk 2 (some 59) (.bool false) ?_
                simp only [Act.put, tqA, tqZ, tqS]
                refine tk 3 (some 60) (.pointer (some ⟨g8, 1, none⟩)) ?_
                simp only [Act.put, tqA, tqZ, tqS]
                refine tk 4 (some 61) (.int .i64 X.o) ?_ (hy := Or.inl ⟨by rfl, by intro w hSw; have hc : w.cell? ⟨g8, 1, none⟩ = some (.int .i64 X.o) := hSw.c.cell 1; go_simp⟩)
                simp only [Act.put, tqA, tqZ, tqS]
                refine tk 5 (some 62) (.pointer (some ⟨r.g, 0, none⟩)) ?_
                simp only [Act.put, tqA, tqZ, tqS]
                refine wpAnyH_ready (rs := [6]) (by kernel_rfl) (by simp) (AllReadyH.cons (o := ⟨some 63, .call { callee := .value (.func 63), args := #[.tmp 62], argTypes := #[59] }, 3, "ref.go:217", #[⟨5, .data⟩, ⟨2, .chain⟩, ⟨2, .guard⟩], some (2, false)⟩) rfl (fun KQ hK => ?_) AllReadyH.nil)
                go_simp
                refine (HSn.out _ _ X4.out.l).mono ?_
                rintro e w5 ⟨rfl, hw5⟩
                subst w5
                go_wp2_with fail
                refine hK.out _ _ X4.out (fun hHeld => ?_)
                clear hK KQ
                try simp only [Act.put, tqA, tqZ, tqS]
                refine tk 7 (some 64) (.bool false) ?_
                simp only [Act.put, tqA, tqZ, tqS]
                refine tk 8 (some 65) (.bool false) ?_
                simp only [Act.put, tqA, tqZ, tqS]
                refine wpAnyH_done (by kernel_rfl) ?_ _
                have X5 := hid (X4.out.on (Below.refl _ _).drew)
                clear X4
                go_upto_region 10 with fail
                obtain ⟨ao8, cc8, rfl⟩ := own_form5 X5.out.l.rn.own
                refine wp_region_held_drew (S := fun w => Cel w g8 121 X.cs) (by kernel_rfl) X5.out.c (fun hHeld => ?_)
                generalize World.drew _ = w5 at *
                refine tk 0 (some 66) (.pointer (some ⟨g, 0, none⟩)) ?_
                simp only [Act.put, tqA, tqZ, tqS]
                refine tk 1 (some 67) (.pointer (some ⟨g, 0, none⟩)) ?_
                simp only [Act.put, tqA, tqZ, tqS]
                refine tk 2 (some 68) (.pointer (some ⟨g, 0, none⟩)) ?_
                simp only [Act.put, tqA, tqZ, tqS]
                refine tk 3 (some 69) (.pointer (some ⟨g, 1, none⟩)) ?_
                simp only [Act.put, tqA, tqZ, tqS]
                refine tk 5 (some 71) (.agg #[.int .i64 X.t, .int .i64 X.o, .int .i64 X.r, .int .i64 X.s, .bool X.e]) ?_ (hy := yieldsIf_load_mid (by rfl) _ _ rfl _ _ rfl _ _ (fun w hSw => hSw.range) underR rfl (by rw [sizeR]; rfl))
                simp only [Act.put, tqA, tqZ, tqS]
                refine wpAnyH_ready (rs := [4, 6]) (by kernel_rfl) (by simp) (AllReadyH.cons (o := ⟨some 70, .load 60 (.tmp 69), 60, "ref.go:220", #[⟨3, .data⟩], none⟩) rfl (fun KQ hK => ?_) (AllReadyH.cons (o := ⟨some 72, .buildSlice 60 1 #[(0, .tmp 71)], 60, "ref.go:220", #[⟨5, .data⟩], none⟩) rfl (fun KQ hK => ?_) AllReadyH.nil))
                · have y0 := X5.out.l.rn.cel.cell 1
                  simp only [List.getElem?_cons_zero, List.getElem?_cons_succ] at y0
                  go_simp
                  clear y0
                  refine hK.out _ _ X5.out.c (fun hHeld => ?_)
                  clear hK KQ
                  try simp only [Act.put, tqA, tqZ, tqS]
                  refine wpAnyH_ready (rs := [6]) (by kernel_rfl) (by simp) (AllReadyH.cons (o := ⟨some 72, .buildSlice 60 1 #[(0, .tmp 71)], 60, "ref.go:220", #[⟨5, .data⟩], none⟩) rfl (fun KQ hK => ?_) AllReadyH.nil)
                  go_simp
                  have X6 : Hid (RNX W (w5.alloc (.cells #[.int .i64 X.t, .int .i64 X.o, .int .i64 X.r, .int .i64 X.s, .bool X.e] 121)) r g (.slice ao8 EE.length cc8) EE b m g8 X) := hid (X5.out.on (below_one w5 (.cells X.cs.toArray 121)))
                  have HSrc : Hid (Cel (w5.alloc (.cells #[.int .i64 X.t, .int .i64 X.o, .int .i64 X.r, .int .i64 X.s, .bool X.e] 121)) w5.heap.size 121 X.cs) := hid (Cel.new w5 121 X.cs)
                  clear X5
                  generalize World.alloc _ _ = w6 at *
                  generalize w5.heap.size = g9 at *
                  refine hK.out _ _ X6.out.c (fun hHeld => ?_)
                  clear hK KQ
                  try simp only [Act.put, tqA, tqZ, tqS]
                  refine wpAnyH_ready (rs := [7]) (by kernel_rfl) (by simp) (AllReadyH.cons (o := ⟨some 73, .call { callee := .builtin .append, args := #[.tmp 70, .tmp 72], argTypes := #[60, 60] }, 60, "ref.go:220", #[⟨4, .data⟩, ⟨6, .data⟩], none⟩) rfl (fun KQ hK => ?_) AllReadyH.nil)
                  rw [if_pos (by rfl)]
                  refine wp_append_e (B := W.heap.size) _ _ rfl (.slice ao8 EE.length cc8) EE rfl X6.out.l.rn.own X6.out.l.bl.size ⟨g9, 0, none⟩ 1 1 [X] rfl rfl (by simpa [ecs] using HSrc.out.src) HJ1000.out ?_
                  intro v7 w7 h7 hgr
                  rw [HLE.out] at h7
                  obtain ⟨ao9, cc9, rfl⟩ := own_form5 h7
                  obtain ⟨hq8, y1, y2⟩ := X6.out.l.rn.snoc h7 hgr
                  have HQ8 := hid (RNL.mk hq8 (X6.out.l.rn.snocB hgr X6.out.l.bl))
                  have HC7 := hid (grown_cel X6.out.c hgr X6.out.ap)
                  have HGK : Hid (g8 ≠ g) := hid (fun e => by have h1 := X6.out.l.rn.cel; rw [← e] at h1; exact absurd (h1.ty X6.out.c) (by decide))
                  clear hq8 hgr h7 X6 HSrc
                  refine hK.out _ _ HC7.out (fun hHeld => ?_)
                  clear hK KQ
                  try simp only [Act.put, tqA, tqZ, tqS]
                  refine tk 8 (some 74) (.pointer (some ⟨g, 0, none⟩)) ?_
                  simp only [Act.put, tqA, tqZ, tqS]
                  refine tk 9 (some 75) (.pointer (some ⟨g, 1, none⟩)) ?_
                  simp only [Act.put, tqA, tqZ, tqS]
                  refine wpAnyH_ready (rs := [10]) (by kernel_rfl) (by simp) (AllReadyH.cons (o := ⟨none, .store 60 (.tmp 75) (.tmp 73), 0, "ref.go:220", #[⟨9, .data⟩, ⟨7, .data⟩, ⟨7, .chain⟩, ⟨0, .phase⟩, ⟨1, .phase⟩, ⟨2, .phase⟩, ⟨3, .phase⟩, ⟨4, .phase⟩, ⟨5, .phase⟩, ⟨6, .phase⟩, ⟨7, .phase⟩], none⟩) rfl (fun KQ hK => ?_) AllReadyH.nil)
                  go_simp
                  clear y1 y2
                  refine hK.out _ _ (HC7.out.but (ButL.setCell w7 g 1 _ (by simp : g ∈ [g])) (by rw [List.mem_singleton]; exact HGK.out)) (fun hHeld => ?_)
                  clear hK KQ
                  try simp only [Act.put]
                  refine wpAnyH_done (by kernel_rfl) ?_ _
                  go_wp2_with fail
                  go_roundw
                  case measure => have := HJ.out; simp [intOf] <;> omega
                  case rel => exact ⟨j + 1, _, HJ.out, by simp, hid ⟨by rw [← HE2.out]; exact HQ8.out.rn, HQ8.out.bl, fun k hk => by
                    by_cases e : k = j
                    · rw [e]; exact HLS.out
                    · exact HQ3.out k (by omega)⟩⟩
                · go_simp
                  have X6 : Hid (RNX W (w5.alloc (.cells #[.int .i64 X.t, .int .i64 X.o, .int .i64 X.r, .int .i64 X.s, .bool X.e] 121)) r g (.slice ao8 EE.length cc8) EE b m g8 X) := hid (X5.out.on (below_one w5 (.cells X.cs.toArray 121)))
                  have HSrc : Hid (Cel (w5.alloc (.cells #[.int .i64 X.t, .int .i64 X.o, .int .i64 X.r, .int .i64 X.s, .bool X.e] 121)) w5.heap.size 121 X.cs) := hid (Cel.new w5 121 X.cs)
                  clear X5
                  generalize World.alloc _ _ = w6 at *
                  generalize w5.heap.size = g9 at *
                  refine hK.out _ _ X6.out.c (fun hHeld => ?_)
                  clear hK KQ
                  try simp only [Act.put, tqA, tqZ, tqS]
                  refine wpAnyH_ready (rs := [4]) (by kernel_rfl) (by simp) (AllReadyH.cons (o := ⟨some 70, .load 60 (.tmp 69), 60, "ref.go:220", #[⟨3, .data⟩], none⟩) rfl (fun KQ hK => ?_) AllReadyH.nil)
                  have y0 := X6.out.l.rn.cel.cell 1
                  simp only [List.getElem?_cons_zero, List.getElem?_cons_succ] at y0
                  go_simp
                  clear y0
                  refine hK.out _ _ X6.out.c (fun hHeld => ?_)
                  clear hK KQ
                  try simp only [Act.put, tqA, tqZ, tqS]
                  refine wpAnyH_ready (rs := [7]) (by kernel_rfl) (by simp) (AllReadyH.cons (o := ⟨some 73, .call { callee := .builtin .append, args := #[.tmp 70, .tmp 72], argTypes := #[60, 60] }, 60, "ref.go:220", #[⟨4, .data⟩, ⟨6, .data⟩], none⟩) rfl (fun KQ hK => ?_) AllReadyH.nil)
                  rw [if_pos (by rfl)]
                  refine wp_append_e (B := W.heap.size) _ _ rfl (.slice ao8 EE.length cc8) EE rfl X6.out.l.rn.own X6.out.l.bl.size ⟨g9, 0, none⟩ 1 1 [X] rfl rfl (by simpa [ecs] using HSrc.out.src) HJ1000.out ?_
                  intro v7 w7 h7 hgr
                  rw [HLE.out] at h7
                  obtain ⟨ao9, cc9, rfl⟩ := own_form5 h7
                  obtain ⟨hq8, y1, y2⟩ := X6.out.l.rn.snoc h7 hgr
                  have HQ8 := hid (RNL.mk hq8 (X6.out.l.rn.snocB hgr X6.out.l.bl))
                  have HC7 := hid (grown_cel X6.out.c hgr X6.out.ap)
                  have HGK : Hid (g8 ≠ g) := hid (fun e => by have h1 := X6.out.l.rn.cel; rw [← e] at h1; exact absurd (h1.ty X6.out.c) (by decide))
                  clear hq8 hgr h7 X6 HSrc
                  refine hK.out _ _ HC7.out (fun hHeld => ?_)
                  clear hK KQ
                  try simp only [Act.put, tqA, tqZ, tqS]
                  refine tk 8 (some 74) (.pointer (some ⟨g, 0, none⟩)) ?_
                  simp only [Act.put, tqA, tqZ, tqS]
                  refine tk 9 (some 75) (.pointer (some ⟨g, 1, none⟩)) ?_
                  simp only [Act.put, tqA, tqZ, tqS]
                  refine wpAnyH_ready (rs := [10]) (by kernel_rfl) (by simp) (AllReadyH.cons (o := ⟨none, .store 60 (.tmp 75) (.tmp 73), 0, "ref.go:220", #[⟨9, .data⟩, ⟨7, .data⟩, ⟨7, .chain⟩, ⟨0, .phase⟩, ⟨1, .phase⟩, ⟨2, .phase⟩, ⟨3, .phase⟩, ⟨4, .phase⟩, ⟨5, .phase⟩, ⟨6, .phase⟩, ⟨7, .phase⟩], none⟩) rfl (fun KQ hK => ?_) AllReadyH.nil)
                  go_simp
                  clear y1 y2
                  refine hK.out _ _ (HC7.out.but (ButL.setCell w7 g 1 _ (by simp : g ∈ [g])) (by rw [List.mem_singleton]; exact HGK.out)) (fun hHeld => ?_)
                  clear hK KQ
                  try simp only [Act.put]
                  refine wpAnyH_done (by kernel_rfl) ?_ _
                  go_wp2_with fail
                  go_roundw
                  case measure => have := HJ.out; simp [intOf] <;> omega
                  case rel => exact ⟨j + 1, _, HJ.out, by simp, hid ⟨by rw [← HE2.out]; exact HQ8.out.rn, HQ8.out.bl, fun k hk => by
                    by_cases e : k = j
                    · rw [e]; exact HLS.out
                    · exact HQ3.out k (by omega)⟩⟩
            · rw [decide_eq_false ho] at HLS
              have ho' : (m.ns : Int) ≤ X.o := by omega
              have HF := hid (HN0.out HLS.out)
              clear ho HN0 HLS
              refine wp_region_held_drew (S := fun w => RNL W w r g v EE b m) (by kernel_rfl) L0.out (fun hHeld => ?_)
              generalize World.drew _ = w0 at *
              refine tk 0 (some 41) (.slice (some ⟨gw, off, none⟩) n c) ?_
              simp only [Act.put, tqA, tqZ, tqS]
              refine tk 1 (some 42) (.int .i64 (j : Int)) ?_
              simp only [Act.put, tqA, tqZ, tqS]
              refine tk 2 (some 43) (.int .i64 (2 * (j : Int))) ?_
              simp only [Act.put, tqA, tqZ, tqS]
              refine tk 3 (some 44) (.int .i64 (1 + 2 * (j : Int))) ?_
              simp only [Act.put, tqA, tqZ, tqS]
              refine tk 4 (some 45) (.pointer (some ⟨gw, off + (1 + 2 * (j : Int)).toNat, none⟩)) ?_
              simp only [Act.put, tqA, tqZ, tqS]
              refine tk 5 (some 46) (.int .u32 a) ?_ (hy := Or.inl ⟨by rfl, by intro w hSw; have hc := (HAj.out w hSw).1; go_simp⟩)
              simp only [Act.put, tqA, tqZ, tqS]
              refine tk 6 (some 47) (.slice (some ⟨gw, off, none⟩) n c) ?_
              simp only [Act.put, tqA, tqZ, tqS]
              refine tk 7 (some 48) (.int .i64 (j : Int)) ?_
              simp only [Act.put, tqA, tqZ, tqS]
              refine tk 8 (some 49) (.int .i64 (2 * (j : Int))) ?_
              simp only [Act.put, tqA, tqZ, tqS]
              refine tk 9 (some 50) (.int .i64 (2 + 2 * (j : Int))) ?_
              simp only [Act.put, tqA, tqZ, tqS]
              refine tk 10 (some 51) (.pointer (some ⟨gw, off + (2 + 2 * (j : Int)).toNat, none⟩)) ?_
              simp only [Act.put, tqA, tqZ, tqS]
              refine tk 11 (some 52) (.int .u32 a2) ?_ (hy := Or.inl ⟨by rfl, by intro w hSw; have hc := (HAj.out w hSw).2; go_simp⟩)
              simp only [Act.put, tqA, tqZ, tqS]
              refine tk 12 (some 53) (.agg #[.int .u32 a, .int .u32 a2]) ?_
              simp only [Act.put, tqA, tqZ, tqS]
              refine wpAnyH_ready (rs := [13, 17]) (by kernel_rfl) (by simp) (AllReadyH.cons (o := ⟨some 54, .call { callee := .value (.func 123), args := #[.tmp 53], argTypes := #[158] }, 175, "ref.go:216", #[⟨12, .data⟩], none⟩) rfl (fun KQ hK => ?_) (AllReadyH.cons (o := ⟨some 8, .alloc 121, 0, "ref.go:216", #[], none⟩) rfl (fun KQ hK => ?_) AllReadyH.nil))
              · go_simp
                refine (HD.out _).mono ?_
                rintro e w1 ⟨rfl, hb⟩
                have L1 := hid (L0.out.on hb)
                clear hb L0
                go_wp2_with fail
                refine hK.out _ _ L1.out (fun hHeld => ?_)
                clear hK KQ
                try simp only [Act.put, tqA, tqZ, tqS]
                refine tk 14 (some 40) (.tuple #[.agg X.cs.toArray, .int .i64 0]) ?_
                simp only [Act.put, tqA, tqZ, tqS]
                refine tk 15 (some 55) (.agg X.cs.toArray) ?_
                simp only [Act.put, tqA, tqZ, tqS]
                refine tk 16 (some 56) (.int .i64 0) ?_
                simp only [Act.put, tqA, tqZ, tqS]
                refine wpAnyH_ready (rs := [17]) (by kernel_rfl) (by simp) (AllReadyH.cons (o := ⟨some 8, .alloc 121, 0, "ref.go:216", #[], none⟩) rfl (fun KQ hK => ?_) AllReadyH.nil)
                go_simp
                have X2 : Hid (RNX W (w1.alloc (.cells #[.int .i64 0, .int .i64 0, .int .i64 0, .int .i64 0, .bool false] 121)) r g v EE b m w1.heap.size En.zero) := hid (L1.out.box En.zero)
                have HW := hid L1.out.bl.size
                clear L1
                generalize World.alloc _ _ = w2 at *
                generalize w1.heap.size = g8 at *
                refine hK.out _ _ X2.out.l (fun hHeld => ?_)
                clear hK KQ
                try simp only [Act.put, tqA, tqZ, tqS]
                refine wpAnyH_ready (rs := [18]) (by kernel_rfl) (by simp) (AllReadyH.cons (o := ⟨none, .store 121 (.tmp 8) (.tmp 55), 0, "ref.go:216", #[⟨17, .data⟩, ⟨15, .data⟩, ⟨13, .chain⟩, ⟨0, .phase⟩, ⟨1, .phase⟩, ⟨2, .phase⟩, ⟨3, .phase⟩, ⟨4, .phase⟩, ⟨5, .phase⟩, ⟨6, .phase⟩, ⟨7, .phase⟩, ⟨8, .phase⟩, ⟨9, .phase⟩, ⟨10, .phase⟩, ⟨11, .phase⟩, ⟨12, .phase⟩, ⟨13, .phase⟩, ⟨14, .phase⟩, ⟨15, .phase⟩, { on := 16, ground := .textOnly Departure.lateStores }, ⟨17, .phase⟩], none⟩) rfl (fun KQ hK => ?_) AllReadyH.nil)
                rw [if_pos (by rfl)]
                refine wp_store_st 121 _ _ rfl g8 X.cs rfl rfl X2.out.c sizeR rfl rfl ?_
                intro w3 hc hb hs
                have X3 := hid (X2.out.put HW.out hc hb)
                clear hc hb hs X2
                refine hK.out _ _ X3.out.l (fun hHeld => ?_)
                clear hK KQ
                try simp only [Act.put]
                refine wpAnyH_ready (rs := [19]) (by kernel_rfl) (by simp) (AllReadyH.cons (o := ⟨some 9, .assign (.tmp 56), 3, "ref.go:216", #[⟨16, .data⟩, ⟨18, .chain⟩, ⟨0, .phase⟩, ⟨1, .phase⟩, ⟨2, .phase⟩, ⟨3, .phase⟩, ⟨4, .phase⟩, ⟨5, .phase⟩, ⟨6, .phase⟩, ⟨7, .phase⟩, ⟨8, .phase⟩, ⟨9, .phase⟩, ⟨10, .phase⟩, ⟨11, .phase⟩, ⟨12, .phase⟩, ⟨13, .phase⟩, ⟨14, .phase⟩, ⟨15, .phase⟩, ⟨16, .phase⟩, ⟨17, .phase⟩, ⟨18, .phase⟩], none⟩) rfl (fun KQ hK => ?_) AllReadyH.nil)
                go_simp
                refine hK.out _ _ X3.out.l (fun hHeld => ?_)
                clear hK KQ
                try simp only [Act.put, tqA, tqZ, tqS]
                refine wpAnyH_done (by kernel_rfl) ?_ _
                have X4 := hid (X3.out.on (Below.refl _ _).drew)
                clear X3
                go_upto_region 8 with fail
                refine wp_region_held_drew (S := fun w => RNX W w r g v EE b m g8 X) (by kernel_rfl) X4.out (fun hHeld => ?_)
                generalize World.drew _ = w4 at *
                refine tk 0 (some 57) (.int .i64 0) ?_
                simp only [Act.put, tqA, tqZ, tqS]
                refine tk 1 (some 58) (.bool false) ?_
                simp only [Act.put, tqA, tqZ, tqS]
                refine tk 2 (some 59) (.bool false) ?_
                simp only [Act.put, tqA, tqZ, tqS]
                refine tk 3 (some 60) (.pointer (some ⟨g8, 1, none⟩)) ?_
                simp only [Act.put, tqA, tqZ, tqS]
                refine tk 4 (some 61) (.int .i64 X.o) ?_ (hy := Or.inl ⟨by rfl, by intro w hSw; have hc : w.cell? ⟨g8, 1, none⟩ = some (.int .i64 X.o) := hSw.c.cell 1; go_simp⟩)
                simp only [Act.put, tqA, tqZ, tqS]
                refine tk 5 (some 62) (.pointer (some ⟨r.g, 0, none⟩)) ?_
                simp only [Act.put, tqA, tqZ, tqS]
                refine wpAnyH_ready (rs := [6]) (by kernel_rfl) (by simp) (AllReadyH.cons (o := ⟨some 63, .call { callee := .value (.func 63), args := #[.tmp 62], argTypes := #[59] }, 3, "ref.go:217", #[⟨5, .data⟩, ⟨2, .chain⟩, ⟨2, .guard⟩], some (2, false)⟩) rfl (fun KQ hK => ?_) AllReadyH.nil)
                go_simp
                refine (HSn.out _ _ X4.out.l).mono ?_
                rintro e w5 ⟨rfl, hw5⟩
                subst w5
                go_wp2_with fail
                refine hK.out _ _ X4.out (fun hHeld => ?_)
                clear hK KQ
                try simp only [Act.put, tqA, tqZ, tqS]
                refine tk 7 (some 64) (.bool true) ?_
                simp only [Act.put, tqA, tqZ, tqS]
                refine tk 8 (some 65) (.bool true) ?_
                simp only [Act.put, tqA, tqZ, tqS]
                refine wpAnyH_done (by kernel_rfl) ?_ _
                go_wp2_with fail
                go_ret2
                have hgg := HGG.out
                subst hgg
                exact .inl ⟨HF.out, rfl, X4.out.l.bl⟩
              · go_simp
                have X1 : Hid (RNX W (w0.alloc (.cells #[.int .i64 0, .int .i64 0, .int .i64 0, .int .i64 0, .bool false] 121)) r g v EE b m w0.heap.size En.zero) := hid (L0.out.box En.zero)
                have HW := hid L0.out.bl.size
                clear L0
                generalize World.alloc _ _ = w1 at *
                generalize w0.heap.size = g8 at *
                refine hK.out _ _ X1.out.l (fun hHeld => ?_)
                clear hK KQ
                try simp only [Act.put, tqA, tqZ, tqS]
                refine wpAnyH_ready (rs := [13]) (by kernel_rfl) (by simp) (AllReadyH.cons (o := ⟨some 54, .call { callee := .value (.func 123), args := #[.tmp 53], argTypes := #[158] }, 175, "ref.go:216", #[⟨12, .data⟩], none⟩) rfl (fun KQ hK => ?_) AllReadyH.nil)
                go_simp
                refine (HD.out _).mono ?_
                rintro e w2 ⟨rfl, hb⟩
                have X2 := hid (X1.out.on hb)
                clear hb X1
                go_wp2_with fail
                refine hK.out _ _ X2.out.l (fun hHeld => ?_)
                clear hK KQ
                try simp only [Act.put, tqA, tqZ, tqS]
                refine tk 14 (some 40) (.tuple #[.agg X.cs.toArray, .int .i64 0]) ?_
                simp only [Act.put, tqA, tqZ, tqS]
                refine tk 15 (some 55) (.agg X.cs.toArray) ?_
                simp only [Act.put, tqA, tqZ, tqS]
                refine tk 16 (some 56) (.int .i64 0) ?_
                simp only [Act.put, tqA, tqZ, tqS]
                refine wpAnyH_ready (rs := [18]) (by kernel_rfl) (by simp) (AllReadyH.cons (o := ⟨none, .store 121 (.tmp 8) (.tmp 55), 0, "ref.go:216", #[⟨17, .data⟩, ⟨15, .data⟩, ⟨13, .chain⟩, ⟨0, .phase⟩, ⟨1, .phase⟩, ⟨2, .phase⟩, ⟨3, .phase⟩, ⟨4, .phase⟩, ⟨5, .phase⟩, ⟨6, .phase⟩, ⟨7, .phase⟩, ⟨8, .phase⟩, ⟨9, .phase⟩, ⟨10, .phase⟩, ⟨11, .phase⟩, ⟨12, .phase⟩, ⟨13, .phase⟩, ⟨14, .phase⟩, ⟨15, .phase⟩, { on := 16, ground := .textOnly Departure.lateStores }, ⟨17, .phase⟩], none⟩) rfl (fun KQ hK => ?_) AllReadyH.nil)
                rw [if_pos (by rfl)]
                refine wp_store_st 121 _ _ rfl g8 X.cs rfl rfl X2.out.c sizeR rfl rfl ?_
                intro w3 hc hb hs
                have X3 := hid (X2.out.put HW.out hc hb)
                clear hc hb hs X2
                refine hK.out _ _ X3.out.l (fun hHeld => ?_)
                clear hK KQ
                try simp only [Act.put]
                refine wpAnyH_ready (rs := [19]) (by kernel_rfl) (by simp) (AllReadyH.cons (o := ⟨some 9, .assign (.tmp 56), 3, "ref.go:216", #[⟨16, .data⟩, ⟨18, .chain⟩, ⟨0, .phase⟩, ⟨1, .phase⟩, ⟨2, .phase⟩, ⟨3, .phase⟩, ⟨4, .phase⟩, ⟨5, .phase⟩, ⟨6, .phase⟩, ⟨7, .phase⟩, ⟨8, .phase⟩, ⟨9, .phase⟩, ⟨10, .phase⟩, ⟨11, .phase⟩, ⟨12, .phase⟩, ⟨13, .phase⟩, ⟨14, .phase⟩, ⟨15, .phase⟩, ⟨16, .phase⟩, ⟨17, .phase⟩, ⟨18, .phase⟩], none⟩) rfl (fun KQ hK => ?_) AllReadyH.nil)
                go_simp
                refine hK.out _ _ X3.out.l (fun hHeld => ?_)
                clear hK KQ
                try simp only [Act.put, tqA, tqZ, tqS]
                refine wpAnyH_done (by kernel_rfl) ?_ _
                have X4 := hid (X3.out.on (Below.refl _ _).drew)
                clear X3
                go_upto_region 8 with fail
                refine wp_region_held_drew (S := fun w => RNX W w r g v EE b m g8 X) (by kernel_rfl) X4.out (fun hHeld => ?_)
                generalize World.drew _ = w4 at *
                refine tk 0 (some 57) (.int .i64 0) ?_
                simp only [Act.put, tqA, tqZ, tqS]
                refine tk 1 (some 58) (.bool false) ?_
                simp only [Act.put, tqA, tqZ, tqS]
                refine tk 2 (some 59) (.bool false) ?_
                simp only [Act.put, tqA, tqZ, tqS]
                refine tk 3 (some 60) (.pointer (some ⟨g8, 1, none⟩)) ?_
                simp only [Act.put, tqA, tqZ, tqS]
                refine tk 4 (some 61) (.int .i64 X.o) ?_ (hy := Or.inl ⟨by rfl, by intro w hSw; have hc : w.cell? ⟨g8, 1, none⟩ = some (.int .i64 X.o) := hSw.c.cell 1; go_simp⟩)
                simp only [Act.put, tqA, tqZ, tqS]
                refine tk 5 (some 62) (.pointer (some ⟨r.g, 0, none⟩)) ?_
                simp only [Act.put, tqA, tqZ, tqS]
                refine wpAnyH_ready (rs := [6]) (by kernel_rfl) (by simp) (AllReadyH.cons (o := ⟨some 63, .call { callee := .value (.func 63), args := #[.tmp 62], argTypes := #[59] }, 3, "ref.go:217", #[⟨5, .data⟩, ⟨2, .chain⟩, ⟨2, .guard⟩], some (2, false)⟩) rfl (fun KQ hK => ?_) AllReadyH.nil)
                go_simp
                refine (HSn.out _ _ X4.out.l).mono ?_
                rintro e w5 ⟨rfl, hw5⟩
                subst w5
                go_wp2_with fail
                refine hK.out _ _ X4.out (fun hHeld => ?_)
                clear hK KQ
                try simp only [Act.put, tqA, tqZ, tqS]
                refine tk 7 (some 64) (.bool true) ?_
                simp only [Act.put, tqA, tqZ, tqS]
                refine tk 8 (some 65) (.bool true) ?_
                simp only [Act.put, tqA, tqZ, tqS]
                refine wpAnyH_done (by kernel_rfl) ?_ _
                go_wp2_with fail
                go_ret2
                have hgg := HGG.out
                subst hgg
                exact .inl ⟨HF.out, rfl, X4.out.l.bl⟩
          · have hd' : dok a a2 = false := by cases hh : dok a a2 <;> simp_all
            have hdE : decE a a2 = 110 := by unfold decE; rw [if_neg hd]
            rw [hdE] at HD
            have HF := hid (HN0.out (by rw [HLS.out, hd', Bool.false_and]))
            clear hd hd' hdE HLS HN0
            generalize dec a a2 = X at *
            refine wp_region_held_drew (S := fun w => RNL W w r g v EE b m) (by kernel_rfl) L0.out (fun hHeld => ?_)
            generalize World.drew _ = w0 at *
            refine tk 0 (some 41) (.slice (some ⟨gw, off, none⟩) n c) ?_
            simp only [Act.put, tqA, tqZ, tqS]
            refine tk 1 (some 42) (.int .i64 (j : Int)) ?_
            simp only [Act.put, tqA, tqZ, tqS]
            refine tk 2 (some 43) (.int .i64 (2 * (j : Int))) ?_
            simp only [Act.put, tqA, tqZ, tqS]
            refine tk 3 (some 44) (.int .i64 (1 + 2 * (j : Int))) ?_
            simp only [Act.put, tqA, tqZ, tqS]
            refine tk 4 (some 45) (.pointer (some ⟨gw, off + (1 + 2 * (j : Int)).toNat, none⟩)) ?_
            simp only [Act.put, tqA, tqZ, tqS]
            refine tk 5 (some 46) (.int .u32 a) ?_ (hy := Or.inl ⟨by rfl, by intro w hSw; have hc := (HAj.out w hSw).1; go_simp⟩)
            simp only [Act.put, tqA, tqZ, tqS]
            refine tk 6 (some 47) (.slice (some ⟨gw, off, none⟩) n c) ?_
            simp only [Act.put, tqA, tqZ, tqS]
            refine tk 7 (some 48) (.int .i64 (j : Int)) ?_
            simp only [Act.put, tqA, tqZ, tqS]
            refine tk 8 (some 49) (.int .i64 (2 * (j : Int))) ?_
            simp only [Act.put, tqA, tqZ, tqS]
            refine tk 9 (some 50) (.int .i64 (2 + 2 * (j : Int))) ?_
            simp only [Act.put, tqA, tqZ, tqS]
            refine tk 10 (some 51) (.pointer (some ⟨gw, off + (2 + 2 * (j : Int)).toNat, none⟩)) ?_
            simp only [Act.put, tqA, tqZ, tqS]
            refine tk 11 (some 52) (.int .u32 a2) ?_ (hy := Or.inl ⟨by rfl, by intro w hSw; have hc := (HAj.out w hSw).2; go_simp⟩)
            simp only [Act.put, tqA, tqZ, tqS]
            refine tk 12 (some 53) (.agg #[.int .u32 a, .int .u32 a2]) ?_
            simp only [Act.put, tqA, tqZ, tqS]
            refine wpAnyH_ready (rs := [13, 17]) (by kernel_rfl) (by simp) (AllReadyH.cons (o := ⟨some 54, .call { callee := .value (.func 123), args := #[.tmp 53], argTypes := #[158] }, 175, "ref.go:216", #[⟨12, .data⟩], none⟩) rfl (fun KQ hK => ?_) (AllReadyH.cons (o := ⟨some 8, .alloc 121, 0, "ref.go:216", #[], none⟩) rfl (fun KQ hK => ?_) AllReadyH.nil))
            · go_simp
              refine (HD.out _).mono ?_
              rintro e w1 ⟨rfl, hb⟩
              have L1 := hid (L0.out.on hb)
              clear hb L0
              go_wp2_with fail
              refine hK.out _ _ L1.out (fun hHeld => ?_)
              clear hK KQ
              try simp only [Act.put, tqA, tqZ, tqS]
              refine tk 14 (some 40) (.tuple #[.agg X.cs.toArray, .int .i64 110]) ?_
              simp only [Act.put, tqA, tqZ, tqS]
              refine tk 15 (some 55) (.agg X.cs.toArray) ?_
              simp only [Act.put, tqA, tqZ, tqS]
              refine tk 16 (some 56) (.int .i64 110) ?_
              simp only [Act.put, tqA, tqZ, tqS]
              refine wpAnyH_ready (rs := [17]) (by kernel_rfl) (by simp) (AllReadyH.cons (o := ⟨some 8, .alloc 121, 0, "ref.go:216", #[], none⟩) rfl (fun KQ hK => ?_) AllReadyH.nil)
              go_simp
              have X2 : Hid (RNX W (w1.alloc (.cells #[.int .i64 0, .int .i64 0, .int .i64 0, .int .i64 0, .bool false] 121)) r g v EE b m w1.heap.size En.zero) := hid (L1.out.box En.zero)
              have HW := hid L1.out.bl.size
              clear L1
              generalize World.alloc _ _ = w2 at *
              generalize w1.heap.size = g8 at *
              refine hK.out _ _ X2.out.l (fun hHeld => ?_)
              clear hK KQ
              try simp only [Act.put, tqA, tqZ, tqS]
              refine wpAnyH_ready (rs := [18]) (by kernel_rfl) (by simp) (AllReadyH.cons (o := ⟨none, .store 121 (.tmp 8) (.tmp 55), 0, "ref.go:216", #[⟨17, .data⟩, ⟨15, .data⟩, ⟨13, .chain⟩, ⟨0, .phase⟩, ⟨1, .phase⟩, ⟨2, .phase⟩, ⟨3, .phase⟩, ⟨4, .phase⟩, ⟨5, .phase⟩, ⟨6, .phase⟩, ⟨7, .phase⟩, ⟨8, .phase⟩, ⟨9, .phase⟩, ⟨10, .phase⟩, ⟨11, .phase⟩, ⟨12, .phase⟩, ⟨13, .phase⟩, ⟨14, .phase⟩, ⟨15, .phase⟩, { on := 16, ground := .textOnly Departure.lateStores }, ⟨17, .phase⟩], none⟩) rfl (fun KQ hK => ?_) AllReadyH.nil)
              rw [if_pos (by rfl)]
              refine wp_store_st 121 _ _ rfl g8 X.cs rfl rfl X2.out.c sizeR rfl rfl ?_
              intro w3 hc hb hs
              have X3 := hid (X2.out.put HW.out hc hb)
              clear hc hb hs X2
              refine hK.out _ _ X3.out.l (fun hHeld => ?_)
              clear hK KQ
              try simp only [Act.put]
              refine wpAnyH_ready (rs := [19]) (by kernel_rfl) (by simp) (AllReadyH.cons (o := ⟨some 9, .assign (.tmp 56), 3, "ref.go:216", #[⟨16, .data⟩, ⟨18, .chain⟩, ⟨0, .phase⟩, ⟨1, .phase⟩, ⟨2, .phase⟩, ⟨3, .phase⟩, ⟨4, .phase⟩, ⟨5, .phase⟩, ⟨6, .phase⟩, ⟨7, .phase⟩, ⟨8, .phase⟩, ⟨9, .phase⟩, ⟨10, .phase⟩, ⟨11, .phase⟩, ⟨12, .phase⟩, ⟨13, .phase⟩, ⟨14, .phase⟩, ⟨15, .phase⟩, ⟨16, .phase⟩, ⟨17, .phase⟩, ⟨18, .phase⟩], none⟩) rfl (fun KQ hK => ?_) AllReadyH.nil)
              go_simp
              refine hK.out _ _ X3.out.l (fun hHeld => ?_)
              clear hK KQ
              try simp only [Act.put, tqA, tqZ, tqS]
              refine wpAnyH_done (by kernel_rfl) ?_ _
              have X4 := hid (X3.out.on (Below.refl _ _).drew)
              clear X3
              go_upto_region 8 with fail
              refine wp_region_held_drew (S := fun w => RNX W w r g v EE b m g8 X) (by kernel_rfl) X4.out (fun hHeld => ?_)
              generalize World.drew _ = w4 at *
              refine tk 0 (some 57) (.int .i64 110) ?_
              simp only [Act.put, tqA, tqZ, tqS]
              refine tk 1 (some 58) (.bool true) ?_
              simp only [Act.put, tqA, tqZ, tqS]
              refine tk 2 (some 59) (.bool true) ?_
              simp only [Act.put, tqA, tqZ, tqS]
              refine tk 3 (some 60) undef ?_ (hy := Or.inr ⟨by rfl, rfl⟩)
              simp only [Act.put, tqA, tqZ, tqS]
              refine tk 4 (some 61) undef ?_ (hy := Or.inr ⟨by rfl, rfl⟩)
              simp only [Act.put, tqA, tqZ, tqS]
              refine tk 5 (some 62) undef ?_ (hy := Or.inr ⟨by rfl, rfl⟩)
              simp only [Act.put, tqA, tqZ, tqS]
              refine tk 6 (some 63) undef ?_ (hy := Or.inr ⟨by rfl, rfl⟩)
              simp only [Act.put, tqA, tqZ, tqS]
              refine tk 7 (some 64) undef ?_ (hy := Or.inr ⟨by rfl, rfl⟩)
              simp only [Act.put, tqA, tqZ, tqS]
              refine tk 8 (some 65) (.bool true) ?_
              simp only [Act.put, tqA, tqZ, tqS]
              refine wpAnyH_done (by kernel_rfl) ?_ _
              go_wp2_with fail
              go_ret2
              have hgg := HGG.out
              subst hgg
              exact .inl ⟨HF.out, rfl, X4.out.l.bl⟩
            · go_simp
              have X1 : Hid (RNX W (w0.alloc (.cells #[.int .i64 0, .int .i64 0, .int .i64 0, .int .i64 0, .bool false] 121)) r g v EE b m w0.heap.size En.zero) := hid (L0.out.box En.zero)
              have HW := hid L0.out.bl.size
              clear L0
              generalize World.alloc _ _ = w1 at *
              generalize w0.heap.size = g8 at *
              refine hK.out _ _ X1.out.l (fun hHeld => ?_)
              clear hK KQ
              try simp only [Act.put, tqA, tqZ, tqS]
              refine wpAnyH_ready (rs := [13]) (by kernel_rfl) (by simp) (AllReadyH.cons (o := ⟨some 54, .call { callee := .value (.func 123), args := #[.tmp 53], argTypes := #[158] }, 175, "ref.go:216", #[⟨12, .data⟩], none⟩) rfl (fun KQ hK => ?_) AllReadyH.nil)
              go_simp
              refine (HD.out _).mono ?_
              rintro e w2 ⟨rfl, hb⟩
              have X2 := hid (X1.out.on hb)
              clear hb X1
              go_wp2_with fail
              refine hK.out _ _ X2.out.l (fun hHeld => ?_)
              clear hK KQ
              try simp only [Act.put, tqA, tqZ, tqS]
              refine tk 14 (some 40) (.tuple #[.agg X.cs.toArray, .int .i64 110]) ?_
              simp only [Act.put, tqA, tqZ, tqS]
              refine tk 15 (some 55) (.agg X.cs.toArray) ?_
              simp only [Act.put, tqA, tqZ, tqS]
              refine tk 16 (some 56) (.int .i64 110) ?_
              simp only [Act.put, tqA, tqZ, tqS]
              refine wpAnyH_ready (rs := [18]) (by kernel_rfl) (by simp) (AllReadyH.cons (o := ⟨none, .store 121 (.tmp 8) (.tmp 55), 0, "ref.go:216", #[⟨17, .data⟩, ⟨15, .data⟩, ⟨13, .chain⟩, ⟨0, .phase⟩, ⟨1, .phase⟩, ⟨2, .phase⟩, ⟨3, .phase⟩, ⟨4, .phase⟩, ⟨5, .phase⟩, ⟨6, .phase⟩, ⟨7, .phase⟩, ⟨8, .phase⟩, ⟨9, .phase⟩, ⟨10, .phase⟩, ⟨11, .phase⟩, ⟨12, .phase⟩, ⟨13, .phase⟩, ⟨14, .phase⟩, ⟨15, .phase⟩, { on := 16, ground := .textOnly Departure.lateStores }, ⟨17, .phase⟩], none⟩) rfl (fun KQ hK => ?_) AllReadyH.nil)
              rw [if_pos (by rfl)]
              refine wp_store_st 121 _ _ rfl g8 X.cs rfl rfl X2.out.c sizeR rfl rfl ?_
              intro w3 hc hb hs
              have X3 := hid (X2.out.put HW.out hc hb)
              clear hc hb hs X2
              refine hK.out _ _ X3.out.l (fun hHeld => ?_)
              clear hK KQ
              try simp only [Act.put]
              refine wpAnyH_ready (rs := [19]) (by kernel_rfl) (by simp) (AllReadyH.cons (o := ⟨some 9, .assign (.tmp 56), 3, "ref.go:216", #[⟨16, .data⟩, ⟨18, .chain⟩, ⟨0, .phase⟩, ⟨1, .phase⟩, ⟨2, .phase⟩, ⟨3, .phase⟩, ⟨4, .phase⟩, ⟨5, .phase⟩, ⟨6, .phase⟩, ⟨7, .phase⟩, ⟨8, .phase⟩, ⟨9, .phase⟩, ⟨10, .phase⟩, ⟨11, .phase⟩, ⟨12, .phase⟩, ⟨13, .phase⟩, ⟨14, .phase⟩, ⟨15, .phase⟩, ⟨16, .phase⟩, ⟨17, .phase⟩, ⟨18, .phase⟩], none⟩) rfl (fun KQ hK => ?_) AllReadyH.nil)
              go_simp
              refine hK.out _ _ X3.out.l (fun hHeld => ?_)
              clear hK KQ
              try simp only [Act.put, tqA, tqZ, tqS]
              refine wpAnyH_done (by kernel_rfl) ?_ _
              have X4 := hid (X3.out.on (Below.refl _ _).drew)
              clear X3
              go_upto_region 8 with fail
              refine wp_region_held_drew (S := fun w => RNX W w r g v EE b m g8 X) (by kernel_rfl) X4.out (fun hHeld => ?_)
              generalize World.drew _ = w4 at *
              refine tk 0 (some 57) (.int .i64 110) ?_
              simp only [Act.put, tqA, tqZ, tqS]
              refine tk 1 (some 58) (.bool true) ?_
              simp only [Act.put, tqA, tqZ, tqS]
              refine tk 2 (some 59) (.bool true) ?_
              simp only [Act.put, tqA, tqZ, tqS]
              refine tk 3 (some 60) undef ?_ (hy := Or.inr ⟨by rfl, rfl⟩)
              simp only [Act.put, tqA, tqZ, tqS]
              refine tk 4 (some 61) undef ?_ (hy := Or.inr ⟨by rfl, rfl⟩)
              simp only [Act.put, tqA, tqZ, tqS]
              refine tk 5 (some 62) undef ?_ (hy := Or.inr ⟨by rfl, rfl⟩)
              simp only [Act.put, tqA, tqZ, tqS]
              refine tk 6 (some 63) undef ?_ (hy := Or.inr ⟨by rfl, rfl⟩)
              simp only [Act.put, tqA, tqZ, tqS]
              refine tk 7 (some 64) undef ?_ (hy := Or.inr ⟨by rfl, rfl⟩)
              simp only [Act.put, tqA, tqZ, tqS]
              refine tk 8 (some 65) (.bool true) ?_
              simp only [Act.put, tqA, tqZ, tqS]
              refine wpAnyH_done (by kernel_rfl) ?_ _
              go_wp2_with fail
              go_ret2
              have hgg := HGG.out
              subst hgg
              exact .inl ⟨HF.out, rfl, X4.out.l.bl⟩
        · have hjn : j = m.ns := by omega
          subst hjn
          clear hlt hj
          have HOk : Hid (ldok m.ns L = true) := hid ((ldok_iff _ _).2 ⟨HR.out.1, by rw [HBW.out]; exact HR.out.2.1, HQ.out.2.2⟩)
          go_wp2_with (go_at_call 63; refine (HS.out _ HQ.out.1.mem).mono ?_; rintro e w1 ⟨rfl, hw1⟩; subst w1)
          go_ret2
          have hgg := HGG.out
          subst hgg
          obtain ⟨ge, cap, hdb, hge⟩ := HQ.out.1.done HR.out.2.2.2.2.2 (by rw [List.length_map, List.length_range]) (by have := load_ok HOk.out HR.out.2.2.2.2.1 HR.out.2.2.1; unfold DS.load at this; rw [HBW.out] at this; exact this)
          exact .inr ⟨HOk.out, ⟨_, ge, cap, r⟩, rfl, rfl, by unfold DS.load; rw [HBW.out]; exact hdb, HQ.out.1.hg, hge, HQ.out.2.1⟩
    · have hb' : (64 : Int) < wd L 0 := by omega
      have HN : Hid (ldok m.ns L = false) := hid (by
        cases hh : ldok m.ns L
        · rfl
        · exact absurd ((ldok_iff _ _).1 hh).2.1 hb)
      clear hm h h64 hrg hlt hn hb h0
      simp only [ptr] at *
      go_enter Tryz.func84, Tryz.ntmps84
      go_wp2_with (go_at_call 63; refine (HS.out _ HM.out).mono ?_; rintro e w1 ⟨rfl, hw1⟩; subst w1)
      go_ret2
      exact .inl ⟨HN.out, rfl, Below.refl _ _⟩
  · have HN : Hid (ldok m.ns L = false) := hid (by
      cases hh : ldok m.ns L
      · rfl
      · exact absurd (h.len.symm.trans ((ldok_iff _ _).1 hh).1) hn)
    have hni : ((n : Int) != 1 + 2 * (m.ns : Int)) = true := by
      rw [bne_iff_ne]; omega
    clear hm h h64 hn h0
    simp only [ptr] at *
    go_enter Tryz.func84, Tryz.ntmps84
    go_wp2_with (go_at_call 63; refine (HS.out _ HM.out).mono ?_; rintro e w1 ⟨rfl, hw1⟩; subst w1)
    go_ret2
    exact .inl ⟨HN.out, rfl, Below.refl _ _⟩
end Go.Proofs.YtildhjiddidghaaGreatDoor
