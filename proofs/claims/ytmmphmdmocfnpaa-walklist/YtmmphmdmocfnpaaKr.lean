/- WalkKeeps 5. -/
import Derived.Test.YtmmphmdmocfnpaaKq
namespace Go.Proofs.Ytmmphmdmocfnpaa
open Go.RowKit
set_option maxHeartbeats 16000000
set_option maxRecDepth 100000
theorem under61 : Try.prog.underlying 61 = some (.slice 60) := by kernel_rfl
theorem info60 : (Try.prog.info? 60).map (fun i => (i.zero, i.size, i.bytes)) = some (some (.slice none 0 0), 1, 24) := by kernel_rfl
theorem list_ok (x : World) (fa : Fp) (m : MS) (hU : m.U) (hns : m.ns = 8) (c : Int) (h : Mem x fa (m.wc c)) : Calls Try.prog 26 #[ptr fa.gm, .int .i64 0] x fun e w' => ∃ v c', e = .returned (.tuple #[v, .int .i64 0]) ∧ w'.ownsRow x.heap.size 67 5 v (m.lst 0 256).length (flat (m.lst 0 256)) ∧ Rd x w' fa (m.wc c') := by
  refine (list_any x fa (m.wc c) h (hU.wc c) 0).mono ?_
  have hat : ((m.wc c).at true 0).isSome = true := by rw [at_sec, show (m.wc c).ns = m.ns from rfl, hns]; decide
  rintro e w' (⟨h1, _⟩ | ⟨_, v, rfl, ho, hr⟩)
  · rw [hat] at h1; cases h1
  · rw [lst_wc] at ho
    exact ⟨v, _, rfl, ho, hr⟩
theorem KR.begin {W w : World} {fa : Fp} {m : MS} (h : NewMem W w fa m) : KR W w fa (m.wc m.c) [] [] (.slice none 0 0) [] (.slice none 0 0) [] :=
  ⟨h.mem, h.below, h.new, by simp, by simp, by simp, by simp, World.ownsRow_nil _ _ _ _, World.ownsRow_nil _ _ _ _, fun g hg => by cases hg⟩
theorem app61 {w : World} {ops : Array Oper} {rest : List Oper} {o : Oper} {ac : Act} {Q : Exit → Act → World → Prop} (hgd : o.guard = none) (s x : Operand)
    (ho : o.op = .call { callee := .builtin .append, args := #[s, x], argTypes := #[61, 61] }) {B : Nat} {v : Value} {hs : List Value} (hsv : ac.eval s = v) (hown : w.ownsRow B 60 1 v hs.length hs) (hbase : B ≤ w.heap.size) {g : Nat} {ao : Option Addr} {n c : Nat} (hx : ac.eval x = .slice (some ⟨g, 0, none⟩) 1 1) (hc : Cel w g 60 [.slice ao n c])
    (hb : hs.length ≤ 10) (h : ∀ v' w', Two2 w w' B 60 1 v v' hs.length 1 (hs ++ [.slice ao n c]) → wpList Try.prog ops Q rest (ac.put o.dst v') w') : wpList Try.prog ops Q (o :: rest) ac w := by
  obtain ⟨i, hi, hz, hsize, hby⟩ := info_parts info60
  exact wpList_append_two hgd s x 61 ho under61 hi hz hsize hby rfl (by decide) hsv hown hbase hx (news := [.slice ao n c]) rfl hc.src (by intro u hu; rw [List.mem_singleton] at hu; subst hu; rfl) (by unfold maxLen; omega) (by omega) h
theorem app60 {w : World} {ops : Array Oper} {rest : List Oper} {o : Oper} {ac : Act} {Q : Exit → Act → World → Prop} (hgd : o.guard = none) (s x : Operand)
    (ho : o.op = .call { callee := .builtin .append, args := #[s, x], argTypes := #[60, 60] }) {B : Nat} {v : Value} {C : List (Int × Mp)} (hsv : ac.eval s = v) (hown : w.ownsRow B 67 5 v C.length (flat C)) (hbase : B ≤ w.heap.size) {g : Nat} {y : Int × Mp} (hx : ac.eval x = .slice (some ⟨g, 0, none⟩) 1 1) (hc : Cel w g 67 (atC y))
    (hb : C.length ≤ 1000000) (h : ∀ v' w', Two2 w w' B 67 5 v v' C.length 1 (flat C ++ atC y) → wpList Try.prog ops Q rest (ac.put o.dst v') w') : wpList Try.prog ops Q (o :: rest) ac w := by
  obtain ⟨i, hi, hz, hsize, hby⟩ := info_parts info67
  exact wpList_append_two hgd s x 60 ho under60 hi hz hsize hby rfl (by decide) hsv hown hbase hx (news := atC y) rfl hc.src (by intro u hu; simp only [atC, List.mem_cons, List.not_mem_nil, or_false] at hu; rcases hu with rfl | rfl | rfl | rfl | rfl <;> rfl) (by unfold maxLen; omega) (by omega) h
theorem appAll {w : World} {ops : Array Oper} {rest : List Oper} {o : Oper} {ac : Act} {Q : Exit → Act → World → Prop} (hgd : o.guard = none) (s x : Operand)
    (ho : o.op = .call { callee := .builtin .append, args := #[s, x], argTypes := #[60, 60] }) {B : Nat} {A : List (Int × Mp)} (hsv : ac.eval s = .slice none 0 0) {v : Value} (hx : ac.eval x = v) (hown : w.ownsRow B 67 5 v A.length (flat A))
    (hb : A.length ≤ 1000000) (h : ∀ v' w', w'.ownsRow w.heap.size 67 5 v' A.length (flat A) → Below w.heap.size w w' → wpList Try.prog ops Q rest (ac.put o.dst v') w') : wpList Try.prog ops Q (o :: rest) ac w := by
  obtain ⟨i, hi, hz, hsize, hby⟩ := info_parts info67
  rcases hown.2 with ⟨rfl, hn⟩ | ⟨g, cap, cur, rfl, _⟩
  · have hA : A = [] := List.eq_nil_of_length_eq_zero hn
    subst hA
    exact wpList_append_own_none hgd s x 60 ho w.heap.size 67 i 5 under60 hi (.slice none 0 0) 0 [] hsv (World.ownsRow_nil _ _ _ _) hx (h _ _ (World.ownsRow_nil _ _ _ _) (Below.refl _ _))
  · refine wpList_append_two hgd s x 60 ho under60 hi hz hsize hby rfl (by decide) (base := w.heap.size) (n := 0) (xs := []) hsv (World.ownsRow_nil _ _ _ _) (Nat.le_refl _) hx (news := flat A) (flat_len A) (hown.cells (g := g) rfl) (by
      intro u hu
      obtain ⟨y, _, hy⟩ := List.mem_flatMap.1 hu
      simp only [atC, List.mem_cons, List.not_mem_nil, or_false] at hy; rcases hy with rfl | rfl | rfl | rfl | rfl <;> rfl) (by unfold maxLen; omega) (by omega) ?_
    rintro v' w' (⟨g', cap', hh, _⟩ | ⟨h1, h2⟩)
    · cases hh
    · rw [Nat.zero_add, List.nil_append] at h1
      exact h v' w' h1 h2
theorem keeps_any (W : World) (ao : Option Addr) (n cp b off : Nat) (L : Nat → Mg) (hL : MgAt W ao n b off L) (hn : (n : Int) ≤ 4611686018427387904) (x1 : Int) (k0 : -9223372036854775808 ≤ x1) (k1 : x1 ≤ 9223372036854775807) :
    Calls Try.prog 5 #[.slice ao n cp, .int .i64 x1] W fun e W' => e = .returned (.bool true) ∧ Below W.heap.size W W' := by
  have HMp := hid (mappedl_any W ao n cp b off L hL hn)
  have HKn := hid (fun x => known_any x)
  have HWi := hid (fun x => within_any x x1 2 4 (by decide) (by decide) (by decide) k0 k1)
  simp only [Int.reduceSub, Int.reduceAdd] at HWi
  have hr := wi_range x1 2 3 (by decide)
  obtain ⟨T, hT⟩ : ∃ T : Nat, wi x1 2 3 = (T : Int) := ⟨(wi x1 2 3).toNat, by omega⟩
  rw [hT] at HWi hr
  have T1 : (T : Int) ≤ 4 := by omega
  have T0 : (2 : Int) ≤ (T : Int) := hr.1
  have HLs := hid (fun x fa c h => list_ok x fa (mpd L (min n 60)) (mpd_U L _) (mpd_ns L _).1 c h)
  have HLn : Hid (((mpd L (min n 60)).lst 0 256).length ≤ 262144) := hid (lst_len _ 0 256)
  clear hL hn k0 k1 hr hT
  generalize mpd L (min n 60) = m at *
  generalize m.lst 0 256 = A at *
  have HAl := hid (fun x vo ko vc kc (h1 : RowAt x vo A) (h2 : RowAt x ko A) => alike_any x A vo ko vc kc h1 h2 (by have := HLn.out; omega))
  unfold ptr at *
  go_enter Try.func5, Try.ntmps5
  go_upto_region 2 with (go_at_call 24; refine HMp.out.mono ?_; rintro e w1 ⟨fa, rfl, hm⟩; have K0 := hid (KR.begin hm); clear hm)
  clear HMp
  generalize m.c = c0 at *
  go_upto_region 4 with (go_at_call 11; refine (HKn.out _).mono ?_; rintro e w2 ⟨rfl, hb⟩; have K1 := hid (K0.out.on hb); clear hb K0)
  clear HKn
  go_wp2_with fail
  go_loopw [7, 8, 10] (fun kv hv i wr => ∃ (t : Nat) (k2 h2 : Value) (Vs : List Value) (Z D : List RowT) (c : Int), k2 = kv ∧ h2 = hv ∧ t ≤ T ∧ i = .int .i64 (t : Int) ∧ Hid (KR W wr fa (m.wc c) Z D h2 Vs (.slice none 0 0) [] ∧ ZI Z Vs (fun _ => A) ∧ Vs.length = t ∧ (t = 0 → k2 = .slice none 0 0 ∧ D = []) ∧ (0 < t → D = [(k2, A)]))) (fun _ _ i _ => T - (intOf i).toNat)
  case atStart => exact ⟨0, _, _, [], [], [], c0, rfl, rfl, Nat.zero_le _, rfl, hid ⟨K1.out, ⟨rfl, fun i v h => by simp at h⟩, rfl, fun _ => ⟨rfl, rfl⟩, fun h => absurd h (by decide)⟩⟩
  case round =>
    obtain ⟨t, kv, hv, Vs, Z, D, c, rfl, rfl, ht, rfl, HQ⟩ := hrel
    clear K1
    by_cases hlt : t < T
    · have q1 : (t : Int) < (T : Int) := by omega
      have HJ := hid hlt
      clear hlt ht
      go_upto_region 10 with (go_at_call 25; refine (HWi.out _).mono ?_; rintro e wz ⟨rfl, rfl⟩)
      go_wp2_with fail
      refine (HLs.out _ fa c HQ.out.1.a).mono ?_
      rintro e w3 ⟨v, c', rfl, ho, hr⟩
      have K2 := hid (HQ.out.1.addZ (HQ.out.1.rd hr) ho)
      have HO := hid (own_mono ho HQ.out.1.below.size)
      clear ho hr
      obtain ⟨vo, vc, hvf, hrow⟩ := RowAt.of HO.out
      subst hvf
      have HR := hid hrow
      clear hrow
      by_cases h0 : t = 0
      · subst h0
        obtain ⟨hk0, hD0⟩ := HQ.out.2.2.2.1 rfl
        subst hk0 hD0
        rw [show ((0 : Nat) : Int) = 0 from rfl] at *
        go_upto_region 13 with (at_builtin; refine appAll rfl _ _ rfl rfl rfl HO.out (by have := HLn.out; omega) ?_; intro k4 w4 ho4 hb4; have K3 := hid (K2.out.addD (K2.out.on hb4) ho4); have HR1 := hid (HR.out.on hb4); have HO1 := hid ho4; clear ho4 hb4)
        obtain ⟨ko, kc, hkf, hrowk⟩ := RowAt.of HO1.out
        subst hkf
        have HRk := hid hrowk
        clear hrowk HO1 K2 HR
        simp only [List.nil_append] at K3
        go_upto_region 15 with (go_at_call 27; refine (HAl.out _ _ _ _ _ HR1.out HRk.out).mono ?_; rintro e w5 ⟨rfl, hb⟩; have K4 := hid (K3.out.on hb); clear hb)
        have K5 := hid (K4.out.on (below_one _ (.cells #[.slice vo A.length vc] 60)))
        have HC5 := hid (Cel.new w5 60 [.slice vo A.length vc])
        have HVl : Hid (Vs.length ≤ 10) := hid (by have := HQ.out.2.2.1; omega)
        go_wp2_with (at_builtin; refine app61 rfl _ _ rfl rfl K5.out.h1 K5.out.below.size rfl HC5.out HVl.out ?_; intro h6 w6 ht6; have K6 := hid (K5.out.headL ht6); clear ht6)
        go_roundw
        case measure => have := HJ.out; simp [intOf] <;> omega
        case rel => exact ⟨0 + 1, _, _, Vs ++ [.slice vo A.length vc], Z ++ [(.slice vo A.length vc, A)], _, c', rfl, rfl, by have := HJ.out; omega, by simp, hid ⟨K6.out, HQ.out.2.1.snoc _, by rw [List.length_append, HQ.out.2.2.1]; rfl, fun h => absurd h (by omega), fun _ => rfl⟩⟩
      · have h0' : 0 < t := by omega
        have h0i : ((t : Int) == 0) = false := by simpa using h0
        have hD := HQ.out.2.2.2.2 h0'
        subst hD
        have HOk : Hid (w3.ownsRow W.heap.size 67 5 kv A.length (flat A)) := hid (K2.out.dn (kv, A) (by simp))
        obtain ⟨ko, kc, hkf, hrowk⟩ := RowAt.of HOk.out
        subst hkf
        have HRk := hid hrowk
        have K3 := K2
        have HR1 := HR
        clear hrowk h0 h0' K2 HR
        go_upto_region 13 with fail
        go_upto_region 15 with (go_at_call 27; refine (HAl.out _ _ _ _ _ HR1.out HRk.out).mono ?_; rintro e w5 ⟨rfl, hb⟩; have K4 := hid (K3.out.on hb); clear hb)
        have K5 := hid (K4.out.on (below_one _ (.cells #[.slice vo A.length vc] 60)))
        have HC5 := hid (Cel.new w5 60 [.slice vo A.length vc])
        have HVl : Hid (Vs.length ≤ 10) := hid (by have := HQ.out.2.2.1; omega)
        go_wp2_with (at_builtin; refine app61 rfl _ _ rfl rfl K5.out.h1 K5.out.below.size rfl HC5.out HVl.out ?_; intro h6 w6 ht6; have K6 := hid (K5.out.headL ht6); clear ht6)
        go_roundw
        case measure => have := HJ.out; simp [intOf] <;> omega
        case rel => exact ⟨t + 1, _, _, Vs ++ [.slice vo A.length vc], Z ++ [(.slice vo A.length vc, A)], _, c', rfl, rfl, by have := HJ.out; omega, by simp, hid ⟨K6.out, HQ.out.2.1.snoc _, by rw [List.length_append, HQ.out.2.2.1]; rfl, fun h => absurd h (by omega), fun _ => rfl⟩⟩
    · have htT : t = T := by omega
      subst htT
      have hD := HQ.out.2.2.2.2 (by omega)
      subst hD
      obtain ⟨ho8, hc8, hhf, hh8⟩ := own_form HQ.out.1.h1
      rw [HQ.out.2.2.1] at hhf hh8
      obtain ⟨gh, hgh⟩ := hh8 (by omega)
      subst hgh hhf
      have HKo : Hid (∀ x Z D h2 hs g2 gs c, KR W x fa (m.wc c) Z D h2 hs g2 gs → (kv, A) ∈ D → x.ownsRow W.heap.size 67 5 kv A.length (flat A)) := hid (fun x Z D h2 hs g2 gs c h hd => h.dn _ hd)
      have K4 := hid (And.intro HQ.out.1 (And.intro HQ.out.2.1 HQ.out.2.2.1))
      clear HQ hlt ht
      obtain ⟨N, hN⟩ : ∃ N, A.length = N := ⟨_, rfl⟩
      have HN := hid hN
      have N1 : (N : Int) ≤ 262144 := by have := HLn.out; omega
      go_upto_region 16 with (go_at_call 25; refine (HWi.out _).mono ?_; rintro e wz ⟨rfl, rfl⟩)
      clear HWi hN
      go_wp2_with fail
      have HVl := hid K4.out.2.2
      have HS2 : Hid (KR W wz fa (m.wc c) Z [(kv, A)] (.slice (some ⟨gh, 0, none⟩) t hc8) Vs (.slice none 0 0) [] ∧ ZI Z Vs (fun i => if i < 0 then mk ((i : Int) + 1) N else A)) := hid ⟨K4.out.1, K4.out.2.1.mono (fun i _ => by rw [if_neg (by omega)])⟩
      clear K4
      go_loopw [13] (fun i wr => ∃ (s : Nat) (Z : List RowT), s ≤ t ∧ i = .int .i64 (s : Int) ∧ Hid (KR W wr fa (m.wc c) Z [(kv, A)] (.slice (some ⟨gh, 0, none⟩) t hc8) Vs (.slice none 0 0) [] ∧ ZI Z Vs (fun i => if i < s then mk ((i : Int) + 1) N else A))) (fun i _ => t - (intOf i).toNat)
      case atStart => exact ⟨0, Z, Nat.zero_le _, rfl, HS2⟩
      case round =>
        obtain ⟨s, Z2, hs, rfl, HP⟩ := hrel
        clear HS2
        by_cases hlt : s < t
        · have q1 : (s : Int) < (t : Int) := by omega
          have HJ := hid hlt
          clear hlt hs
          obtain ⟨v, hv⟩ : ∃ v, Vs[s]? = some v := ⟨Vs[s]'(by rw [HVl.out]; exact HJ.out), List.getElem?_eq_getElem _⟩
          have HV := hid hv
          clear hv
          have hZ := HP.out.2.at_ s v HV.out
          rw [if_neg (Nat.lt_irrefl s)] at hZ
          obtain ⟨vo, vc, hvf, hvg⟩ := own_form (HP.out.1.own _ (List.mem_of_getElem? hZ))
          simp only at hvf hvg
          rw [HN.out] at hvf hvg
          subst hvf
          have HVg := hid hvg
          clear hZ hvg
          have HI : Hid (KR W wr fa (m.wc c) Z2 [(kv, A)] (.slice (some ⟨gh, 0, none⟩) t hc8) Vs (.slice none 0 0) [] ∧ ZI Z2 Vs (fun i => if i < s then mk ((i : Int) + 1) N else if i = s then wr2 ((s : Int) + 1) A 0 else A)) := hid ⟨HP.out.1, HP.out.2.mono (fun i _ => by
            by_cases h1 : i < s
            · rw [if_pos h1, if_pos h1]
            · rw [if_neg h1, if_neg h1, wr2_zero, ite_self])⟩
          clear HP
          have w32 : ((s : Int) + 1) % 4294967296 = (s : Int) + 1 := by omega
          go_wp2_with fail
          go_loopw [14] (fun i wr => ∃ (j : Nat) (Z : List RowT), j ≤ N ∧ i = .int .i64 (j : Int) ∧ Hid (KR W wr fa (m.wc c) Z [(kv, A)] (.slice (some ⟨gh, 0, none⟩) t hc8) Vs (.slice none 0 0) [] ∧ ZI Z Vs (fun i => if i < s then mk ((i : Int) + 1) N else if i = s then wr2 ((s : Int) + 1) A j else A))) (fun i _ => N - (intOf i).toNat)
          case atStart => exact ⟨0, Z2, Nat.zero_le _, rfl, HI⟩
          case round =>
            obtain ⟨j, Z3, hj, rfl, HT⟩ := hrel
            clear HI
            have ch : wr.cell? ⟨gh, s, none⟩ = some (.slice vo N vc) := by
              have h := HT.out.1.h1
              rw [HVl.out] at h
              exact own_cell h HV.out
            by_cases hjl : j < N
            · have q2 : (j : Int) < (N : Int) := by omega
              obtain ⟨g, hg⟩ := HVg.out (by omega)
              subst hg
              have hZ := HT.out.2.at_ s _ HV.out
              rw [if_neg (Nat.lt_irrefl s), if_pos rfl] at hZ
              have hR := HT.out.1.own _ (List.mem_of_getElem? hZ)
              unfold Rw at hR
              simp only at hR
              rw [wr2_len _ _ _ (by rw [HN.out]; omega), HN.out] at hR
              have hyl : j < (wr2 ((s : Int) + 1) A j).length := by rw [wr2_len _ _ _ (by rw [HN.out]; omega), HN.out]; exact hjl
              obtain ⟨d0, d1, d2, d3, d4⟩ := row5 hR (List.getElem?_eq_getElem hyl)
              have f0 := hR.frozenAt (j * 5)
              have f1 := hR.frozenAt (j * 5 + 1)
              have f2 := hR.frozenAt (j * 5 + 2)
              have f3 := hR.frozenAt (j * 5 + 3)
              have f4 := hR.frozenAt (j * 5 + 4)
              have HSt := hid (fun x' e => own_store5 hR j hyl ((s : Int) + 1, Mp.z) (x' := x') e)
              rw [wr2_set _ _ _ (by rw [HN.out]; exact hjl)] at HSt
              have HZ := hid hZ
              generalize (wr2 ((s : Int) + 1) A j)[j] = y at *
              obtain ⟨y0, y1, y2, y3, y4⟩ := y
              simp only at d0 d1 d2 d3 d4
              have HJl := hid hjl
              clear hZ hR hyl hj hjl
              go_wp2_with fail
              generalize hX : World.setCell _ _ _ = x9
              obtain ⟨hs1, hs2⟩ := HSt.out _ hX
              have HZ2 := hid (HT.out.1.set s HZ.out (A' := wr2 ((s : Int) + 1) A (j + 1)) (g := g) rfl hs2 (by rw [wr2_len _ _ _ (by rw [HN.out]; have := HJl.out; omega), HN.out]; exact hs1))
              have HZ3 := hid (HT.out.2.set (f' := fun i => if i < s then mk ((i : Int) + 1) N else if i = s then wr2 ((s : Int) + 1) A (j + 1) else A) HV.out (fun i hi => by simp only [if_neg hi]))
              clear hs1 hs2 hX HSt f0 f1 f2 f3 f4 d0 d1 d2 d3 d4
              go_roundw
              case measure => have := HJl.out; simp [intOf] <;> omega
              case rel => exact ⟨j + 1, _, by have := HJl.out; omega, by simp, hid ⟨HZ2.out, by have h := HZ3.out; simp only [if_neg (Nat.lt_irrefl s), if_true] at h; exact h⟩⟩
            · have hjn : j = N := by omega
              subst hjn
              have HZ4 : Hid (ZI Z3 Vs (fun i => if i < s + 1 then mk ((i : Int) + 1) j else A)) := hid (HT.out.2.mono (fun i _ => by
                by_cases h1 : i < s
                · rw [if_pos h1, if_pos (by omega)]
                · rw [if_neg h1]
                  by_cases h2 : i = s
                  · rw [if_pos h2, if_pos (by omega), ← HN.out, wr2_all, h2]
                  · rw [if_neg h2, if_neg (by omega)]))
              go_wp2_with fail
              go_roundw
              case measure => have := HJ.out; simp [intOf] <;> omega
              case rel => exact ⟨s + 1, Z3, by have := HJ.out; omega, by simp, hid ⟨HT.out.1, HZ4.out⟩⟩
        · have hst : s = t := by omega
          subst hst
          have HS3 : Hid (KR W wr fa (m.wc c) Z2 [(kv, A)] (.slice (some ⟨gh, 0, none⟩) s hc8) Vs (.slice none 0 0) [] ∧ ZI Z2 (Vs.drop 0) (fun i => mk (((0 + i : Nat) : Int) + 1) N)) := hid ⟨HP.out.1, by
            have h := HP.out.2.mono (f' := fun i => mk (((0 + i : Nat) : Int) + 1) N) (fun i hi => by rw [HVl.out] at hi; rw [if_pos hi, Nat.zero_add])
            exact h⟩
          clear HP
          go_wp2_with fail
          go_loopw [9, 15] (fun gv i wr => ∃ (t : Nat) (g2 : Value) (gs : List Value) (Z D : List RowT), g2 = gv ∧ t ≤ s ∧ i = .int .i64 (t : Int) ∧ Hid (KR W wr fa (m.wc c) Z D (.slice (some ⟨gh, 0, none⟩) s hc8) Vs g2 gs ∧ ZI Z (Vs.drop t) (fun i => mk (((t + i : Nat) : Int) + 1) N) ∧ gs.length = t ∧ (kv, A) ∈ D ∧ ∀ i v, i < t → Vs[i]? = some v → (v, mk ((i : Int) + 1) N) ∈ D ∧ ∃ u, gs[i]? = some u ∧ (u, mk ((i : Int) + 1) (N + 40)) ∈ D)) (fun _ i _ => s - (intOf i).toNat)
          case atStart => exact ⟨0, _, [], Z2, [(kv, A)], rfl, Nat.zero_le _, rfl, hid ⟨HS3.out.1, HS3.out.2, rfl, by simp, fun i v h => absurd h (by omega)⟩⟩
          case round =>
            obtain ⟨t, g2, gs, Z4, D, rfl, ht, rfl, HF⟩ := hrel
            clear HS3
            by_cases hlt : t < s
            · have q1 : (t : Int) < (s : Int) := by omega
              have HJ := hid hlt
              clear hlt ht
              obtain ⟨v, hv⟩ : ∃ v, Vs[t]? = some v := ⟨Vs[t]'(by rw [HVl.out]; exact HJ.out), List.getElem?_eq_getElem _⟩
              have HV := hid hv
              clear hv
              have hZ := HF.out.2.1.at_ 0 v (by rw [List.getElem?_drop, Nat.add_zero]; exact HV.out)
              rw [Nat.add_zero] at hZ
              cases Z4 with
              | nil => simp at hZ
              | cons z0 Z5 =>
                simp only [List.getElem?_cons_zero, Option.some.injEq] at hZ
                subst hZ
                have L1 := hid (LV.start HF.out.1)
                obtain ⟨vo, vc, hvf, hvg⟩ := own_form L1.out.ot
                simp only [mk_len] at hvf hvg
                subst hvf
                clear hvg
                have ch : wr.cell? ⟨gh, t, none⟩ = some (.slice vo N vc) := by
                  have h := HF.out.1.h1
                  rw [HVl.out] at h
                  exact own_cell h HV.out
                have w32 : ((t : Int) + 1) % 4294967296 = (t : Int) + 1 := by omega
                have L1' : Hid (LV W wr fa (m.wc c) Z5 D (.slice (some ⟨gh, 0, none⟩) s hc8) Vs g2 gs (.slice vo N vc) (mk ((t : Int) + 1) (N + 0)) (.slice vo N vc) (mk ((t : Int) + 1) N)) := L1
                clear L1
                go_wp2_with fail
                clear ch
                go_loopw [16, 17] (fun lv i wr => ∃ (u : Nat) (l2 : Value), l2 = lv ∧ u ≤ 40 ∧ i = .int .i64 (u : Int) ∧ Hid (LV W wr fa (m.wc c) Z5 D (.slice (some ⟨gh, 0, none⟩) s hc8) Vs g2 gs l2 (mk ((t : Int) + 1) (N + u)) (.slice vo N vc) (mk ((t : Int) + 1) N))) (fun _ i _ => 40 - (intOf i).toNat)
                case atStart => exact ⟨0, _, rfl, Nat.zero_le _, rfl, L1'⟩
                case round =>
                  obtain ⟨u, l2, rfl, hu, rfl, HT⟩ := hrel
                  clear L1'
                  by_cases hul : u < 40
                  · have q2 : (u : Int) < 40 := by omega
                    have HU := hid hul
                    clear hul hu
                    have L2 := hid (HT.out.on (below_one wr (.cells #[.int .u32 ((t : Int) + 1), .bool false, .int .i64 0, .bool false, .bool false] 67)))
                    have HC := hid (Cel.new wr 67 (atC ((t : Int) + 1, Mp.z)))
                    have HL2 : Hid ((mk ((t : Int) + 1) (N + u)).length ≤ 1000000) := hid (by rw [mk_len]; have := HU.out; omega)
                    clear HT
                    go_wp2_with (at_builtin; refine app60 rfl _ _ rfl rfl L2.out.ol L2.out.k.below.size rfl HC.out HL2.out ?_; intro l6 w6 ht6; have L3 := hid (L2.out.app ht6); clear ht6)
                    go_roundw
                    case measure => have := HU.out; simp [intOf] <;> omega
                    case rel => exact ⟨u + 1, _, rfl, by have := HU.out; omega, by simp, hid (by rw [show N + (u + 1) = (N + u) + 1 from rfl, mk_succ]; exact L3.out)⟩
                  · have hu40 : u = 40 := by omega
                    subst hu40
                    rw [show ((40 : Nat) : Int) = 40 from rfl] at *
                    obtain ⟨lo, lc, hlf, _⟩ := own_form HT.out.ol
                    simp only [mk_len] at hlf
                    subst hlf
                    have K7 := hid HT.out.done
                    have K8 := hid (K7.out.on (below_one wr (.cells #[.slice lo (N + 40) lc] 60)))
                    have HC8 := hid (Cel.new wr 60 [.slice lo (N + 40) lc])
                    have HG8 : Hid (gs.length ≤ 10) := hid (by have := HF.out.2.2.1; omega)
                    go_wp2_with (at_builtin; refine app61 rfl _ _ rfl rfl K8.out.h2 K8.out.below.size rfl HC8.out HG8.out ?_; intro g6 w6 ht6; have K9 := hid (K8.out.headM ht6); clear ht6)
                    go_roundw
                    case measure => have := HJ.out; simp [intOf] <;> omega
                    case rel => exact ⟨t + 1, _, gs ++ [.slice lo (N + 40) lc], Z5, D ++ [(.slice vo N vc, mk ((t : Int) + 1) N), (.slice lo (N + 40) lc, mk ((t : Int) + 1) (N + 40))], rfl, by have := HJ.out; omega, by simp, hid ⟨K9.out, ⟨by have h := HF.out.2.1.len; simp only [List.length_cons, List.length_drop] at h ⊢; omega, fun i v hv => by
                      have h := HF.out.2.1.at_ (i + 1) v (by rw [List.getElem?_drop] at hv ⊢; rw [← hv]; congr 1; omega)
                      rw [List.getElem?_cons_succ] at h
                      rw [h, show t + (i + 1) = t + 1 + i by omega]⟩, by rw [List.length_append, HF.out.2.2.1]; rfl, by simp [HF.out.2.2.2.1], fun i v hi hv => by
                      by_cases he : i < t
                      · obtain ⟨h1, u, h2, h3⟩ := HF.out.2.2.2.2 i v he hv
                        exact ⟨by simp [h1], u, by rw [List.getElem?_append_left (by rw [HF.out.2.2.1]; exact he)]; exact h2, by simp [h3]⟩
                      · have hit : i = t := by omega
                        subst hit
                        have e := HV.out
                        rw [hv] at e
                        cases e
                        exact ⟨by simp, .slice lo (N + 40) lc, by rw [List.getElem?_append_right (by rw [HF.out.2.2.1]; exact Nat.le_refl _), HF.out.2.2.1, Nat.sub_self]; rfl, by simp⟩⟩⟩
            · have hts : t = s := by omega
              subst hts
              have HFx := hid HF.out.2.2.2
              obtain ⟨go, gc, hgf, hgg⟩ := own_form HF.out.1.h2
              rw [HF.out.2.2.1] at hgf hgg
              obtain ⟨gg, hgg2⟩ := hgg (by omega)
              subst hgg2 hgf
              obtain ⟨ko, kc, hkf, _⟩ := own_form (HF.out.1.dn _ HFx.out.1)
              simp only at hkf
              rw [HN.out] at hkf
              subst hkf
              have HGl := hid HF.out.2.2.1
              have HK := hid HF.out.1
              clear HF hlt ht
              go_wp2_with fail
              go_loopw [18] (fun i wr => ∃ e : Nat, e ≤ t ∧ i = .int .i64 (e : Int) ∧ Hid (KR W wr fa (m.wc c) Z4 D (.slice (some ⟨gh, 0, none⟩) t hc8) Vs (.slice (some ⟨gg, 0, none⟩) t gc) gs)) (fun i _ => t - (intOf i).toNat)
              case atStart => exact ⟨0, Nat.zero_le _, rfl, HK⟩
              case round =>
                obtain ⟨e, he, rfl, HE⟩ := hrel
                clear HK
                by_cases hlt : e < t
                · have q1 : (e : Int) < (t : Int) := by omega
                  have HJ := hid hlt
                  clear hlt he
                  obtain ⟨v, hv⟩ : ∃ v, Vs[e]? = some v := ⟨Vs[e]'(by rw [HVl.out]; exact HJ.out), List.getElem?_eq_getElem _⟩
                  obtain ⟨hd1, u, hu, hd2⟩ := HFx.out.2 e v HJ.out hv
                  obtain ⟨vo, vc, hvf, hvg⟩ := own_form (HE.out.dn _ hd1)
                  obtain ⟨uo, uc, huf, hug⟩ := own_form (HE.out.dn _ hd2)
                  simp only [mk_len] at hvf hvg huf hug
                  subst hvf huf
                  obtain ⟨gu, hgu⟩ := hug (by omega)
                  subst hgu
                  have HVv := hid hv
                  have HUu := hid hu
                  have HD1 := hid hd1
                  have HD2 := hid hd2
                  have HVg := hid hvg
                  have HCg : Hid (∀ x, KR W x fa (m.wc c) Z4 D (.slice (some ⟨gh, 0, none⟩) t hc8) Vs (.slice (some ⟨gg, 0, none⟩) t gc) gs → x.cell? ⟨gg, e, none⟩ = some (.slice (some ⟨gu, 0, none⟩) (N + 40) uc) ∧ x.cell? ⟨gh, e, none⟩ = some (.slice vo N vc)) := hid (fun x h => ⟨by
                    have h2 := h.h2
                    rw [HGl.out] at h2
                    exact own_cell h2 HUu.out, by
                    have h1 := h.h1
                    rw [HVl.out] at h1
                    exact own_cell h1 HVv.out⟩)
                  clear hv hu hd1 hd2 hvg hug HVv HUu
                  have w32 : ((e : Int) + 1) % 4294967296 = (e : Int) + 1 := by omega
                  go_wp2_with fail
                  go_loopw [19] (fun i wr => ∃ j : Nat, j ≤ N + 40 ∧ i = .int .i64 (j : Int) ∧ Hid (KR W wr fa (m.wc c) Z4 D (.slice (some ⟨gh, 0, none⟩) t hc8) Vs (.slice (some ⟨gg, 0, none⟩) t gc) gs)) (fun i _ => N + 40 - (intOf i).toNat)
                  case atStart => exact ⟨0, Nat.zero_le _, rfl, HE⟩
                  case round =>
                    obtain ⟨j, hj, rfl, HT⟩ := hrel
                    clear HE
                    have ch := (HCg.out _ HT.out).1
                    by_cases hjl : j < N + 40
                    · have q2 : (j : Int) < (N : Int) + 40 := by omega
                      have HJl := hid hjl
                      clear hj
                      go_upto_region 38 with fail
                      clear ch
                      have HD := hid (HT.out.on (Below.refl _ _).drew)
                      have HCu : Hid (∀ x, KR W x fa (m.wc c) Z4 D (.slice (some ⟨gh, 0, none⟩) t hc8) Vs (.slice (some ⟨gg, 0, none⟩) t gc) gs → x.cell? ⟨gu, j * 5, none⟩ = some (.int .u32 ((e : Int) + 1)) ∧ x.cell? ⟨gu, j * 5 + 1, none⟩ = some (.bool false) ∧ x.cell? ⟨gu, j * 5 + 2, none⟩ = some (.int .i64 0) ∧ x.cell? ⟨gu, j * 5 + 3, none⟩ = some (.bool false) ∧ x.cell? ⟨gu, j * 5 + 4, none⟩ = some (.bool false)) := hid (fun x h => by
                        have h2 := h.dn _ HD2.out
                        unfold Rw at h2
                        simp only [mk_len] at h2
                        exact row5 h2 (mk_at _ _ _ HJl.out))
                      by_cases hjN : j < N
                      · have q3 : (j : Int) < (N : Int) := by omega
                        obtain ⟨gv, hgv⟩ := HVg.out (by omega)
                        subst hgv
                        have HCv : Hid (∀ x, KR W x fa (m.wc c) Z4 D (.slice (some ⟨gh, 0, none⟩) t hc8) Vs (.slice (some ⟨gg, 0, none⟩) t gc) gs → x.cell? ⟨gv, j * 5, none⟩ = some (.int .u32 ((e : Int) + 1)) ∧ x.cell? ⟨gv, j * 5 + 1, none⟩ = some (.bool false) ∧ x.cell? ⟨gv, j * 5 + 2, none⟩ = some (.int .i64 0) ∧ x.cell? ⟨gv, j * 5 + 3, none⟩ = some (.bool false) ∧ x.cell? ⟨gv, j * 5 + 4, none⟩ = some (.bool false)) := hid (fun x h => by
                          have h2 := h.dn _ HD1.out
                          unfold Rw at h2
                          simp only [mk_len] at h2
                          exact row5 h2 (mk_at _ _ _ hjN))
                        refine wp_region_held_drew (S := fun x => KR W x fa (m.wc c) Z4 D (.slice (some ⟨gh, 0, none⟩) t hc8) Vs (.slice (some ⟨gg, 0, none⟩) t gc) gs) (by kernel_rfl) HD.out (fun hHeld => ?_)
                        refine wpAnyH_take (i := 0) (oi := { dst := some 126, op := Op.move (Operand.tmp 9), type := 61, pos := "outright.go:237", after := #[], guard := none }) (v := .slice (some ⟨gg, 0, none⟩) t gc) rfl (by kernel_rfl) (by kernel_rfl) (by kernel_rfl) (fun _ _ _ h => h) (Or.inl ⟨by rfl, by intro w hSw; go_simp⟩) (by assumption) ?_
                        simp only [Act.put, List.setIfInBounds_toArray, List.set_cons_zero, List.set_cons_succ]
                        refine wpAnyH_take (i := 1) (oi := { dst := some 127, op := Op.move (Operand.tmp 18), type := 3, pos := "outright.go:237", after := #[], guard := none }) (v := .int .i64 (e : Int)) rfl (by kernel_rfl) (by kernel_rfl) (by kernel_rfl) (fun _ _ _ h => h) (Or.inl ⟨by rfl, by intro w hSw; go_simp⟩) (by assumption) ?_
                        simp only [Act.put, List.setIfInBounds_toArray, List.set_cons_zero, List.set_cons_succ]
                        refine wpAnyH_take (i := 2) (oi := { dst := some 128, op := Op.indexAddr 61 (Operand.tmp 126) (Operand.tmp 127), type := 0, pos := "outright.go:237", after := #[{ on := 0, ground := Ground.data }, { on := 1, ground := Ground.data }], guard := none }) (v := .pointer (some ⟨gg, e, none⟩)) rfl (by kernel_rfl) (by kernel_rfl) (by kernel_rfl) (fun _ _ _ h => h) (Or.inl ⟨by rfl, by intro w hSw; go_simp⟩) (by assumption) ?_
                        simp only [Act.put, List.setIfInBounds_toArray, List.set_cons_zero, List.set_cons_succ]
                        refine wpAnyH_take (i := 3) (oi := { dst := some 129, op := Op.load 60 (Operand.tmp 128), type := 60, pos := "outright.go:237", after := #[{ on := 2, ground := Ground.data }], guard := none }) (v := .slice (some ⟨gu, 0, none⟩) (N + 40) uc) rfl (by kernel_rfl) (by kernel_rfl) (by kernel_rfl) (fun _ _ _ h => h) (Or.inl ⟨by rfl, by intro w hSw; have h0 := (HCg.out _ hSw).1; go_simp⟩) (by assumption) ?_
                        simp only [Act.put, List.setIfInBounds_toArray, List.set_cons_zero, List.set_cons_succ]
                        refine wpAnyH_take (i := 4) (oi := { dst := some 130, op := Op.move (Operand.tmp 19), type := 3, pos := "outright.go:237", after := #[], guard := none }) (v := .int .i64 (j : Int)) rfl (by kernel_rfl) (by kernel_rfl) (by kernel_rfl) (fun _ _ _ h => h) (Or.inl ⟨by rfl, by intro w hSw; go_simp⟩) (by assumption) ?_
                        simp only [Act.put, List.setIfInBounds_toArray, List.set_cons_zero, List.set_cons_succ]
                        refine wpAnyH_take (i := 5) (oi := { dst := some 131, op := Op.indexAddr 60 (Operand.tmp 129) (Operand.tmp 130), type := 0, pos := "outright.go:237", after := #[{ on := 3, ground := Ground.data }, { on := 4, ground := Ground.data }], guard := none }) (v := .pointer (some ⟨gu, j * 5, none⟩)) rfl (by kernel_rfl) (by kernel_rfl) (by kernel_rfl) (fun _ _ _ h => h) (Or.inl ⟨by rfl, by intro w hSw; go_simp⟩) (by assumption) ?_
                        simp only [Act.put, List.setIfInBounds_toArray, List.set_cons_zero, List.set_cons_succ]
                        refine wpAnyH_take (i := 6) (oi := { dst := some 132, op := Op.load 67 (Operand.tmp 131), type := 67, pos := "outright.go:237", after := #[{ on := 5, ground := Ground.data }], guard := none }) (v := .agg #[.int .u32 ((e : Int) + 1), .bool false, .int .i64 0, .bool false, .bool false]) rfl (by kernel_rfl) (by kernel_rfl) (by kernel_rfl) (fun _ _ _ h => h) (Or.inl ⟨by rfl, by intro w hSw; obtain ⟨d0, d1, d2, d3, d4⟩ := HCu.out _ hSw; go_simp⟩) (by assumption) ?_
                        simp only [Act.put, List.setIfInBounds_toArray, List.set_cons_zero, List.set_cons_succ]
                        refine wpAnyH_take (i := 7) (oi := { dst := some 133, op := Op.move (Operand.tmp 18), type := 3, pos := "outright.go:237", after := #[], guard := none }) (v := .int .i64 (e : Int)) rfl (by kernel_rfl) (by kernel_rfl) (by kernel_rfl) (fun _ _ _ h => h) (Or.inl ⟨by rfl, by intro w hSw; go_simp⟩) (by assumption) ?_
                        simp only [Act.put, List.setIfInBounds_toArray, List.set_cons_zero, List.set_cons_succ]
                        refine wpAnyH_take (i := 8) (oi := { dst := some 134, op := Op.binOp BinOp.add 3 (Operand.tmp 133) (Operand.const (Value.int IntKind.i64 1)) 3, type := 3, pos := "outright.go:237", after := #[{ on := 7, ground := Ground.data }], guard := none }) (v := .int .i64 ((e : Int) + 1)) rfl (by kernel_rfl) (by kernel_rfl) (by kernel_rfl) (fun _ _ _ h => h) (Or.inl ⟨by rfl, by intro w hSw; go_simp; rw [IntKind.wrap_i64]; omega⟩) (by assumption) ?_
                        simp only [Act.put, List.setIfInBounds_toArray, List.set_cons_zero, List.set_cons_succ]
                        refine wpAnyH_take (i := 9) (oi := { dst := some 135, op := Op.convert 3 22 (Operand.tmp 134), type := 22, pos := "outright.go:237", after := #[{ on := 8, ground := Ground.data }], guard := none }) (v := .int .u32 ((e : Int) + 1)) rfl (by kernel_rfl) (by kernel_rfl) (by kernel_rfl) (fun _ _ _ h => h) (Or.inl ⟨by rfl, by intro w hSw; go_simp; rw [IntKind.wrap_u32]; omega⟩) (by assumption) ?_
                        simp only [Act.put, List.setIfInBounds_toArray, List.set_cons_zero, List.set_cons_succ]
                        refine wpAnyH_take (i := 10) (oi := { dst := some 136, op := Op.build 67 #[(0, Operand.tmp 135)], type := 67, pos := "outright.go:237", after := #[{ on := 9, ground := Ground.data }], guard := none }) (v := .agg #[.int .u32 ((e : Int) + 1), .bool false, .int .i64 0, .bool false, .bool false]) rfl (by kernel_rfl) (by kernel_rfl) (by kernel_rfl) (fun _ _ _ h => h) (Or.inl ⟨by rfl, by intro w hSw; go_simp⟩) (by assumption) ?_
                        simp only [Act.put, List.setIfInBounds_toArray, List.set_cons_zero, List.set_cons_succ]
                        refine wpAnyH_take (i := 11) (oi := { dst := some 137, op := Op.binOp BinOp.neq 67 (Operand.tmp 132) (Operand.tmp 136) 67, type := 4, pos := "outright.go:237", after := #[{ on := 6, ground := Ground.data }, { on := 10, ground := Ground.data }], guard := none }) (v := .bool false) rfl (by kernel_rfl) (by kernel_rfl) (by kernel_rfl) (fun _ _ _ h => h) (Or.inl ⟨by rfl, by intro w hSw; go_simp⟩) (by assumption) ?_
                        simp only [Act.put, List.setIfInBounds_toArray, List.set_cons_zero, List.set_cons_succ]
                        refine wpAnyH_take (i := 12) (oi := { dst := some 138, op := Op.move (Operand.tmp 137), type := 4, pos := "outright.go:237", after := #[{ on := 11, ground := Ground.data }], guard := none }) (v := .bool false) rfl (by kernel_rfl) (by kernel_rfl) (by kernel_rfl) (fun _ _ _ h => h) (Or.inl ⟨by rfl, by intro w hSw; go_simp⟩) (by assumption) ?_
                        simp only [Act.put, List.setIfInBounds_toArray, List.set_cons_zero, List.set_cons_succ]
                        refine wpAnyH_take (i := 13) (oi := { dst := some 139, op := Op.move (Operand.tmp 19), type := 3, pos := "outright.go:237", after := #[{ on := 12, ground := Ground.guard }], guard := some (12, false) }) (v := .int .i64 (j : Int)) rfl (by kernel_rfl) (by kernel_rfl) (by kernel_rfl) (fun _ _ _ h => h) (Or.inl ⟨by rfl, by intro w hSw; go_simp⟩) (by assumption) ?_
                        simp only [Act.put, List.setIfInBounds_toArray, List.set_cons_zero, List.set_cons_succ]
                        refine wpAnyH_take (i := 14) (oi := { dst := some 140, op := Op.move (Operand.tmp 7), type := 60, pos := "outright.go:237", after := #[{ on := 12, ground := Ground.guard }], guard := some (12, false) }) (v := .slice ko N kc) rfl (by kernel_rfl) (by kernel_rfl) (by kernel_rfl) (fun _ _ _ h => h) (Or.inl ⟨by rfl, by intro w hSw; go_simp⟩) (by assumption) ?_
                        simp only [Act.put, List.setIfInBounds_toArray, List.set_cons_zero, List.set_cons_succ]
                        refine wpAnyH_take (i := 15) (oi := { dst := some 141, op := Op.call { callee := Callee.builtin Builtin.len, args := #[Operand.tmp 140], argTypes := #[60] }, type := 3, pos := "outright.go:237", after := #[{ on := 14, ground := Ground.data }, { on := 12, ground := Ground.guard }], guard := some (12, false) }) (v := .int .i64 (N : Int)) rfl (by kernel_rfl) (by kernel_rfl) (by kernel_rfl) (fun _ _ _ h => h) (Or.inl ⟨by rfl, by intro w hSw; go_simp⟩) (by assumption) ?_
                        simp only [Act.put, List.setIfInBounds_toArray, List.set_cons_zero, List.set_cons_succ]
                        refine wpAnyH_take (i := 16) (oi := { dst := some 142, op := Op.binOp BinOp.lss 3 (Operand.tmp 139) (Operand.tmp 141) 3, type := 4, pos := "outright.go:237", after := #[{ on := 13, ground := Ground.data }, { on := 15, ground := Ground.data }, { on := 12, ground := Ground.guard }], guard := some (12, false) }) (v := .bool true) rfl (by kernel_rfl) (by kernel_rfl) (by kernel_rfl) (fun _ _ _ h => h) (Or.inl ⟨by rfl, by intro w hSw; go_simp⟩) (by assumption) ?_
                        simp only [Act.put, List.setIfInBounds_toArray, List.set_cons_zero, List.set_cons_succ]
                        refine wpAnyH_take (i := 17) (oi := { dst := some 143, op := Op.move (Operand.tmp 142), type := 4, pos := "outright.go:237", after := #[{ on := 16, ground := Ground.data }, { on := 12, ground := Ground.chain }, { on := 12, ground := Ground.guard }], guard := some (12, false) }) (v := .bool true) rfl (by kernel_rfl) (by kernel_rfl) (by kernel_rfl) (fun _ _ _ h => h) (Or.inl ⟨by rfl, by intro w hSw; go_simp⟩) (by assumption) ?_
                        simp only [Act.put, List.setIfInBounds_toArray, List.set_cons_zero, List.set_cons_succ]
                        refine wpAnyH_take (i := 18) (oi := { dst := some 144, op := Op.move (Operand.tmp 8), type := 61, pos := "outright.go:237", after := #[{ on := 17, ground := Ground.guard }], guard := some (17, true) }) (v := .slice (some ⟨gh, 0, none⟩) t hc8) rfl (by kernel_rfl) (by kernel_rfl) (by kernel_rfl) (fun _ _ _ h => h) (Or.inl ⟨by rfl, by intro w hSw; go_simp⟩) (by assumption) ?_
                        simp only [Act.put, List.setIfInBounds_toArray, List.set_cons_zero, List.set_cons_succ]
                        refine wpAnyH_take (i := 19) (oi := { dst := some 145, op := Op.move (Operand.tmp 18), type := 3, pos := "outright.go:237", after := #[{ on := 17, ground := Ground.guard }], guard := some (17, true) }) (v := .int .i64 (e : Int)) rfl (by kernel_rfl) (by kernel_rfl) (by kernel_rfl) (fun _ _ _ h => h) (Or.inl ⟨by rfl, by intro w hSw; go_simp⟩) (by assumption) ?_
                        simp only [Act.put, List.setIfInBounds_toArray, List.set_cons_zero, List.set_cons_succ]
                        refine wpAnyH_take (i := 20) (oi := { dst := some 146, op := Op.indexAddr 61 (Operand.tmp 144) (Operand.tmp 145), type := 0, pos := "outright.go:237", after := #[{ on := 18, ground := Ground.data }, { on := 19, ground := Ground.data }, { on := 17, ground := Ground.guard }], guard := some (17, true) }) (v := .pointer (some ⟨gh, e, none⟩)) rfl (by kernel_rfl) (by kernel_rfl) (by kernel_rfl) (fun _ _ _ h => h) (Or.inl ⟨by rfl, by intro w hSw; go_simp⟩) (by assumption) ?_
                        simp only [Act.put, List.setIfInBounds_toArray, List.set_cons_zero, List.set_cons_succ]
                        refine wpAnyH_take (i := 21) (oi := { dst := some 147, op := Op.load 60 (Operand.tmp 146), type := 60, pos := "outright.go:237", after := #[{ on := 20, ground := Ground.data }, { on := 17, ground := Ground.guard }], guard := some (17, true) }) (v := .slice (some ⟨gv, 0, none⟩) N vc) rfl (by kernel_rfl) (by kernel_rfl) (by kernel_rfl) (fun _ _ _ h => h) (Or.inl ⟨by rfl, by intro w hSw; have h0 := (HCg.out _ hSw).2; go_simp⟩) (by assumption) ?_
                        simp only [Act.put, List.setIfInBounds_toArray, List.set_cons_zero, List.set_cons_succ]
                        refine wpAnyH_take (i := 22) (oi := { dst := some 148, op := Op.move (Operand.tmp 19), type := 3, pos := "outright.go:237", after := #[{ on := 17, ground := Ground.guard }], guard := some (17, true) }) (v := .int .i64 (j : Int)) rfl (by kernel_rfl) (by kernel_rfl) (by kernel_rfl) (fun _ _ _ h => h) (Or.inl ⟨by rfl, by intro w hSw; go_simp⟩) (by assumption) ?_
                        simp only [Act.put, List.setIfInBounds_toArray, List.set_cons_zero, List.set_cons_succ]
                        refine wpAnyH_take (i := 23) (oi := { dst := some 149, op := Op.indexAddr 60 (Operand.tmp 147) (Operand.tmp 148), type := 0, pos := "outright.go:237", after := #[{ on := 21, ground := Ground.data }, { on := 22, ground := Ground.data }, { on := 17, ground := Ground.guard }], guard := some (17, true) }) (v := .pointer (some ⟨gv, j * 5, none⟩)) rfl (by kernel_rfl) (by kernel_rfl) (by kernel_rfl) (fun _ _ _ h => h) (Or.inl ⟨by rfl, by intro w hSw; go_simp⟩) (by assumption) ?_
                        simp only [Act.put, List.setIfInBounds_toArray, List.set_cons_zero, List.set_cons_succ]
                        refine wpAnyH_take (i := 24) (oi := { dst := some 150, op := Op.load 67 (Operand.tmp 149), type := 67, pos := "outright.go:237", after := #[{ on := 23, ground := Ground.data }, { on := 17, ground := Ground.guard }], guard := some (17, true) }) (v := .agg #[.int .u32 ((e : Int) + 1), .bool false, .int .i64 0, .bool false, .bool false]) rfl (by kernel_rfl) (by kernel_rfl) (by kernel_rfl) (fun _ _ _ h => h) (Or.inl ⟨by rfl, by intro w hSw; obtain ⟨d0, d1, d2, d3, d4⟩ := HCv.out _ hSw; go_simp⟩) (by assumption) ?_
                        simp only [Act.put, List.setIfInBounds_toArray, List.set_cons_zero, List.set_cons_succ]
                        refine wpAnyH_take (i := 25) (oi := { dst := some 151, op := Op.move (Operand.tmp 9), type := 61, pos := "outright.go:237", after := #[{ on := 17, ground := Ground.guard }], guard := some (17, true) }) (v := .slice (some ⟨gg, 0, none⟩) t gc) rfl (by kernel_rfl) (by kernel_rfl) (by kernel_rfl) (fun _ _ _ h => h) (Or.inl ⟨by rfl, by intro w hSw; go_simp⟩) (by assumption) ?_
                        simp only [Act.put, List.setIfInBounds_toArray, List.set_cons_zero, List.set_cons_succ]
                        refine wpAnyH_take (i := 26) (oi := { dst := some 152, op := Op.move (Operand.tmp 18), type := 3, pos := "outright.go:237", after := #[{ on := 17, ground := Ground.guard }], guard := some (17, true) }) (v := .int .i64 (e : Int)) rfl (by kernel_rfl) (by kernel_rfl) (by kernel_rfl) (fun _ _ _ h => h) (Or.inl ⟨by rfl, by intro w hSw; go_simp⟩) (by assumption) ?_
                        simp only [Act.put, List.setIfInBounds_toArray, List.set_cons_zero, List.set_cons_succ]
                        refine wpAnyH_take (i := 27) (oi := { dst := some 153, op := Op.indexAddr 61 (Operand.tmp 151) (Operand.tmp 152), type := 0, pos := "outright.go:237", after := #[{ on := 25, ground := Ground.data }, { on := 26, ground := Ground.data }, { on := 17, ground := Ground.guard }], guard := some (17, true) }) (v := .pointer (some ⟨gg, e, none⟩)) rfl (by kernel_rfl) (by kernel_rfl) (by kernel_rfl) (fun _ _ _ h => h) (Or.inl ⟨by rfl, by intro w hSw; go_simp⟩) (by assumption) ?_
                        simp only [Act.put, List.setIfInBounds_toArray, List.set_cons_zero, List.set_cons_succ]
                        refine wpAnyH_take (i := 28) (oi := { dst := some 154, op := Op.load 60 (Operand.tmp 153), type := 60, pos := "outright.go:237", after := #[{ on := 27, ground := Ground.data }, { on := 17, ground := Ground.guard }], guard := some (17, true) }) (v := .slice (some ⟨gu, 0, none⟩) (N + 40) uc) rfl (by kernel_rfl) (by kernel_rfl) (by kernel_rfl) (fun _ _ _ h => h) (Or.inl ⟨by rfl, by intro w hSw; have h0 := (HCg.out _ hSw).1; go_simp⟩) (by assumption) ?_
                        simp only [Act.put, List.setIfInBounds_toArray, List.set_cons_zero, List.set_cons_succ]
                        refine wpAnyH_take (i := 29) (oi := { dst := some 155, op := Op.move (Operand.tmp 19), type := 3, pos := "outright.go:237", after := #[{ on := 17, ground := Ground.guard }], guard := some (17, true) }) (v := .int .i64 (j : Int)) rfl (by kernel_rfl) (by kernel_rfl) (by kernel_rfl) (fun _ _ _ h => h) (Or.inl ⟨by rfl, by intro w hSw; go_simp⟩) (by assumption) ?_
                        simp only [Act.put, List.setIfInBounds_toArray, List.set_cons_zero, List.set_cons_succ]
                        refine wpAnyH_take (i := 30) (oi := { dst := some 156, op := Op.indexAddr 60 (Operand.tmp 154) (Operand.tmp 155), type := 0, pos := "outright.go:237", after := #[{ on := 28, ground := Ground.data }, { on := 29, ground := Ground.data }, { on := 17, ground := Ground.guard }], guard := some (17, true) }) (v := .pointer (some ⟨gu, j * 5, none⟩)) rfl (by kernel_rfl) (by kernel_rfl) (by kernel_rfl) (fun _ _ _ h => h) (Or.inl ⟨by rfl, by intro w hSw; go_simp⟩) (by assumption) ?_
                        simp only [Act.put, List.setIfInBounds_toArray, List.set_cons_zero, List.set_cons_succ]
                        refine wpAnyH_take (i := 31) (oi := { dst := some 157, op := Op.load 67 (Operand.tmp 156), type := 67, pos := "outright.go:237", after := #[{ on := 30, ground := Ground.data }, { on := 17, ground := Ground.guard }], guard := some (17, true) }) (v := .agg #[.int .u32 ((e : Int) + 1), .bool false, .int .i64 0, .bool false, .bool false]) rfl (by kernel_rfl) (by kernel_rfl) (by kernel_rfl) (fun _ _ _ h => h) (Or.inl ⟨by rfl, by intro w hSw; obtain ⟨d0, d1, d2, d3, d4⟩ := HCu.out _ hSw; go_simp⟩) (by assumption) ?_
                        simp only [Act.put, List.setIfInBounds_toArray, List.set_cons_zero, List.set_cons_succ]
                        refine wpAnyH_take (i := 32) (oi := { dst := some 158, op := Op.binOp BinOp.neq 67 (Operand.tmp 150) (Operand.tmp 157) 67, type := 4, pos := "outright.go:237", after := #[{ on := 24, ground := Ground.data }, { on := 31, ground := Ground.data }, { on := 17, ground := Ground.guard }], guard := some (17, true) }) (v := .bool false) rfl (by kernel_rfl) (by kernel_rfl) (by kernel_rfl) (fun _ _ _ h => h) (Or.inl ⟨by rfl, by intro w hSw; go_simp⟩) (by assumption) ?_
                        simp only [Act.put, List.setIfInBounds_toArray, List.set_cons_zero, List.set_cons_succ]
                        refine wpAnyH_take (i := 33) (oi := { dst := some 159, op := Op.pick (Operand.tmp 143) (Operand.tmp 158) (Operand.const (Value.bool false)), type := 4, pos := "outright.go:237", after := #[{ on := 17, ground := Ground.data }, { on := 32, ground := Ground.data }, { on := 12, ground := Ground.guard }], guard := some (12, false) }) (v := .bool false) rfl (by kernel_rfl) (by kernel_rfl) (by kernel_rfl) (fun _ _ _ h => h) (Or.inl ⟨by rfl, by intro w hSw; go_simp⟩) (by assumption) ?_
                        simp only [Act.put, List.setIfInBounds_toArray, List.set_cons_zero, List.set_cons_succ]
                        refine wpAnyH_take (i := 34) (oi := { dst := some 160, op := Op.pick (Operand.tmp 138) (Operand.const (Value.bool true)) (Operand.tmp 159), type := 4, pos := "outright.go:237", after := #[{ on := 12, ground := Ground.data }, { on := 33, ground := Ground.data }], guard := none }) (v := .bool false) rfl (by kernel_rfl) (by kernel_rfl) (by kernel_rfl) (fun _ _ _ h => h) (Or.inl ⟨by rfl, by intro w hSw; go_simp⟩) (by assumption) ?_
                        simp only [Act.put, List.setIfInBounds_toArray, List.set_cons_zero, List.set_cons_succ]
                        refine wpAnyH_done (by kernel_rfl) ?_ _
                        go_wp2_with fail
                        go_roundw
                        case measure => have := HJl.out; simp [intOf] <;> omega
                        case rel => exact ⟨j + 1, by have := HJl.out; omega, by simp, HD⟩
                      · have q3 : ¬ (j : Int) < (N : Int) := by omega
                        refine wp_region_held_drew (S := fun x => KR W x fa (m.wc c) Z4 D (.slice (some ⟨gh, 0, none⟩) t hc8) Vs (.slice (some ⟨gg, 0, none⟩) t gc) gs) (by kernel_rfl) HD.out (fun hHeld => ?_)
                        refine wpAnyH_take (i := 0) (oi := { dst := some 126, op := Op.move (Operand.tmp 9), type := 61, pos := "outright.go:237", after := #[], guard := none }) (v := .slice (some ⟨gg, 0, none⟩) t gc) rfl (by kernel_rfl) (by kernel_rfl) (by kernel_rfl) (fun _ _ _ h => h) (Or.inl ⟨by rfl, by intro w hSw; go_simp⟩) (by assumption) ?_
                        simp only [Act.put, List.setIfInBounds_toArray, List.set_cons_zero, List.set_cons_succ]
                        refine wpAnyH_take (i := 1) (oi := { dst := some 127, op := Op.move (Operand.tmp 18), type := 3, pos := "outright.go:237", after := #[], guard := none }) (v := .int .i64 (e : Int)) rfl (by kernel_rfl) (by kernel_rfl) (by kernel_rfl) (fun _ _ _ h => h) (Or.inl ⟨by rfl, by intro w hSw; go_simp⟩) (by assumption) ?_
                        simp only [Act.put, List.setIfInBounds_toArray, List.set_cons_zero, List.set_cons_succ]
                        refine wpAnyH_take (i := 2) (oi := { dst := some 128, op := Op.indexAddr 61 (Operand.tmp 126) (Operand.tmp 127), type := 0, pos := "outright.go:237", after := #[{ on := 0, ground := Ground.data }, { on := 1, ground := Ground.data }], guard := none }) (v := .pointer (some ⟨gg, e, none⟩)) rfl (by kernel_rfl) (by kernel_rfl) (by kernel_rfl) (fun _ _ _ h => h) (Or.inl ⟨by rfl, by intro w hSw; go_simp⟩) (by assumption) ?_
                        simp only [Act.put, List.setIfInBounds_toArray, List.set_cons_zero, List.set_cons_succ]
                        refine wpAnyH_take (i := 3) (oi := { dst := some 129, op := Op.load 60 (Operand.tmp 128), type := 60, pos := "outright.go:237", after := #[{ on := 2, ground := Ground.data }], guard := none }) (v := .slice (some ⟨gu, 0, none⟩) (N + 40) uc) rfl (by kernel_rfl) (by kernel_rfl) (by kernel_rfl) (fun _ _ _ h => h) (Or.inl ⟨by rfl, by intro w hSw; have h0 := (HCg.out _ hSw).1; go_simp⟩) (by assumption) ?_
                        simp only [Act.put, List.setIfInBounds_toArray, List.set_cons_zero, List.set_cons_succ]
                        refine wpAnyH_take (i := 4) (oi := { dst := some 130, op := Op.move (Operand.tmp 19), type := 3, pos := "outright.go:237", after := #[], guard := none }) (v := .int .i64 (j : Int)) rfl (by kernel_rfl) (by kernel_rfl) (by kernel_rfl) (fun _ _ _ h => h) (Or.inl ⟨by rfl, by intro w hSw; go_simp⟩) (by assumption) ?_
                        simp only [Act.put, List.setIfInBounds_toArray, List.set_cons_zero, List.set_cons_succ]
                        refine wpAnyH_take (i := 5) (oi := { dst := some 131, op := Op.indexAddr 60 (Operand.tmp 129) (Operand.tmp 130), type := 0, pos := "outright.go:237", after := #[{ on := 3, ground := Ground.data }, { on := 4, ground := Ground.data }], guard := none }) (v := .pointer (some ⟨gu, j * 5, none⟩)) rfl (by kernel_rfl) (by kernel_rfl) (by kernel_rfl) (fun _ _ _ h => h) (Or.inl ⟨by rfl, by intro w hSw; go_simp⟩) (by assumption) ?_
                        simp only [Act.put, List.setIfInBounds_toArray, List.set_cons_zero, List.set_cons_succ]
                        refine wpAnyH_take (i := 6) (oi := { dst := some 132, op := Op.load 67 (Operand.tmp 131), type := 67, pos := "outright.go:237", after := #[{ on := 5, ground := Ground.data }], guard := none }) (v := .agg #[.int .u32 ((e : Int) + 1), .bool false, .int .i64 0, .bool false, .bool false]) rfl (by kernel_rfl) (by kernel_rfl) (by kernel_rfl) (fun _ _ _ h => h) (Or.inl ⟨by rfl, by intro w hSw; obtain ⟨d0, d1, d2, d3, d4⟩ := HCu.out _ hSw; go_simp⟩) (by assumption) ?_
                        simp only [Act.put, List.setIfInBounds_toArray, List.set_cons_zero, List.set_cons_succ]
                        refine wpAnyH_take (i := 7) (oi := { dst := some 133, op := Op.move (Operand.tmp 18), type := 3, pos := "outright.go:237", after := #[], guard := none }) (v := .int .i64 (e : Int)) rfl (by kernel_rfl) (by kernel_rfl) (by kernel_rfl) (fun _ _ _ h => h) (Or.inl ⟨by rfl, by intro w hSw; go_simp⟩) (by assumption) ?_
                        simp only [Act.put, List.setIfInBounds_toArray, List.set_cons_zero, List.set_cons_succ]
                        refine wpAnyH_take (i := 8) (oi := { dst := some 134, op := Op.binOp BinOp.add 3 (Operand.tmp 133) (Operand.const (Value.int IntKind.i64 1)) 3, type := 3, pos := "outright.go:237", after := #[{ on := 7, ground := Ground.data }], guard := none }) (v := .int .i64 ((e : Int) + 1)) rfl (by kernel_rfl) (by kernel_rfl) (by kernel_rfl) (fun _ _ _ h => h) (Or.inl ⟨by rfl, by intro w hSw; go_simp; rw [IntKind.wrap_i64]; omega⟩) (by assumption) ?_
                        simp only [Act.put, List.setIfInBounds_toArray, List.set_cons_zero, List.set_cons_succ]
                        refine wpAnyH_take (i := 9) (oi := { dst := some 135, op := Op.convert 3 22 (Operand.tmp 134), type := 22, pos := "outright.go:237", after := #[{ on := 8, ground := Ground.data }], guard := none }) (v := .int .u32 ((e : Int) + 1)) rfl (by kernel_rfl) (by kernel_rfl) (by kernel_rfl) (fun _ _ _ h => h) (Or.inl ⟨by rfl, by intro w hSw; go_simp; rw [IntKind.wrap_u32]; omega⟩) (by assumption) ?_
                        simp only [Act.put, List.setIfInBounds_toArray, List.set_cons_zero, List.set_cons_succ]
                        refine wpAnyH_take (i := 10) (oi := { dst := some 136, op := Op.build 67 #[(0, Operand.tmp 135)], type := 67, pos := "outright.go:237", after := #[{ on := 9, ground := Ground.data }], guard := none }) (v := .agg #[.int .u32 ((e : Int) + 1), .bool false, .int .i64 0, .bool false, .bool false]) rfl (by kernel_rfl) (by kernel_rfl) (by kernel_rfl) (fun _ _ _ h => h) (Or.inl ⟨by rfl, by intro w hSw; go_simp⟩) (by assumption) ?_
                        simp only [Act.put, List.setIfInBounds_toArray, List.set_cons_zero, List.set_cons_succ]
                        refine wpAnyH_take (i := 11) (oi := { dst := some 137, op := Op.binOp BinOp.neq 67 (Operand.tmp 132) (Operand.tmp 136) 67, type := 4, pos := "outright.go:237", after := #[{ on := 6, ground := Ground.data }, { on := 10, ground := Ground.data }], guard := none }) (v := .bool false) rfl (by kernel_rfl) (by kernel_rfl) (by kernel_rfl) (fun _ _ _ h => h) (Or.inl ⟨by rfl, by intro w hSw; go_simp⟩) (by assumption) ?_
                        simp only [Act.put, List.setIfInBounds_toArray, List.set_cons_zero, List.set_cons_succ]
                        refine wpAnyH_take (i := 12) (oi := { dst := some 138, op := Op.move (Operand.tmp 137), type := 4, pos := "outright.go:237", after := #[{ on := 11, ground := Ground.data }], guard := none }) (v := .bool false) rfl (by kernel_rfl) (by kernel_rfl) (by kernel_rfl) (fun _ _ _ h => h) (Or.inl ⟨by rfl, by intro w hSw; go_simp⟩) (by assumption) ?_
                        simp only [Act.put, List.setIfInBounds_toArray, List.set_cons_zero, List.set_cons_succ]
                        refine wpAnyH_take (i := 13) (oi := { dst := some 139, op := Op.move (Operand.tmp 19), type := 3, pos := "outright.go:237", after := #[{ on := 12, ground := Ground.guard }], guard := some (12, false) }) (v := .int .i64 (j : Int)) rfl (by kernel_rfl) (by kernel_rfl) (by kernel_rfl) (fun _ _ _ h => h) (Or.inl ⟨by rfl, by intro w hSw; go_simp⟩) (by assumption) ?_
                        simp only [Act.put, List.setIfInBounds_toArray, List.set_cons_zero, List.set_cons_succ]
                        refine wpAnyH_take (i := 14) (oi := { dst := some 140, op := Op.move (Operand.tmp 7), type := 60, pos := "outright.go:237", after := #[{ on := 12, ground := Ground.guard }], guard := some (12, false) }) (v := .slice ko N kc) rfl (by kernel_rfl) (by kernel_rfl) (by kernel_rfl) (fun _ _ _ h => h) (Or.inl ⟨by rfl, by intro w hSw; go_simp⟩) (by assumption) ?_
                        simp only [Act.put, List.setIfInBounds_toArray, List.set_cons_zero, List.set_cons_succ]
                        refine wpAnyH_take (i := 15) (oi := { dst := some 141, op := Op.call { callee := Callee.builtin Builtin.len, args := #[Operand.tmp 140], argTypes := #[60] }, type := 3, pos := "outright.go:237", after := #[{ on := 14, ground := Ground.data }, { on := 12, ground := Ground.guard }], guard := some (12, false) }) (v := .int .i64 (N : Int)) rfl (by kernel_rfl) (by kernel_rfl) (by kernel_rfl) (fun _ _ _ h => h) (Or.inl ⟨by rfl, by intro w hSw; go_simp⟩) (by assumption) ?_
                        simp only [Act.put, List.setIfInBounds_toArray, List.set_cons_zero, List.set_cons_succ]
                        refine wpAnyH_take (i := 16) (oi := { dst := some 142, op := Op.binOp BinOp.lss 3 (Operand.tmp 139) (Operand.tmp 141) 3, type := 4, pos := "outright.go:237", after := #[{ on := 13, ground := Ground.data }, { on := 15, ground := Ground.data }, { on := 12, ground := Ground.guard }], guard := some (12, false) }) (v := .bool false) rfl (by kernel_rfl) (by kernel_rfl) (by kernel_rfl) (fun _ _ _ h => h) (Or.inl ⟨by rfl, by intro w hSw; go_simp⟩) (by assumption) ?_
                        simp only [Act.put, List.setIfInBounds_toArray, List.set_cons_zero, List.set_cons_succ]
                        refine wpAnyH_take (i := 17) (oi := { dst := some 143, op := Op.move (Operand.tmp 142), type := 4, pos := "outright.go:237", after := #[{ on := 16, ground := Ground.data }, { on := 12, ground := Ground.chain }, { on := 12, ground := Ground.guard }], guard := some (12, false) }) (v := .bool false) rfl (by kernel_rfl) (by kernel_rfl) (by kernel_rfl) (fun _ _ _ h => h) (Or.inl ⟨by rfl, by intro w hSw; go_simp⟩) (by assumption) ?_
                        simp only [Act.put, List.setIfInBounds_toArray, List.set_cons_zero, List.set_cons_succ]
                        refine wpAnyH_take (i := 18) (oi := { dst := some 144, op := Op.move (Operand.tmp 8), type := 61, pos := "outright.go:237", after := #[{ on := 17, ground := Ground.guard }], guard := some (17, true) }) (v := undef) rfl (by kernel_rfl) (by kernel_rfl) (by kernel_rfl) (fun _ _ _ h => h) (Or.inr ⟨by rfl, rfl⟩) (by assumption) ?_
                        simp only [Act.put, List.setIfInBounds_toArray, List.set_cons_zero, List.set_cons_succ]
                        refine wpAnyH_take (i := 19) (oi := { dst := some 145, op := Op.move (Operand.tmp 18), type := 3, pos := "outright.go:237", after := #[{ on := 17, ground := Ground.guard }], guard := some (17, true) }) (v := undef) rfl (by kernel_rfl) (by kernel_rfl) (by kernel_rfl) (fun _ _ _ h => h) (Or.inr ⟨by rfl, rfl⟩) (by assumption) ?_
                        simp only [Act.put, List.setIfInBounds_toArray, List.set_cons_zero, List.set_cons_succ]
                        refine wpAnyH_take (i := 20) (oi := { dst := some 146, op := Op.indexAddr 61 (Operand.tmp 144) (Operand.tmp 145), type := 0, pos := "outright.go:237", after := #[{ on := 18, ground := Ground.data }, { on := 19, ground := Ground.data }, { on := 17, ground := Ground.guard }], guard := some (17, true) }) (v := undef) rfl (by kernel_rfl) (by kernel_rfl) (by kernel_rfl) (fun _ _ _ h => h) (Or.inr ⟨by rfl, rfl⟩) (by assumption) ?_
                        simp only [Act.put, List.setIfInBounds_toArray, List.set_cons_zero, List.set_cons_succ]
                        refine wpAnyH_take (i := 21) (oi := { dst := some 147, op := Op.load 60 (Operand.tmp 146), type := 60, pos := "outright.go:237", after := #[{ on := 20, ground := Ground.data }, { on := 17, ground := Ground.guard }], guard := some (17, true) }) (v := undef) rfl (by kernel_rfl) (by kernel_rfl) (by kernel_rfl) (fun _ _ _ h => h) (Or.inr ⟨by rfl, rfl⟩) (by assumption) ?_
                        simp only [Act.put, List.setIfInBounds_toArray, List.set_cons_zero, List.set_cons_succ]
                        refine wpAnyH_take (i := 22) (oi := { dst := some 148, op := Op.move (Operand.tmp 19), type := 3, pos := "outright.go:237", after := #[{ on := 17, ground := Ground.guard }], guard := some (17, true) }) (v := undef) rfl (by kernel_rfl) (by kernel_rfl) (by kernel_rfl) (fun _ _ _ h => h) (Or.inr ⟨by rfl, rfl⟩) (by assumption) ?_
                        simp only [Act.put, List.setIfInBounds_toArray, List.set_cons_zero, List.set_cons_succ]
                        refine wpAnyH_take (i := 23) (oi := { dst := some 149, op := Op.indexAddr 60 (Operand.tmp 147) (Operand.tmp 148), type := 0, pos := "outright.go:237", after := #[{ on := 21, ground := Ground.data }, { on := 22, ground := Ground.data }, { on := 17, ground := Ground.guard }], guard := some (17, true) }) (v := undef) rfl (by kernel_rfl) (by kernel_rfl) (by kernel_rfl) (fun _ _ _ h => h) (Or.inr ⟨by rfl, rfl⟩) (by assumption) ?_
                        simp only [Act.put, List.setIfInBounds_toArray, List.set_cons_zero, List.set_cons_succ]
                        refine wpAnyH_take (i := 24) (oi := { dst := some 150, op := Op.load 67 (Operand.tmp 149), type := 67, pos := "outright.go:237", after := #[{ on := 23, ground := Ground.data }, { on := 17, ground := Ground.guard }], guard := some (17, true) }) (v := undef) rfl (by kernel_rfl) (by kernel_rfl) (by kernel_rfl) (fun _ _ _ h => h) (Or.inr ⟨by rfl, rfl⟩) (by assumption) ?_
                        simp only [Act.put, List.setIfInBounds_toArray, List.set_cons_zero, List.set_cons_succ]
                        refine wpAnyH_take (i := 25) (oi := { dst := some 151, op := Op.move (Operand.tmp 9), type := 61, pos := "outright.go:237", after := #[{ on := 17, ground := Ground.guard }], guard := some (17, true) }) (v := undef) rfl (by kernel_rfl) (by kernel_rfl) (by kernel_rfl) (fun _ _ _ h => h) (Or.inr ⟨by rfl, rfl⟩) (by assumption) ?_
                        simp only [Act.put, List.setIfInBounds_toArray, List.set_cons_zero, List.set_cons_succ]
                        refine wpAnyH_take (i := 26) (oi := { dst := some 152, op := Op.move (Operand.tmp 18), type := 3, pos := "outright.go:237", after := #[{ on := 17, ground := Ground.guard }], guard := some (17, true) }) (v := undef) rfl (by kernel_rfl) (by kernel_rfl) (by kernel_rfl) (fun _ _ _ h => h) (Or.inr ⟨by rfl, rfl⟩) (by assumption) ?_
                        simp only [Act.put, List.setIfInBounds_toArray, List.set_cons_zero, List.set_cons_succ]
                        refine wpAnyH_take (i := 27) (oi := { dst := some 153, op := Op.indexAddr 61 (Operand.tmp 151) (Operand.tmp 152), type := 0, pos := "outright.go:237", after := #[{ on := 25, ground := Ground.data }, { on := 26, ground := Ground.data }, { on := 17, ground := Ground.guard }], guard := some (17, true) }) (v := undef) rfl (by kernel_rfl) (by kernel_rfl) (by kernel_rfl) (fun _ _ _ h => h) (Or.inr ⟨by rfl, rfl⟩) (by assumption) ?_
                        simp only [Act.put, List.setIfInBounds_toArray, List.set_cons_zero, List.set_cons_succ]
                        refine wpAnyH_take (i := 28) (oi := { dst := some 154, op := Op.load 60 (Operand.tmp 153), type := 60, pos := "outright.go:237", after := #[{ on := 27, ground := Ground.data }, { on := 17, ground := Ground.guard }], guard := some (17, true) }) (v := undef) rfl (by kernel_rfl) (by kernel_rfl) (by kernel_rfl) (fun _ _ _ h => h) (Or.inr ⟨by rfl, rfl⟩) (by assumption) ?_
                        simp only [Act.put, List.setIfInBounds_toArray, List.set_cons_zero, List.set_cons_succ]
                        refine wpAnyH_take (i := 29) (oi := { dst := some 155, op := Op.move (Operand.tmp 19), type := 3, pos := "outright.go:237", after := #[{ on := 17, ground := Ground.guard }], guard := some (17, true) }) (v := undef) rfl (by kernel_rfl) (by kernel_rfl) (by kernel_rfl) (fun _ _ _ h => h) (Or.inr ⟨by rfl, rfl⟩) (by assumption) ?_
                        simp only [Act.put, List.setIfInBounds_toArray, List.set_cons_zero, List.set_cons_succ]
                        refine wpAnyH_take (i := 30) (oi := { dst := some 156, op := Op.indexAddr 60 (Operand.tmp 154) (Operand.tmp 155), type := 0, pos := "outright.go:237", after := #[{ on := 28, ground := Ground.data }, { on := 29, ground := Ground.data }, { on := 17, ground := Ground.guard }], guard := some (17, true) }) (v := undef) rfl (by kernel_rfl) (by kernel_rfl) (by kernel_rfl) (fun _ _ _ h => h) (Or.inr ⟨by rfl, rfl⟩) (by assumption) ?_
                        simp only [Act.put, List.setIfInBounds_toArray, List.set_cons_zero, List.set_cons_succ]
                        refine wpAnyH_take (i := 31) (oi := { dst := some 157, op := Op.load 67 (Operand.tmp 156), type := 67, pos := "outright.go:237", after := #[{ on := 30, ground := Ground.data }, { on := 17, ground := Ground.guard }], guard := some (17, true) }) (v := undef) rfl (by kernel_rfl) (by kernel_rfl) (by kernel_rfl) (fun _ _ _ h => h) (Or.inr ⟨by rfl, rfl⟩) (by assumption) ?_
                        simp only [Act.put, List.setIfInBounds_toArray, List.set_cons_zero, List.set_cons_succ]
                        refine wpAnyH_take (i := 32) (oi := { dst := some 158, op := Op.binOp BinOp.neq 67 (Operand.tmp 150) (Operand.tmp 157) 67, type := 4, pos := "outright.go:237", after := #[{ on := 24, ground := Ground.data }, { on := 31, ground := Ground.data }, { on := 17, ground := Ground.guard }], guard := some (17, true) }) (v := undef) rfl (by kernel_rfl) (by kernel_rfl) (by kernel_rfl) (fun _ _ _ h => h) (Or.inr ⟨by rfl, rfl⟩) (by assumption) ?_
                        simp only [Act.put, List.setIfInBounds_toArray, List.set_cons_zero, List.set_cons_succ]
                        refine wpAnyH_take (i := 33) (oi := { dst := some 159, op := Op.pick (Operand.tmp 143) (Operand.tmp 158) (Operand.const (Value.bool false)), type := 4, pos := "outright.go:237", after := #[{ on := 17, ground := Ground.data }, { on := 32, ground := Ground.data }, { on := 12, ground := Ground.guard }], guard := some (12, false) }) (v := .bool false) rfl (by kernel_rfl) (by kernel_rfl) (by kernel_rfl) (fun _ _ _ h => h) (Or.inl ⟨by rfl, by intro w hSw; go_simp⟩) (by assumption) ?_
                        simp only [Act.put, List.setIfInBounds_toArray, List.set_cons_zero, List.set_cons_succ]
                        refine wpAnyH_take (i := 34) (oi := { dst := some 160, op := Op.pick (Operand.tmp 138) (Operand.const (Value.bool true)) (Operand.tmp 159), type := 4, pos := "outright.go:237", after := #[{ on := 12, ground := Ground.data }, { on := 33, ground := Ground.data }], guard := none }) (v := .bool false) rfl (by kernel_rfl) (by kernel_rfl) (by kernel_rfl) (fun _ _ _ h => h) (Or.inl ⟨by rfl, by intro w hSw; go_simp⟩) (by assumption) ?_
                        simp only [Act.put, List.setIfInBounds_toArray, List.set_cons_zero, List.set_cons_succ]
                        refine wpAnyH_done (by kernel_rfl) ?_ _
                        go_wp2_with fail
                        go_roundw
                        case measure => have := HJl.out; simp [intOf] <;> omega
                        case rel => exact ⟨j + 1, by have := HJl.out; omega, by simp, HD⟩
                    · have hjn : j = N + 40 := by omega
                      subst hjn
                      rw [show ((N + 40 : Nat) : Int) = (N : Int) + 40 from by omega] at *
                      go_wp2_with fail
                      go_roundw
                      case measure => have := HJ.out; simp [intOf] <;> omega
                      case rel => exact ⟨e + 1, by have := HJ.out; omega, by simp, HT⟩
                · have het : e = t := by omega
                  subst het
                  have HOk := hid (HE.out.dn _ HFx.out.1)
                  unfold Rw at HOk
                  simp only at HOk
                  go_upto_region 40 with fail
                  go_wp2_with fail
                  refine (HLs.out _ fa c HE.out.a).mono ?_
                  rintro e' w7 ⟨v7, c7, rfl, ho7, hr7⟩
                  have K7 := hid (HE.out.rd hr7)
                  have HO7 := hid (K7.out.dn _ HFx.out.1)
                  unfold Rw at HO7
                  simp only at HO7
                  obtain ⟨vo7, vc7, hvf, hrow7⟩ := RowAt.of ho7
                  obtain ⟨ko7, kc7, hkf, hrowk⟩ := RowAt.of HO7.out
                  rw [HN.out] at hkf
                  cases hkf
                  subst hvf
                  have HRR := hid (And.intro hrow7 hrowk)
                  clear hrow7 hrowk ho7 hr7 HO7
                  rw [HN.out] at HAl ⊢
                  go_wp2_with (go_at_call 27; refine (HAl.out _ _ _ _ _ HRR.out.1 HRR.out.2).mono ?_; rintro e8 w8 ⟨rfl, hb⟩; have K8 := hid (K7.out.on hb); clear hb)
                  go_ret
                  exact ⟨rfl, K8.out.below⟩
end Go.Proofs.Ytmmphmdmocfnpaa
