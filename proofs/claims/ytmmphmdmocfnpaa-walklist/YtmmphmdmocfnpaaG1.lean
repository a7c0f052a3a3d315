/- The document's List 44. -/
import Derived.Test.YtmmphmdmocfnpaaE2
import Derived.Test.YtmmphmdmocfnpaaIt6
import Derived.Test.YtmmphmdmocfnpaaN6
namespace Go.Proofs.Ytmmphmdmocfnpaa
open Go.RowKit
set_option maxHeartbeats 8000000
set_option maxRecDepth 100000
theorem own_but {x x' : World} {B : Nat} {e : TypeId} {st : Nat} {v : Value} {n : Nat} {xs : List Value} {G : List Nat} (h : x.ownsRow B e st v n xs) (hb : ButL G x x') (hG : ∀ k ∈ G, k < B) : x'.ownsRow B e st v n xs :=
  ⟨h.1, h.2.imp id fun ⟨g, cap, cur, hv, hB, hg, r⟩ => ⟨g, cap, cur, hv, hB, (hb.block g (Array.getElem?_eq_some_iff.1 hg).1 (fun hm => by have := hG g hm; omega)).trans hg, r⟩⟩
theorem own_on {x x' : World} {B : Nat} {e : TypeId} {st : Nat} {v : Value} {n : Nat} {xs : List Value} (h : x.ownsRow B e st v n xs) (hb : Below x.heap.size x x') : x'.ownsRow B e st v n xs := own_but (G := []) h (.of hb) (by simp)
structure RL (w x : World) (r : Rf) (m : MS) (v : Value) (A : List (Int × Mp)) : Prop where
  rr : Rr w x r m
  own : x.ownsRow w.heap.size 106 5 v A.length (flat A)
theorem RL.on {w x x' : World} {r : Rf} {m : MS} {v : Value} {A : List (Int × Mp)} (h : RL w x r m v A) (hb : Below x.heap.size x x') : RL w x' r m v A := ⟨h.rr.on hb, own_on h.own hb⟩
theorem RL.step {w x x' : World} {r : Rf} {m m' : MS} {v : Value} {A : List (Int × Mp)} (h : RL w x r m v A) (s : RSt x x' r r m') : RL w x' r m' v A := ⟨h.rr.step s, own_but h.own s.but h.rr.lt⟩
theorem RL.app {w x x' : World} {r : Rf} {m : MS} {v v' : Value} {A : List (Int × Mp)} {y : Int × Mp} (h : RL w x r m v A) (ho : x'.ownsRow w.heap.size 106 5 v' (A.length + 1) (flat A ++ atC y)) (hg : x.grownBy x' v.ownBlock) : RL w x' r m v' (A ++ [y]) := by
  refine ⟨?_, by rw [flat_snoc, List.length_append, List.length_singleton]; exact ho⟩
  cases hv : v.ownBlock with
  | none =>
    rw [hv] at hg
    have hb : ButL [] x x' := ⟨hg.os, hg.tape, hg.output, hg.size, fun k hk _ => hg.block k hk (by simp)⟩
    exact h.rr.on (hb.below (by simp) (Nat.le_refl _))
  | some g =>
    have hb := grown_but (G := [g]) hg (fun b hb => by rw [hv] at hb; simp at hb; simp [hb])
    exact h.rr.set hb (h.own.lt g hv).1
theorem under102 : Try.prog.underlying 102 = some (.slice 106) := by kernel_rfl
theorem info106 : (Try.prog.info? 106).map (fun i => (i.zero, i.size, i.bytes)) = some (some (.agg #[.int .u32 0, .bool false, .int .i64 0, .bool false, .bool false]), 5, 32) := by kernel_rfl
theorem wpList_append_r {w x : World} {ops : Array Oper} {rest : List Oper} {o : Oper} {a : Act} {Q : Exit → Act → World → Prop} (hgd : o.guard = none) (s z : Operand)
    (ho : o.op = .call { callee := .builtin .append, args := #[s, z], argTypes := #[102, 102] }) {r : Rf} {m : MS} (v : Value) (A : List (Int × Mp)) (hs : a.eval s = v) (H : RL w x r m v A) (g : Nat) (y : Int × Mp) (hx : a.eval z = .slice (some ⟨g, 0, none⟩) 1 1)
    (hc : Cel x g 106 (atC y)) (hl : A.length ≤ 1000000)
    (h : ∀ v' x', RL w x' r m v' (A ++ [y]) → wpList Try.prog ops Q rest (a.put o.dst v') x') : wpList Try.prog ops Q (o :: rest) a x := by
  obtain ⟨i, hi, hz, hsize, hby⟩ := info_parts info106
  refine wpList_append_own x hgd s z 102 ho w.heap.size 106 i _ 5 32 under102 hi hz hsize hby rfl (by decide) v A.length (flat A) hs H.own ⟨g, 0, none⟩ 1 1 (atC y) hx rfl hc.src (by intro u hu; simp only [atC, List.mem_cons, List.not_mem_nil, or_false] at hu; rcases hu with rfl | rfl | rfl | rfl | rfl <;> rfl) (by unfold maxLen; omega) (by omega) H.rr.but.size ?_
  intro v' x' h1 h2 _
  exact h v' x' (H.app h1 h2)
theorem f1_no {m : MS} {l i : Int} (hl : 0 ≤ l ∧ l < (m.ns : Int)) (hi : In i) (h : ¬ pfE (m.word true l i) = 0) : ¬ m.f1E l i = 0 := by
  unfold MS.f1E; rw [if_pos (err_sec hl hi), if_neg h]; exact h
theorem f1_far {m : MS} {l i : Int} (hl : 0 ≤ l ∧ l < (m.ns : Int)) (hi : In i) (h : pfE (m.word true l i) = 0) (hq : ¬ pf (m.word true l i) < (m.ns : Int)) : ¬ m.f1E l i = 0 := by
  unfold MS.f1E; rw [if_pos (err_sec hl hi), if_pos h, at_sec, decide_eq_false (fun hh => hq hh.2)]; decide
theorem f1_ok {m : MS} {l i : Int} (hU : m.U) (hl : 0 ≤ l ∧ l < (m.ns : Int)) (hi : In i) (h : pfE (m.word true l i) = 0) (hq : pf (m.word true l i) < (m.ns : Int)) : m.f1E l i = 0 ∧ m.f1 l i = pf (m.word true l i) := by
  have h1 : m.f1E l i = 0 := by
    unfold MS.f1E; rw [if_pos (err_sec hl hi), if_pos h, at_sec, decide_eq_true ⟨pf_nonneg (hU.word true l i).1, hq⟩]; rfl
  exact ⟨h1, by unfold MS.f1; rw [if_pos h1]⟩
theorem f2_eq {m : MS} {p j : Int} (hl : 0 ≤ p ∧ p < (m.ns : Int)) (hj : In j) : (m.f2E p j = 0 ↔ (psE (m.word true p j) = 0 ∧ (m.at (ps (m.word true p j)).s (ps (m.word true p j)).p).isSome = true)) := by
  unfold MS.f2E
  rw [if_pos (err_sec hl hj)]
  by_cases h : psE (m.word true p j) = 0
  · rw [if_pos h]
    cases (m.at (ps (m.word true p j)).s (ps (m.word true p j)).p).isSome <;> simp [h]
  · rw [if_neg h]
    simp [h]
theorem rlist_any (w : World) (r : Rf) (m : MS) (h : RMem w r m) (hU : m.U) (l1 : Int) :
    Calls Try.prog 44 #[ptr r.g, .int .i64 l1] w fun x w' =>
      ((m.at true l1).isSome = false ∧ x = .returned (.tuple #[.slice none 0 0, .int .i64 5]) ∧ RSt w w' r r m) ∨
      ((m.at true l1).isSome = true ∧ ∃ v, x = .returned (.tuple #[v, .int .i64 0]) ∧ w'.ownsRow w.heap.size 106 5 v (m.lst l1 256).length (flat (m.lst l1 256)) ∧ RSt w w' r r (m.wc (m.cn1 l1 m.c 256))) := by
  have HSe := hid (rsecure_any w r m h)
  have HS := hid (fun x (c : Int) (hx : RMem x r (m.wc c)) => rsecure_any x r _ hx)
  have HRd := hid (fun x (c : Int) (hx : RMem x r (m.wc c)) (p j : Int) => rread_any x r (m.wc c) hx true p j)
  have HHa := hid (fun x (c : Int) (hx : RMem x r (m.wc c)) (s : Bool) (p : Int) => rhas_any x r (m.wc c) hx s p)
  have HPf := hid (fun W v => rpf_any W v)
  have HJn := hid (fun W i j => rjoin_any W i j 0)
  have HPs := hid (fun W v h0 h1 => rps_any W v h0 h1)
  have HUw := hid hU
  have HL0 : Hid (RL w w r (m.wc m.c) (.slice none 0 0) []) := hid ⟨Rr.start h, World.ownsRow_nil _ _ _ _⟩
  clear hU
  unfold ptr fr at *
  by_cases hl : 0 ≤ l1 ∧ l1 < (m.ns : Int)
  · have HL := hid hl
    obtain ⟨l0, l2⟩ := hl
    have l3 : ¬ l1 < 0 := by omega
    have l4 : ¬ (m.ns : Int) ≤ l1 := by omega
    go_enter Try.func44, Try.ntmps44
    go_wp2_with (go_at_call 65; refine HSe.out.mono ?_; rintro e w1 ⟨rfl, rfl⟩)
    clear HSe l3 l4 l0 l2
    go_loopw [6, 7] (fun v i wr => ∃ (j : Nat) (u : Value), u = v ∧ j ≤ 256 ∧ i = .int .i64 (j : Int) ∧ Hid (RL w1 wr r (m.wc (m.cn1 l1 m.c j)) u (m.lst l1 j))) (fun _ i _ => 256 - (intOf i).toNat)
    case atStart => exact ⟨0, _, rfl, Nat.zero_le _, rfl, HL0⟩
    case round =>
      obtain ⟨i, u, rfl, hi, rfl, HQ⟩ := hrel
      clear HL0
      by_cases hlt : i < 256
      · have i1 : (i : Int) < 256 := by omega
        have HI : Hid (In (i : Int)) := hid (by unfold In; omega)
        have HRd1 := hid (HRd.out wr _ HQ.out.rr.mem l1 (i : Int))
        rw [show (m.wc (m.cn1 l1 m.c i)).word true l1 (i : Int) = m.word true l1 (i : Int) from rfl, MS.wc_read] at HRd1
        have HN1 : Hid (m.cn1 l1 m.c (i + 1) = if m.f1E l1 (i : Int) = 0 then m.cn2 (m.f1 l1 (i : Int)) ((m.wc (m.cn1 l1 m.c i)).read true l1 (i : Int)).c 1024 else ((m.wc (m.cn1 l1 m.c i)).read true l1 (i : Int)).c) := hid rfl
        have HN2 : Hid (m.lst l1 (i + 1) = m.lst l1 i ++ (if m.f1E l1 (i : Int) = 0 then m.inn (i : Int) (m.f1 l1 (i : Int)) 1024 else [])) := hid rfl
        have HLn := hid (lst_len m l1 i)
        generalize ((m.wc (m.cn1 l1 m.c i)).read true l1 (i : Int)).c = c1 at *
        generalize m.lst l1 i = A at *
        have HW1 := hid (HUw.out.word true l1 (i : Int))
        generalize hw1 : m.word true l1 (i : Int) = v1 at *
        have HV1 := hid hw1
        clear hw1
        go_upto_region 9 with (first | (go_at_call 66; refine HRd1.out.mono ?_; rintro e w2 ⟨rfl, hs2⟩; have H2 := hid (HQ.out.step hs2); clear hs2) | (go_at_call 20; refine (HPf.out _ _).mono ?_; rintro e w3 ⟨rfl, rfl⟩))
        clear HRd1 HQ
        by_cases he : pfE v1 = 0
        · by_cases hq : pf v1 < (m.ns : Int)
          · have hq' : ¬ (m.ns : Int) ≤ pf v1 := by omega
            have HF := hid (f1_ok HUw.out HL.out HI.out (by rw [HV1.out]; exact he) (by rw [HV1.out]; exact hq))
            have HP : Hid (0 ≤ pf v1 ∧ pf v1 < (m.ns : Int)) := hid ⟨pf_nonneg HW1.out.1, hq⟩
            rw [HV1.out] at HF
            rw [if_pos HF.out.1, HF.out.2] at HN1 HN2
            clear hq
            generalize pf v1 = p at *
            go_upto_region 10 with (go_at_call 65; refine (HS.out _ _ H2.out.rr.mem).mono ?_; rintro e w4 ⟨rfl, rfl⟩; simp only [MS.wc])
            clear he hq'
            have HA0 : Hid (RL w1 w4 r (m.wc (m.cn2 p c1 0)) u (A ++ m.inn (i : Int) p 0)) := hid (by rw [MS.inn, List.append_nil]; exact H2.out)
            clear H2
            go_wp2_with fail
            go_loopw [6, 12] (fun v t wr => ∃ (j : Nat) (u : Value), u = v ∧ j ≤ 1024 ∧ t = .int .i64 (j : Int) ∧ Hid (RL w1 wr r (m.wc (m.cn2 p c1 j)) u (A ++ m.inn (i : Int) p j))) (fun _ t _ => 1024 - (intOf t).toNat)
            case atStart => exact ⟨0, _, rfl, Nat.zero_le _, rfl, HA0⟩
            case round =>
              obtain ⟨j, u, rfl, hj, rfl, HT⟩ := hrel
              clear HA0
              by_cases hjt : j < 1024
              · have j1 : (j : Int) < 1024 := by omega
                have HJ : Hid (In (j : Int)) := hid (by unfold In; omega)
                have HRd2 := hid (HRd.out wr _ HT.out.rr.mem p (j : Int))
                rw [show (m.wc (m.cn2 p c1 j)).word true p (j : Int) = m.word true p (j : Int) from rfl, MS.wc_read] at HRd2
                have HN3 : Hid (m.cn2 p c1 (j + 1) = ((m.wc (m.cn2 p c1 j)).read true p (j : Int)).c) := hid rfl
                have HN4 : Hid (A ++ m.inn (i : Int) p (j + 1) = (A ++ m.inn (i : Int) p j) ++ (if m.f2E p (j : Int) = 0 then [(jW (i : Int) (j : Int) 0, m.f2 p (j : Int))] else [])) := hid (by rw [List.append_assoc]; rfl)
                have HLm : Hid ((A ++ m.inn (i : Int) p j).length ≤ 1000000) := hid (by rw [List.length_append]; have := HLn.out; have := inn_len m (i : Int) p j; omega)
                have HF2 := hid (f2_eq (m := m) HP.out HJ.out)
                have HZ2 : Hid (m.f2E p (j : Int) = 0 → m.f2 p (j : Int) = ps (m.word true p (j : Int))) := hid (fun h => by unfold MS.f2; rw [if_pos h])
                have HW2 := hid (HUw.out.word true p (j : Int))
                have HPs2 := hid (fun W => HPs.out W _ HW2.out.1 HW2.out.2)
                generalize ((m.wc (m.cn2 p c1 j)).read true p (j : Int)).c = c2 at *
                generalize A ++ m.inn (i : Int) p j = AA at *
                generalize m.word true p (j : Int) = v2 at *
                have HHa2 := hid (fun x (hx : RMem x r (m.wc c2)) => HHa.out x c2 hx (ps v2).s (ps v2).p)
                rw [show (m.wc c2).at (ps v2).s (ps v2).p = m.at (ps v2).s (ps v2).p from rfl] at HHa2
                generalize hh : (m.at (ps v2).s (ps v2).p).isSome = hb at *
                clear hh
                generalize psE v2 = ep at *
                generalize hpq : ps v2 = q at *
                clear hpq
                obtain ⟨qs, qp, qw, qx⟩ := q
                unfold Mp.v at HPs2
                simp only at HPs2 HHa2
                go_upto_region 14 with (go_at_call 66; refine HRd2.out.mono ?_; rintro e w5 ⟨rfl, hs5⟩; have H5 := hid (HT.out.step hs5); clear hs5)
                clear HRd2 HT
                go_wp2_with fail
                refine (HPs2.out _).mono ?_
                rintro e w6 ⟨rfl, hb6⟩
                have H6 := hid ((H5.out.on hb6).on (below_one _ (.cells #[.bool qs, .int .i64 qp, .bool qw, .bool qx] 41)))
                have HC6 := hid (Cel.new w6 41 [.bool qs, .int .i64 qp, .bool qw, .bool qx])
                clear hb6 H5
                go_upto_region 15 with fail
                generalize hX6 : World.alloc _ _ = x6 at *
                clear hX6
                generalize w6.heap.size = g13 at *
                have b0 := HC6.out.cell 0
                have b1 := HC6.out.cell 1
                have b2 := HC6.out.cell 2
                have b3 := HC6.out.cell 3
                simp only [List.getElem?_cons_zero, List.getElem?_cons_succ] at b0 b1 b2 b3
                by_cases hep : ep = 0
                · subst hep
                  cases hb
                  · have HNo : Hid (¬ m.f2E p (j : Int) = 0) := hid (by rw [HF2.out]; simp)
                    go_wp2_with (go_at_call 67; refine (HHa2.out _ H6.out.rr.mem).mono ?_; rintro e w7 ⟨rfl, hb7⟩; have H7 := hid (H6.out.on hb7); clear hb7)
                    go_roundw
                    case measure => simp [intOf] <;> omega
                    case rel => exact ⟨j + 1, _, rfl, by omega, by simp, hid (by rw [HN3.out, HN4.out, if_neg HNo.out, List.append_nil]; exact H7.out)⟩
                  · have HYes : Hid (m.f2E p (j : Int) = 0) := hid (by rw [HF2.out]; simp)
                    have HZ3 := hid (HZ2.out HYes.out)
                    go_upto_region 17 with (go_at_call 67; refine (HHa2.out _ H6.out.rr.mem).mono ?_; rintro e w7 ⟨rfl, hb7⟩; have H7 := hid (H6.out.on hb7); have HC7 := hid (HC6.out.on hb7); clear hb7)
                    clear b0 b1 b2 b3 H6 HC6
                    have b0 := HC7.out.cell 0
                    have b1 := HC7.out.cell 1
                    have b2 := HC7.out.cell 2
                    have b3 := HC7.out.cell 3
                    simp only [List.getElem?_cons_zero, List.getElem?_cons_succ] at b0 b1 b2 b3
                    go_upto_region 18 with (go_at_call 18; refine (HJn.out _ _ _).mono ?_; rintro e w8 ⟨rfl, rfl⟩)
                    generalize hjw : jW (i : Int) (j : Int) 0 = va at *
                    clear hjw
                    have H8 := hid (H7.out.on (below_one _ (.cells #[.int .u32 va, .bool qs, .int .i64 qp, .bool qw, .bool qx] 106)))
                    have HC8 := hid (Cel.new w8 106 (atC (va, ⟨qs, qp, qw, qx⟩)))
                    go_wp2_with (at_builtin; refine wpList_append_r rfl _ _ rfl u AA rfl H8.out w8.heap.size (va, ⟨qs, qp, qw, qx⟩) rfl HC8.out HLm.out ?_; intro v9 w9 h9; have H9 := hid h9; clear h9)
                    go_roundw
                    case measure => simp [intOf] <;> omega
                    case rel => exact ⟨j + 1, _, rfl, by omega, by simp, hid (by rw [HN3.out, HN4.out, if_pos HYes.out, HZ3.out]; exact H9.out)⟩
                · have HNo : Hid (¬ m.f2E p (j : Int) = 0) := hid (by rw [HF2.out]; exact fun h => hep h.1)
                  have hep' : (ep == 0) = false := by simpa using hep
                  clear hep
                  go_wp2_with fail
                  go_roundw
                  case measure => simp [intOf] <;> omega
                  case rel => exact ⟨j + 1, _, rfl, by omega, by simp, hid (by rw [HN3.out, HN4.out, if_neg HNo.out, List.append_nil]; exact H6.out)⟩
              · have hjn : j = 1024 := by omega
                subst hjn
                rw [show ((1024 : Nat) : Int) = 1024 from rfl] at *
                go_wp2_with fail
                go_roundw
                case measure => simp [intOf] <;> omega
                case rel => exact ⟨i + 1, _, rfl, by omega, by simp, hid (by rw [HN1.out, HN2.out]; exact HT.out)⟩
          · have hq' : (m.ns : Int) ≤ pf v1 := by omega
            have HF := hid (f1_far HL.out HI.out (by rw [HV1.out]; exact he) (by rw [HV1.out]; exact hq))
            rw [if_neg HF.out] at HN1 HN2
            clear hq
            go_wp2_with (go_at_call 65; refine (HS.out _ _ H2.out.rr.mem).mono ?_; rintro e w4 ⟨rfl, rfl⟩; simp only [MS.wc])
            go_roundw
            case measure => simp [intOf] <;> omega
            case rel => exact ⟨i + 1, _, rfl, by omega, by simp, hid (by rw [HN1.out, HN2.out, List.append_nil]; exact H2.out)⟩
        · have HF := hid (f1_no HL.out HI.out (by rw [HV1.out]; exact he))
          rw [if_neg HF.out] at HN1 HN2
          have he' : (pfE v1 != 0) = true := by simpa using he
          clear he
          go_wp2_with fail
          go_roundw
          case measure => simp [intOf] <;> omega
          case rel => exact ⟨i + 1, _, rfl, by omega, by simp, hid (by rw [HN1.out, HN2.out, List.append_nil]; exact H2.out)⟩
      · have hin : i = 256 := by omega
        subst hin
        rw [show ((256 : Nat) : Int) = 256 from rfl] at *
        have HAt : Hid ((m.at true l1).isSome = true) := hid (by rw [at_sec, decide_eq_true HL.out])
        go_wp2_with fail
        go_ret2
        exact .inr ⟨HAt.out, u, rfl, HQ.out.own, HQ.out.rr.st⟩
  · have HAt : Hid ((m.at true l1).isSome = false) := hid (by rw [at_sec, decide_eq_false hl])
    have hl' : l1 < 0 ∨ (0 ≤ l1 ∧ (m.ns : Int) ≤ l1) := by omega
    have HR := hid (RSt.of h (Below.refl _ _))
    clear hl h
    rcases hl' with hl | ⟨l0, hl⟩
    · go_enter Try.func44, Try.ntmps44
      go_wp2_with fail
      go_ret2
      exact .inl ⟨HAt.out, rfl, HR.out⟩
    · have l3 : ¬ l1 < 0 := by omega
      go_enter Try.func44, Try.ntmps44
      go_wp2_with (go_at_call 65; refine HSe.out.mono ?_; rintro e w1 ⟨rfl, rfl⟩)
      go_ret2
      exact .inl ⟨HAt.out, rfl, HR.out⟩
end Go.Proofs.Ytmmphmdmocfnpaa
