/- The document's Owned 78. -/
import Derived.Test.YtajkhkaidjjioaaS2
namespace Go.Proofs.Ytajkhkaidjjioaa
open Go.RowKit
set_option maxHeartbeats 4000000
set_option maxRecDepth 100000
/-- A list of numbers of the call's own. -/
structure Hn (W wr : World) (v : Value) (L : List Nat) : Prop where
  own : wr.ownsRow W.heap.size 3 1 v L.length (ints L)
  below : Below W.heap.size W wr
theorem Hn.start (W : World) : Hn W W (.slice none 0 0) [] := ⟨World.ownsRow_nil _ _ _ _, Below.refl _ _⟩
theorem Hn.on {W w w' : World} {v : Value} {L : List Nat} (h : Hn W w v L) (hb : Below w.heap.size w w') : Hn W w' v L :=
  ⟨⟨h.own.1, h.own.2.imp id fun ⟨g, cap, cur, hv, hB, hg, r⟩ => ⟨g, cap, cur, hv, hB, (hb.block g (Array.getElem?_eq_some_iff.1 hg).1).trans hg, r⟩⟩, below_on h.below hb⟩
theorem Hn.form {W w : World} {v : Value} {L : List Nat} (h : Hn W w v L) : ∃ ao c, v = .slice ao L.length c := by
  rcases h.own.2 with ⟨hv, h0⟩ | ⟨g, cap, cur, hv, r⟩
  · exact ⟨none, 0, by rw [hv, h0]⟩
  · exact ⟨_, cap, hv⟩
theorem wpList_append_n {W w : World} {ops : Array Oper} {rest : List Oper} {o : Oper} {a : Act} {Q : Exit → Act → World → Prop} (hgd : o.guard = none) (s x : Operand)
    (ho : o.op = .call { callee := .builtin .append, args := #[s, x], argTypes := #[45, 45] }) (v : Value) (L : List Nat) (hs : a.eval s = v) (H : Hn W w v L) (ad : Addr) (c k : Nat) (hx : a.eval x = .slice (some ad) 1 c)
    (hsrc : ∀ j u, [Value.int .i64 (k : Int)][j]? = some u → w.cell? (ad.add j) = some u) (hbytes : (L.length + 1) * 8 ≤ 140737488355328)
    (h : ∀ v' w', Hn W w' v' (L ++ [k]) → wpList Try.prog ops Q rest (a.put o.dst v') w') : wpList Try.prog ops Q (o :: rest) a w := by
  obtain ⟨i, hi, hz, hsize, hby⟩ := info_parts info3
  obtain ⟨v', w', hr, h1, h2, _⟩ := run_append_own (P := Try.prog) w W.heap.size 45 o.type 3 i (.int .i64 0) 1 8 under45 hi hz hsize hby rfl (by decide) v L.length _ H.own ad 1 c [.int .i64 (k : Int)] rfl hsrc (by intro u hu; rw [List.mem_singleton] at hu; subst hu; rfl) (by unfold maxLen; omega) hbytes H.below.size
  have hH : Hn W w' v' (L ++ [k]) := ⟨by rw [List.length_append, ints_snoc]; exact h1, H.below.grown h2 H.below.size (fun g hg => (H.own.lt g hg).1)⟩
  refine wpList_plain hgd fun K hK => ?_
  unfold Oper.wp execOp
  simp only [ho, resolve, invoke, builtin, Sem.run_bind, Sem.run_pure, Result.andThen_ok, List.map_toArray, List.map_cons, List.map_nil, hs, hx, hr]
  exact hK _ _ (h _ _ hH)
theorem rowned_any (W : World) (p : Rp) (d : DS) (h : RDB W p d) (s : Int) :
    Calls Try.prog 78 #[ptr p.g, .int .i64 s] W fun x W' => ∃ v, x = .returned v ∧ Hn W W' v (d.owned s) := by
  unfold DS.owned
  have c1 := h.c1
  by_cases hs : d.there s = true
  · obtain ⟨s0, s1, es⟩ := there_lt hs
    have s2 : s < (d.m.ns : Int) := by omega
    obtain ⟨x0, _, _, _, _⟩ := h.row s.toNat s1
    rw [← ent_at hs] at x0
    by_cases ht : (d.ent s).t = 1
    · rw [if_pos ht]
      rw [ht] at x0
      have HW := hid h
      have HN : Hid (d.m.ns ≤ 64) := hid h.ok.n64
      have HR := hid (fun w (hw : RDB w p d) k hk => And.intro hw.c1 (And.intro (hw.row k hk).1 (hw.row k hk).2.1))
      have HC := hid (fun w (hw : RDB w p d) => hw.c1)
      generalize hF : (fun k : Nat => isO s (k : Int) (d.at k)) = F
      have HF : Hid (∀ k, F k = ((k : Int) != s && ((d.at k).o == s && (d.at k).t != 0))) := hid (fun k => by rw [← hF]; rfl)
      clear h hF hs ht
      generalize s.toNat = q at *
      subst es
      generalize d.m.ns = n at *
      simp only [ptr] at *
      have HS0 := hid (Hn.start W)
      go_enter Try.func78, Try.ntmps78
      go_wp2_with fail
      clear x0 c1
      have z1 : decide (n ≤ q) = false := by simpa using s1
      have z2 : decide ((q : Int) < 0) = false := by simp
      simp only [z1, z2, Bool.or_self]
      clear z1 z2
      go_loopw [5, 6] (fun l i wr => ∃ j : Nat, j ≤ n ∧ i = .int .i64 (j : Int) ∧ Hid (Hn W wr l (lstN F j))) (fun _ i _ => n - (intOf i).toNat)
      case atStart => exact ⟨0, Nat.zero_le _, rfl, HS0⟩
      case round =>
        obtain ⟨j, hj, rfl, HQ⟩ := hrel
        clear HS0
        by_cases hlt : j < n
        · have q1 : (j : Int) < (n : Int) := by omega
          obtain ⟨c1, x0, x1⟩ := HR.out _ (HW.out.on HQ.out.below) j hlt
          have hfj := HF.out j
          have HJ := hid hlt
          have hn64 := HN.out
          have j64 : (j : Int) ≤ 64 := by omega
          have HS : Hid (lstN F (j + 1) = lstN F j ++ (if F j = true then [j] else [])) := hid rfl
          generalize d.at j = D at *
          obtain ⟨ao, cc, hvf⟩ := HQ.out.form
          have hll := lstN_len F j
          subst hvf
          by_cases e1 : j = q
          · subst e1
            have : F j = false := by rw [hfj]; simp
            rw [this, if_neg (by decide), List.append_nil] at HS
            clear hfj this hll hn64 hlt hj
            generalize lstN F j = LL at *
            go_wp2_with fail
            go_roundw
            case measure => have := HJ.out; simp [intOf] <;> omega
            case rel => exact ⟨j + 1, HJ.out, by simp, by rw [HS.out]; exact HQ⟩
          · have e1' : ((j : Int) != (q : Int)) = true := by rw [bne_iff_ne]; omega
            by_cases e2 : D.t = 0
            · have : F j = false := by rw [hfj, e2]; simp
              rw [this, if_neg (by decide), List.append_nil] at HS
              rw [e2] at x0
              clear hfj this hll hn64 hlt hj e1 e2
              generalize lstN F j = LL at *
              go_wp2_with fail
              go_roundw
              case measure => have := HJ.out; simp [intOf] <;> omega
              case rel => exact ⟨j + 1, HJ.out, by simp, by rw [HS.out]; exact HQ⟩
            · have e2' : (D.t != 0) = true := by simpa using e2
              by_cases e3 : D.o = (q : Int)
              · have : F j = true := by rw [hfj, e1', e2', e3]; simp
                rw [this, if_pos rfl] at HS
                have HQ1 := hid (HQ.out.on (below_one wr (.cells #[.int .i64 (j : Int)] 3)))
                have hby : ((lstN F j).length + 1) * 8 ≤ 140737488355328 := by omega
                rw [e3] at x1
                clear hfj this hll hn64 hlt hj e1 e2 e3
                generalize lstN F j = LL at *
                go_wp2_with (at_builtin; refine wpList_append_n (W := W) rfl _ _ rfl (.slice ao LL.length cc) LL rfl HQ1.out ⟨wr.heap.size, 0, none⟩ 1 j rfl (Cel.new wr 3 [.int .i64 (j : Int)]).src hby ?_; intro v' w2 H2; obtain ⟨ao2, cc2, rfl⟩ := H2.form; have HN2 := hid H2; clear H2)
                go_roundw
                case measure => have := HJ.out; simp [intOf] <;> omega
                case rel => exact ⟨j + 1, HJ.out, by simp, by rw [HS.out]; have h9 := HN2.out; rw [List.length_append] at h9; exact hid h9⟩
              · have e3' : (D.o == (q : Int)) = false := by simpa using e3
                have : F j = false := by rw [hfj, e3']; simp
                rw [this, if_neg (by decide), List.append_nil] at HS
                clear hfj this hll hn64 hlt hj e1 e2 e3
                generalize lstN F j = LL at *
                go_wp2_with fail
                go_roundw
                case measure => have := HJ.out; simp [intOf] <;> omega
                case rel => exact ⟨j + 1, HJ.out, by simp, by rw [HS.out]; exact HQ⟩
        · have hjn : j = n := by omega
          subst hjn
          have c1 := HC.out _ (HW.out.on HQ.out.below)
          go_wp2_with fail
          go_ret
          exact ⟨_, rfl, HQ.out⟩
    · rw [if_neg ht]
      have ht' : ((d.ent s).t != 1) = true := by simpa using ht
      have ht'' : ((d.ent s).t == 1) = false := by simpa using ht
      have HS0 := hid (Hn.start W)
      generalize d.ent s = D at *
      clear h hs ht
      generalize s.toNat = q at *
      subst es
      generalize d.m.ns = n at *
      simp only [ptr] at *
      go_enter Try.func78, Try.ntmps78
      go_wp2_with fail
      go_ret
      exact ⟨_, rfl, HS0.out⟩
  · have hs' : d.there s = false := by simpa using hs
    have e0 : (d.ent s).t ≠ 1 := by rw [DS.ent_no hs']; decide
    rw [if_neg e0]
    have HS0 := hid (Hn.start W)
    rcases there_cases hs' with hc | ⟨h0, hc⟩
    · clear h hs hs' e0
      generalize d.m.ns = n at *
      simp only [ptr] at *
      go_enter Try.func78, Try.ntmps78
      go_wp2_with fail
      go_ret
      exact ⟨_, rfl, HS0.out⟩
    · clear h hs hs' e0
      generalize d.m.ns = n at *
      simp only [ptr] at *
      go_enter Try.func78, Try.ntmps78
      go_wp2_with fail
      go_ret
      exact ⟨_, rfl, HS0.out⟩
end Go.Proofs.Ytajkhkaidjjioaa
