/- The document's New 36. -/
import Derived.Test.YtajkhkaidjjioaaS8
import Derived.Test.YtajkhkaidjjioaaS1
namespace Go.Proofs.Ytajkhkaidjjioaa
open Go.RowKit
set_option maxHeartbeats 4000000
set_option maxRecDepth 100000
theorem rsecure_g (w : World) (r : Rf) (m : MS) (h : RMem w r m) (g : Nat) (hg : r.g = g) : Calls Try.prog 67 #[.pointer (some ⟨g, 0, none⟩)] w fun x w' => x = .returned (.int .i64 (m.ns : Int)) ∧ w' = w := by
  subst hg
  exact rsecure_any w r m h
theorem rzero_g (w : World) (r : Rf) (m : MS) (h : RMem w r m) (g : Nat) (hg : r.g = g) (s : Bool) (p : Int) : Calls Try.prog 68 #[.pointer (some ⟨g, 0, none⟩), fr s p] w fun x w' => x = .returned (.int .i64 (m.perr s p)) ∧ ∃ r', RSt w w' r r' (m.zero s p) := by
  subst hg
  exact rzero_any w r m h s p
theorem rnewDB_nil (W : World) : Calls Try.prog 36 #[.pointer none] W fun e W' => e = .returned (.pointer none) ∧ W = W' := by
  go_enter Try.func36, Try.ntmps36
  go_wp2_with fail
  go_ret
  exact ⟨rfl, rfl⟩
theorem own_form5 {w : World} {B : Nat} {v : Value} {n : Nat} {L : List Value} (h : w.ownsRow B 124 5 v n L) : ∃ ao c, v = .slice ao n c := by
  rcases h.2 with ⟨hv, h0⟩ | ⟨g, cap, cur, hv, r⟩
  · exact ⟨none, 0, by rw [hv, h0]⟩
  · exact ⟨_, cap, hv⟩
structure NewD (W w : World) (r : Rf) (p : Rp) (d : DS) : Prop where
  db : RDB w p d
  g : W.heap.size ≤ p.g
  ge : W.heap.size ≤ p.ge
  rg : p.r.g = r.g
  but : ButL r.all W w
  sub : ∀ k ∈ p.r.all, k ∈ r.all ∨ W.heap.size ≤ k
theorem rnewDB_any (W : World) (r : Rf) (m : MS) (h : RMem W r m) (h64 : m.ns ≤ 64) (h0 : 0 < m.ns) :
    Calls Try.prog 36 #[ptr r.g] W fun e W' => ∃ p, e = .returned (ptr p.g) ∧ NewD W W' r p (DS.fresh m) := by
  have HS0 : Hid (RN W (W.alloc (.cells #[.pointer (some ⟨r.g, 0, none⟩), .slice none 0 0, .int .i64 0] 80)) r W.heap.size (.slice none 0 0) r [] 0 m) := hid
    ⟨World.ownsRow_nil _ _ _ _, Cel.new W 80 [.pointer (some ⟨r.g, 0, none⟩), .slice none 0 0, .int .i64 0], Nat.le_refl _, h.on (below_one _ _), .of (below_one _ _), fun k hk => .inl hk⟩
  have HN : Hid (m.ns ≤ 64) := hid h64
  have HZ0 : Hid (0 < m.ns) := hid h0
  have HZN : Hid (∀ k, (m.zall k).ns = m.ns) := hid (fun k => m.zall_ns k)
  have HFr := hid (fun w (p : Int) => rframe_any w p)
  clear h h64 h0
  simp only [ptr] at *
  go_enter Try.func36, Try.ntmps36
  go_wp2_with fail
  generalize W.alloc _ = X at *
  have HG : Hid (W.heap.size = W.heap.size) := hid rfl
  generalize hg : W.heap.size = g at *
  have HGG := hid hg
  clear hg HG
  go_loopw [4] (fun i wr => ∃ (j : Nat) (v : Value) (r' : Rf), j ≤ m.ns ∧ i = .int .i64 (j : Int) ∧ Hid (RN W wr r g v r' (List.replicate j En.zero) 0 (m.zall j) ∧ r'.g = r.g)) (fun i _ => m.ns - (intOf i).toNat)
  case atStart => exact ⟨0, _, r, Nat.zero_le _, rfl, hid ⟨HS0.out, rfl⟩⟩
  case round =>
    obtain ⟨j, v, r', hj, rfl, HQ⟩ := hrel
    clear HS0
    have HSc := hid (rsecure_g _ _ _ HQ.out.1.mem r.g HQ.out.2)
    rw [HZN.out] at HSc
    by_cases hlt : j < m.ns
    · have q1 : (j : Int) < (m.ns : Int) := by omega
      have HJ := hid hlt
      have hn64 := HN.out
      have j64 : (j : Int) ≤ 64 := by omega
      have j1000 : (List.replicate j En.zero).length ≤ 1000 := by rw [List.length_replicate]; omega
      have HR : Hid (List.replicate j En.zero ++ [En.zero] = List.replicate (j + 1) En.zero) := hid (by rw [List.replicate_succ'])
      have HM : Hid ((m.zall j).zero true (j : Int) = m.zall (j + 1)) := hid rfl
      clear hn64 hlt hj
      obtain ⟨m2, hm2⟩ : ∃ m2, m2 = m.zall (j + 1) := ⟨_, rfl⟩
      obtain ⟨E2, hE2⟩ : ∃ E2, E2 = List.replicate (j + 1) En.zero := ⟨_, rfl⟩
      rw [← hm2] at HM
      rw [← hE2] at HR
      have HME := hid (And.intro hm2 hE2)
      clear hm2 hE2
      generalize m.zall j = m1 at *
      generalize List.replicate j En.zero = E1 at *
      go_upto_region 8 with (first | (go_at_call 67; refine HSc.out.mono ?_; rintro e w0 ⟨rfl, rfl⟩) | (go_at_call 69; refine (HFr.out _ _).mono ?_; rintro e w1 ⟨rfl, hb⟩; have HQ1 := hid (And.intro (HQ.out.1.on hb) HQ.out.2); clear hb) | (go_at_call 68; refine (rzero_g _ _ _ HQ1.out.1.mem r.g HQ1.out.2 true (j : Int)).mono ?_; rintro e w2 ⟨rfl, r2, hs⟩; have HQ2 := hid (And.intro (HQ1.out.1.st hs) (hs.g.trans HQ1.out.2)); clear hs))
      rw [HM.out] at HQ2
      have y0 := HQ2.out.1.cel.cell 1
      simp only [List.getElem?_cons_zero, List.getElem?_cons_succ] at y0
      have HQ3 := hid (HQ2.out.1.on (below_one w2 (.cells En.zero.cs.toArray 124)))
      have HGR := hid HQ2.out.2
      have hfm := own_form5 HQ2.out.1.own
      obtain ⟨ao, cc, rfl⟩ := hfm
      have HBB := hid HQ3.out.but.size
      clear HQ2
      go_wp2_with (first | (refine wpList_build_zR rfl rfl ?_) | (at_builtin; refine wpList_append_e (B := W.heap.size) rfl _ _ rfl (.slice ao E1.length cc) E1 rfl HQ3.out.own HBB.out ⟨w2.heap.size, 0, none⟩ 1 En.zero rfl (Cel.new w2 124 En.zero.cs).src j1000 ?_; intro v' w3 h3 hgr; rw [HR.out] at h3; obtain ⟨ao9, cc9, rfl⟩ := own_form5 h3; obtain ⟨hq4, y1, y2⟩ := HQ3.out.snoc h3 hgr; have HQ4 := hid hq4; clear hq4 h3 hgr))
      go_roundw
      case measure => have := HJ.out; simp [intOf] <;> omega
      case rel => exact ⟨j + 1, _, _, HJ.out, by simp, hid ⟨by rw [← HME.out.1, ← HME.out.2]; exact HQ4.out, HGR.out⟩⟩
    · have hjn : j = m.ns := by omega
      subst hjn
      go_wp2_with (go_at_call 67; refine HSc.out.mono ?_; rintro e w0 ⟨rfl, rfl⟩)
      go_ret
      obtain ⟨ge, cap, hdb, hge⟩ := HQ.out.1.done (by rw [HZN.out]; exact HZ0.out) (by rw [HZN.out, List.length_replicate]) (zed_ok m m.ns HN.out)
      exact ⟨⟨g, ge, cap, r'⟩, rfl, hdb, HQ.out.1.hg, hge, HQ.out.2, HQ.out.1.but, HQ.out.1.sub⟩
end Go.Proofs.Ytajkhkaidjjioaa
