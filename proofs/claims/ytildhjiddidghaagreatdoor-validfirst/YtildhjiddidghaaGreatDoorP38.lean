import Derived.Test.YtildhjiddidghaaGreatDoorP37
import Derived.Test.YtildhjiddidghaaGreatDoorP26
namespace Go.Proofs.YtildhjiddidghaaGreatDoor
open Go.RowKit
set_option maxHeartbeats 4000000
set_option maxRecDepth 100000
theorem state_new {X w1 w2 w3 w4 : World} {f : Fp} {r : Rf} {g gw : Nat} {q : Rp} {m : MS} {d : DS} (h1 : NewMem X w1 f m) (hd : DB w2 ⟨g, gw, f⟩ d) (hg : w1.heap.size ≤ g) (hgw : w1.heap.size ≤ gw) (hb : ButL f.w w1 w2) (h2 : NewR w2 w3 r m) (hn : NewD w3 w4 r q d) :
    SS X (w4.alloc (.cells #[.pointer (some ⟨f.gm, 0, none⟩), .pointer (some ⟨g, 0, none⟩), .pointer (some ⟨q.g, 0, none⟩)] 34)) w4.heap.size ⟨g, gw, f⟩ q d d := by
  have s1 := h1.below.size
  have s2 := hb.size
  have s3 := h2.below.size
  have s4 := hn.but.size
  have hpall : ∀ k ∈ (Dp.mk g gw f).all, k = g ∨ k = gw ∨ k ∈ f.all := fun k hk => by
    simpa only [Dp.all, List.mem_cons] using hk
  have hball : ∀ k ∈ q.all, k = q.g ∨ k = q.ge ∨ k ∈ q.r.all := fun k hk => by
    simpa only [Rp.all, List.mem_cons] using hk
  have hpl := hd.lt
  have hoff : ∀ k ∈ (Dp.mk g gw f).all, k ∉ r.all := fun k hk hm => by
    have := hpl k hk
    have := h2.new k hm
    omega
  have hq : ∀ k ∈ q.all, w2.heap.size ≤ k := fun k hk => by
    rcases hball k hk with rfl | rfl | hk
    · have := hn.g; omega
    · have := hn.ge; omega
    · rcases hn.sub k hk with hk | hk
      · exact h2.new k hk
      · omega
  have b1 : Below X.heap.size X w2 := h1.below.trans (hb.below (B := X.heap.size) (fun k hk => h1.new k (Fp.w_all hk)) s1)
  have b3 : Below X.heap.size X w3 := below_on b1 h2.below
  have b4 : Below X.heap.size X w4 := b3.trans (hn.but.below (B := X.heap.size) (fun k hk => by have := h2.new k hk; omega) b3.size)
  have ho := (hd.on h2.below).frame hn.but hoff
  have ha := below_one w4 (.cells #[.pointer (some ⟨f.gm, 0, none⟩), .pointer (some ⟨g, 0, none⟩), .pointer (some ⟨q.g, 0, none⟩)] 34)
  refine ⟨ho.on ha, hn.db.on ha, fun k hk hm => ?_, Cel.new w4 34 [.pointer (some ⟨f.gm, 0, none⟩), .pointer (some ⟨g, 0, none⟩), .pointer (some ⟨q.g, 0, none⟩)], b4.size, fun k hk => ?_, fun k hk => ?_, below_on b4 ha⟩
  · have := hpl k hk; have := hq k hm; omega
  · rcases hpall k hk with rfl | rfl | hk
    · omega
    · omega
    · exact h1.new k hk
  · have := hq k hk; omega
def DS.begun (a b : Int) : DS := DS.fresh (MS.new (sz a) (sz b))
theorem begun_l (W : World) (a b : Int) :
    Calls Tryz.prog 9 #[.int .i64 a, .int .i64 b] W fun e w' => ∃ g p r, e = .returned (.pointer (some ⟨g, 0, none⟩)) ∧ SS W w' g p r (DS.begun a b) (DS.begun a b) := by
  have ra := sz_rg a
  have rb := sz_rg b
  have HSa := hid (fun w => size_l w a)
  have HSb := hid (fun w => size_l w b)
  have H1 := hid (fun w => new_any w (sz a) (sz b) ra.1 (by omega) rb.1 (by omega))
  have H2 := hid (fun w => rnew_any w (sz a) (sz b) ra.1 (by omega) rb.1 (by omega))
  have H3 := hid (fun w f (hm : Mem w f (MS.new (sz a) (sz b))) => newDB_any w f _ hm (by show sz a ≤ 64; omega))
  have H4 := hid (fun w r (hm : RMem w r (MS.new (sz a) (sz b))) => rnewDB_any w r _ hm (by show sz a ≤ 64; omega) (by show 0 < sz a; omega))
  have HNm := hid (fun w x => num_l w x)
  unfold DS.begun
  clear ra rb
  generalize hd : DS.fresh (MS.new (sz a) (sz b)) = d at *
  clear hd
  generalize MS.new (sz a) (sz b) = m at *
  generalize sz a = sa at *
  generalize sz b = sb at *
  simp only [ptr] at *
  go_enter Tryz.func9, Tryz.ntmps9
  go_upto_region 4 with (first | (go_at_call 27; first | (refine (HSa.out _).mono ?_; rintro e wx ⟨rfl, hw⟩; subst wx) | (refine (HSb.out _).mono ?_; rintro e wx ⟨rfl, hw⟩; subst wx)) | (go_at_call 26; refine (H1.out _).mono ?_; rintro e w1 ⟨f, rfl, h1⟩; have N1 := hid h1; clear h1) | (go_at_call 25; refine (HNm.out _ _).mono ?_; rintro e wx ⟨rfl, hw⟩; subst wx))
  go_upto_region 7 with (go_at_call 28; refine (H3.out _ _ N1.out.mem).mono ?_; rintro e w2 ⟨g, gw, rfl, hd, hg, hgw, hb⟩; have N2 := hid (And.intro hd (And.intro hg (And.intro hgw hb))); clear hd hg hgw hb)
  go_upto_region 8 with (first | (go_at_call 27; first | (refine (HSa.out _).mono ?_; rintro e wx ⟨rfl, hw⟩; subst wx) | (refine (HSb.out _).mono ?_; rintro e wx ⟨rfl, hw⟩; subst wx)) | (go_at_call 29; refine (H2.out _).mono ?_; rintro e w3 ⟨r, rfl, h2⟩; have N3 := hid h2; clear h2))
  go_wp2_with (go_at_call 30; refine (H4.out _ _ N3.out.mem).mono ?_; rintro e w4 ⟨q, rfl, hn⟩; have N4 := hid (state_new N1.out N2.out.1 N2.out.2.1 N2.out.2.2.1 N2.out.2.2.2 N3.out hn); clear hn)
  go_ret
  exact ⟨_, _, _, rfl, N4.out⟩
end Go.Proofs.YtildhjiddidghaaGreatDoor
