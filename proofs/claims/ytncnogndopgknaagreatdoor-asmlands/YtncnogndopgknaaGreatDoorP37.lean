import Derived.Test.YtncnogndopgknaaGreatDoorP36
import Derived.Test.YtncnogndopgknaaGreatDoorP01
namespace Go.Proofs.YtncnogndopgknaaGreatDoor
open Go.RowKit
set_option maxRecDepth 40000
set_option maxHeartbeats 4000000
theorem Tryz.info3 : (Tryz.prog.info? 3).map (fun i => (i.zero, i.size, i.bytes)) = some (some (.int .i64 0), 1, 8) := by kernel_rfl
def plcM (ps : List Pie) (m k : Nat) : List Value := (List.range m).map fun j => .int .i64 (if j < k then (S.plc ps j : Int) else 0)
theorem plcM_zero (ps : List Pie) (m : Nat) : plcM ps m 0 = List.replicate m (.int .i64 0) := by
  unfold plcM
  simp [List.map_const']
theorem plcM_set (ps : List Pie) (m k : Nat) : (plcM ps m k).set k (.int .i64 (S.plc ps k : Int)) = plcM ps m (k + 1) := by
  unfold plcM
  apply List.ext_getElem (by simp)
  intro j h1 h2
  rw [List.getElem_set]
  simp only [List.getElem_map, List.getElem_range]
  split
  · rename_i h
    subst h
    rw [if_pos (by omega)]
  · by_cases h : j < k
    · rw [if_pos h, if_pos (by omega)]
    · rw [if_neg h, if_neg (by omega)]
theorem plcM_all (ps : List Pie) (m : Nat) : plcM ps m m = plcC ps m := by
  unfold plcM plcC
  apply List.ext_getElem (by simp)
  intro j h1 h2
  simp only [List.length_map, List.length_range] at h1
  simp only [List.getElem_map, List.getElem_range]
  rw [if_pos h1]
def PcAt (w : World) (ao : Option Addr) (ps : List Pie) : Prop := ps = [] ∨ ∃ b o, ao = some ⟨b, o, none⟩ ∧ b < w.heap.size ∧ ∀ i, i < ps.length → w.rangeAt b (o + i * 5) (pieC (ps.getD i S.p0))
theorem PcAt.on {W w : World} {ao : Option Addr} {ps : List Pie} (h : PcAt W ao ps) (hb : Below W.heap.size W w) : PcAt w ao ps := by
  rcases h with h0 | ⟨b, o, e, hlt, hc⟩
  · exact .inl h0
  · exact .inr ⟨b, o, e, Nat.lt_of_lt_of_le hlt hb.size, fun i hi j v hv => by rw [hb.cell (p := ⟨b, o + i * 5 + j, none⟩) hlt]; exact hc i hi j v hv⟩
theorem plcM_get (ps : List Pie) (m k j : Nat) (h : j < m) (hk : k ≤ j) : (plcM ps m k)[j]? = some (.int .i64 0) := by
  unfold plcM
  rw [List.getElem?_map, List.getElem?_range h]
  show some (Value.int .i64 (if j < k then (S.plc ps j : Int) else 0)) = _
  rw [if_neg (by omega)]
theorem labsC_get : ∀ (l : List (List UInt8 × Nat)) (i : Nat) (x : List UInt8 × Nat), l[i]? = some x → ∀ (j : Nat) (v : Value), (labC x)[j]? = some v → (labsC l)[i * 2 + j]? = some v
  | [], i, x, h, _, _, _ => by simp at h
  | y :: l, 0, x, h, j, v, hv => by
    simp at h
    subst h
    show (labC y ++ labsC l)[0 * 2 + j]? = _
    rw [Nat.zero_mul, Nat.zero_add, List.getElem?_append_left (by
      rcases Nat.lt_or_ge j (labC y).length with h | h
      · exact h
      · rw [List.getElem?_eq_none h] at hv; cases hv)]
    exact hv
  | y :: l, i + 1, x, h, j, v, hv => by
    have ih := labsC_get l i x (by simpa using h) j v hv
    show (labC y ++ labsC l)[(i + 1) * 2 + j]? = _
    rw [List.getElem?_append_right (by show 2 ≤ _; omega), show (i + 1) * 2 + j - (labC y).length = i * 2 + j by show (i + 1) * 2 + j - 2 = _; omega]
    exact ih
theorem bytes_eq {a b : ByteArray} (h : a.data.toList = b.data.toList) : a = b := by cases a; cases b; simp at h; rw [h]
theorem str_eq {a b : ByteArray} (h : a.data.toList = b.data.toList) : Value.string a = .string b := by rw [bytes_eq h]
theorem lands_any (W : World) (h : AW W) (hT : TB W) (ao : Option Addr) (m n c : Nat) (hmc : m ≤ c) (hsel : m ≤ 300 ∧ n = m ∨ 300 < m ∧ n = 300) (ps : List Pie) (hl : ps.length = n) (hp : S.PsOk ps) (hat : PcAt W ao ps) (base : Nat) (hb : base < 4294967296) :
    Calls Tryz.prog 4 #[.slice ao m c, .int .u32 (base : Int)] W fun x w' => x = .returned (.bool true) ∧ Below W.heap.size W w' := by
  obtain ⟨i3, hi3, hz3, hs3, hb3⟩ := info_parts Tryz.info3
  have H8 := hid (first_any W h)
  have n1 : (n : Int) ≤ 300 := by have := hp.len; omega
  have HN : Hid (ps.length = n ∧ n ≤ 300) := hid ⟨hl, by omega⟩
  have HPc := hid (fun x (hx : Below W.heap.size W x) => hat.on hx)
  have HL : Hid (∀ x, Below W.heap.size W x → ∀ i, i < n → Calls Tryz.prog 11 #[pieV (ps.getD i S.p0), .int .i64 (n : Int)] x fun e w' => e = .returned (.tuple #[.string ⟨(S.txtP (ps.getD i S.p0) n).toArray⟩, .int .i64 (S.szp (ps.getD i S.p0) : Int)]) ∧ Below x.heap.size x w') := hid (fun x hx i hi => pline_any x (hT.on hx) _ (hp.v i) n (by omega))
  have HNm : Hid (∀ x, Below W.heap.size W x → ∀ i, i ≤ n → Calls Tryz.prog 12 #[.int .i64 (i : Int)] x fun e w' => e = .returned (.string ⟨(S.nmp i).toArray⟩) ∧ Below x.heap.size x w') := hid (fun x hx i hi => pname_any x (hT.on hx).p i (by omega))
  have HPs := hid hp
  have HTB := hid (fun x (hx : Below W.heap.size W x) => hT.on hx)
  have H9 : Hid (∀ x, Below W.heap.size W x → ∀ t : ByteArray, t.data.toList = S.src ps → Calls Tryz.prog 9 #[.string t, .int .u32 (base : Int)] x fun y w' => ∃ a c', y = .returned (.tuple #[.slice a (S.plc ps n) c', .agg #[.int .i64 0, .int .i64 0, .int .i64 0]]) ∧ UAt w' a (S.FW ps base n) ∧ Below x.heap.size x w') := hid (fun x hx t ht => by
    have h0 := asm_call x (h.on hx) t base hb
    rw [ht, S.asm_src hp base, hl] at h0
    refine h0.mono ?_
    rintro e w' ⟨v, rfl, hown, hb'⟩
    obtain ⟨a, c', rfl⟩ := own_form hown
    exact ⟨a, c', by show _ = Ending.returned (.tuple #[.slice a (S.plc ps n) c', _]); rw [← S.FW_len ps base n], own_at hown, hb'⟩)
  have H13 : Hid (∀ x, Below W.heap.size W x → ∀ t : ByteArray, t.data.toList = S.src ps → Calls Tryz.prog 13 #[.string t] x fun y w' => ∃ g c', y = .returned (.tuple #[.slice (some ⟨g, 0, none⟩) (n + 1) c', .agg #[.int .i64 0, .int .i64 0, .int .i64 0]]) ∧ (g < w'.heap.size ∧ ∀ i, i ≤ n → w'.cell? ⟨g, i * 2, none⟩ = some (.string ⟨(S.nmp i).toArray⟩) ∧ w'.cell? ⟨g, i * 2 + 1, none⟩ = some (.int .i64 (S.plc ps i : Int))) ∧ Below x.heap.size x w') := hid (fun x hx t ht => by
    have h0 := labels_any x (h.on hx) t (S.FW ps 0 ps.length, S.LB ps (ps.length + 1)) (by rw [ht, S.asm_src hp 0])
    rw [hl] at h0
    refine h0.mono ?_
    rintro e w' ⟨v, rfl, hown, hb'⟩
    simp only [S.LB_len] at hown
    have hc : ∀ i, i ≤ n → ∀ j v, (labC (S.nmp i, S.plc ps i))[j]? = some v → (labsC (S.LB ps (n + 1)))[i * 2 + j]? = some v := fun i hi j v hv => labsC_get (S.LB ps (n + 1)) i (S.nmp i, S.plc ps i) (S.LB_get ps i (n + 1) (by omega)) j v hv
    rcases hown.2 with ⟨_, hz⟩ | ⟨g, cap, cur, rfl, _, hg, _⟩
    · omega
    · refine ⟨g, cap, rfl, ⟨(Array.getElem?_eq_some_iff.1 hg).1, fun i hi => ⟨?_, ?_⟩⟩, hb'⟩
      · have := hown.cells (g := g) rfl (i * 2) _ (hc i hi 0 _ rfl)
        rw [Addr.add_mid, Nat.zero_add] at this
        exact this
      · have := hown.cells (g := g) rfl (i * 2 + 1) _ (hc i hi 1 _ rfl)
        rw [Addr.add_mid, Nat.zero_add] at this
        exact this)
  clear hT hat hl hp
  go_enter Tryz.func4, Tryz.ntmps4
  go_upto_if 21 with (go_at_call 8; refine H8.out.mono ?_; rintro e w0 ⟨rfl, hb0⟩; have B0 := hid hb0; clear hb0)
  go_cut [0] from 22 to 23 (fun v wx => v = .slice ao n c ∧ w0 = wx)
  case first =>
    rcases hsel with ⟨h1, rfl⟩ | ⟨h1, rfl⟩
    · have m1 : (n : Int) ≤ 300 := by omega
      go_wp2_with fail
      go_meet
      exact ⟨rfl, rfl⟩
    · have m1 : (300 : Int) < (m : Int) := by omega
      have m2 : (300 : Int) ≤ (c : Int) := by omega
      go_wp2_with fail
      go_meet
      exact ⟨rfl, rfl⟩
  obtain ⟨rfl, rfl⟩ := hcut
  clear hsel hmc
  go_wp2_with (at_make; refine wpList_make_full _ rfl _ _ 33 rfl w0.heap.size 3 i3 (.int .i64 0) 1 Tryz.underlying33 hi3 hz3 hs3 .i64 .i64 _ _ (n + 1) rfl rfl (by push_cast; rfl) (by push_cast; rfl) (by rw [hb3]; omega) (by unfold maxLen; omega) (Nat.le_refl _) ?_; intro w1 ho1 hg1)
  have HC1 : Hid (Cel w1 w0.heap.size 3 (plcM ps (n + 1) 0) ∧ Below W.heap.size W w1) := hid ⟨by
    have := (cel_of_own ho1).1
    rw [show (Value.int .i64 0).cells = #[.int .i64 0] from rfl, made_list] at this
    rw [plcM_zero]
    exact this, bl_grown B0.out hg1⟩
  have HG : Hid (W.heap.size ≤ w0.heap.size) := hid B0.out.size
  clear ho1 hg1 H8 B0
  generalize w0.heap.size = gp at *
  go_loopw [6, 8, 9, 10, 11] (fun s p i _ _ wr => ∃ k : Nat, k ≤ n ∧ s = .string ⟨(S.SR ps k).toArray⟩ ∧ p = .int .i64 (S.plc ps k : Int) ∧ i = .int .i64 (k : Int) ∧ Hid (Cel wr gp 3 (plcM ps (n + 1) k) ∧ Below W.heap.size W wr)) (fun _ _ i _ _ _ => n - (intOf i).toNat)
  case atStart => exact ⟨0, Nat.zero_le _, rfl, rfl, rfl, HC1⟩
  case round =>
    clear HC1
    obtain ⟨k, hk, rfl, rfl, rfl, HC⟩ := hrel
    by_cases hlt : k < n
    · have c1 : (k : Int) < (n : Int) := by omega
      have c2 : (k : Int) < (n : Int) + 1 := by omega
      rcases HPc.out wr HC.out.2 with h0 | ⟨b, o, rfl, _, hc⟩
      · have := HN.out.1; rw [h0] at this; simp at this; omega
      have hck := hc k (by rw [HN.out.1]; exact hlt)
      have HLk := hid (fun x hx => HL.out x hx k hlt)
      have HNk := hid (fun x hx => HNm.out x hx k hk)
      have HSR : Hid (S.SR ps (k + 1) = S.SR ps k ++ S.lineP (ps.getD k S.p0) n k ++ [10]) := hid (by rw [← HN.out.1]; rfl)
      have HPL : Hid (S.plc ps (k + 1) = S.plc ps k + S.szp (ps.getD k S.p0)) := hid rfl
      have hz1 := S.SR_len HPs.out k (by have := HN.out.2; omega)
      have hz2 := (S.nmp_good k (by have := HN.out.2; omega)).2.2.1
      have hz3 := (S.sw_ok (ps.getD k S.p0) n HN.out.2 (HPs.out.v k)).2.2
      have hz4 := S.szp_le (ps.getD k S.p0)
      have hz5 := S.plc_le ps k
      have HLP : Hid (S.lineP (ps.getD k S.p0) n k = S.nmp k ++ [58, 32] ++ S.txtP (ps.getD k S.p0) n ++ [32, 35, 32] ++ S.nmp k) := hid rfl
      have hn3 := HN.out.2
      have s1 : (S.szp (ps.getD k S.p0) : Int) ≤ 3 := by omega
      have s2 : (S.plc ps k : Int) ≤ 900 := by omega
      have HMS : Hid (∀ w, Cel w gp 3 (plcM ps (n + 1) k) → w.cell? ⟨gp, k, none⟩ = some (.int .i64 0) ∧ w.frozen? ⟨gp, k, none⟩ = false) := hid (fun w hw => ⟨by rw [hw.cell k, plcM_get ps (n + 1) k k (by omega) (Nat.le_refl _)], hw.free k⟩)
      have x0 : wr.cell? ⟨b, o + k * 5, none⟩ = some (.int .i64 (ps.getD k S.p0).k) := hck 0 _ rfl
      have x1 := hck 1 _ rfl
      have x2 := hck 2 _ rfl
      have x3 := hck 3 _ rfl
      have x4 := hck 4 _ rfl
      have hz6 : (S.SR ps k).length ≤ 10000 := by omega
      clear hc hck hz1 hn3 hz4 hz5
      have HMset := hid (plcM_set ps (n + 1) k)
      unfold pieV pieC at HLk
      rw [HLP.out] at HSR
      clear HLP
      generalize S.txtP (ps.getD k S.p0) n = tx at *
      generalize S.szp (ps.getD k S.p0) = z at *
      generalize ps.getD k S.p0 = P at *
      generalize S.SR ps k = sr at *
      generalize S.nmp k = nm at *
      generalize S.plc ps k = q at *
      go_wp2_with (first | (go_at_call 11; refine (HLk.out _ HC.out.2).mono ?_; rintro e w2 ⟨rfl, hb2⟩; have HC2 := hid (And.intro (HC.out.1.on hb2) (below_on HC.out.2 hb2)); clear hb2) | (go_at_call 12; refine (HNk.out w3 HC3.out.2).mono ?_; rintro e w4 ⟨rfl, hb4⟩; have HC4 := hid (And.intro (HC3.out.1.on hb4) (below_on HC3.out.2 hb4)); have y0 := (HMS.out w4 HC4.out.1).1; have yf := (HMS.out w4 HC4.out.1).2; clear hb4) | (go_at_call 12; refine (HNk.out w2 HC2.out.2).mono ?_; rintro e w3 ⟨rfl, hb3⟩; have HC3 := hid (And.intro (HC2.out.1.on hb3) (below_on HC2.out.2 hb3)); clear hb3))
      go_roundw
      case measure => simp [intOf] <;> omega
      case rel => exact ⟨k + 1, by omega, by rw [HSR.out]; exact str_eq (by simp), by rw [HPL.out]; simp, by simp, hid ⟨by rw [← HMset.out]; exact HC4.out.1.setCell k _, HC4.out.2.setCell (p := ⟨gp, k, none⟩) HG.out _⟩⟩
    · have hkn : k = n := by omega
      subst hkn
      have HZ := hid (And.intro (S.SR_len HPs.out k HN.out.2) (S.nmp_good k HN.out.2))
      have hz1 := HZ.out.1
      have hz2 := HZ.out.2.2.2.1
      have hz3 : (S.SR ps k).length ≤ 10000 := by have := HN.out.2; omega
      have HNk := hid (fun x hx => HNm.out x hx k (Nat.le_refl _))
      have HSrc : Hid (S.src ps = S.SR ps k ++ [9] ++ S.nmp k ++ [58, 10]) := hid (by unfold S.src; rw [HN.out.1])
      have y0 : wr.cell? ⟨gp, k, none⟩ = some (.int .i64 0) := by rw [HC.out.1.cell k, plcM_get ps (k + 1) k k (by omega) (Nat.le_refl _)]
      have yf := HC.out.1.free k
      have HC2 : Hid (Cel (wr.setCell ⟨gp, k, none⟩ (.int .i64 (S.plc ps k : Int))) gp 3 (plcC ps (k + 1)) ∧ Below W.heap.size W (wr.setCell ⟨gp, k, none⟩ (.int .i64 (S.plc ps k : Int)))) := hid ⟨by rw [← plcM_all, ← plcM_set]; exact HC.out.1.setCell k _, HC.out.2.setCell (p := ⟨gp, k, none⟩) HG.out _⟩
      clear hz1 hk hlt HC HL
      generalize S.SR ps k = sr at *
      generalize hnm : S.nmp k = nm at *
      go_upto_region 18 with (go_at_call 12; refine (HNk.out _ HC2.out.2).mono ?_; rintro e w3 ⟨rfl, hb3⟩; have HC3 := hid (And.intro (HC2.out.1.on hb3) (below_on HC2.out.2 hb3)); clear hb3)
      have HSt : Hid ((⟨sr.toArray⟩ ++ ⟨#[9]⟩ ++ ⟨nm.toArray⟩ ++ ⟨#[58, 10]⟩ : ByteArray).data.toList = S.src ps) := hid (by rw [HSrc.out]; simp)
      clear HSrc HZ hz2 hz3 hnm HNk HC2 y0 yf
      generalize (⟨sr.toArray⟩ ++ ⟨#[9]⟩ ++ ⟨nm.toArray⟩ ++ ⟨#[58, 10]⟩ : ByteArray) = st at *
      go_upto_region 19 with (go_at_call 9; refine (H9.out _ HC3.out.2 st HSt.out).mono ?_; rintro e w4 ⟨a, c', rfl, hu, hb4⟩; have HC4 := hid (And.intro (HC3.out.1.on hb4) (And.intro (below_on HC3.out.2 hb4) hu)); clear hb4 hu)
      have HC5 : Hid (Cel (w4.alloc (.cells #[.int .i64 0, .int .i64 0, .int .i64 0] 27)) gp 3 (plcC ps (k + 1)) ∧ Below W.heap.size W (w4.alloc (.cells #[.int .i64 0, .int .i64 0, .int .i64 0] 27)) ∧ UAt (w4.alloc (.cells #[.int .i64 0, .int .i64 0, .int .i64 0] 27)) a (S.FW ps base k) ∧ Cel (w4.alloc (.cells #[.int .i64 0, .int .i64 0, .int .i64 0] 27)) w4.heap.size 27 [.int .i64 0, .int .i64 0, .int .i64 0]) := hid ⟨HC4.out.1.on (below_one _ _), below_on HC4.out.2.1 (below_one _ _), HC4.out.2.2.on (below_one _ _), Cel.new _ _ _⟩
      clear HC3 HC4 H9
      generalize w4.alloc _ = X5 at *
      generalize w4.heap.size = g13 at *
      go_upto_region 20 with (go_at_call 13; refine (H13.out _ HC5.out.2.1 st HSt.out).mono ?_; rintro e w6 ⟨gl, cl, rfl, hlb, hb6⟩; have HC6 := hid (And.intro (HC5.out.1.on hb6) (And.intro (below_on HC5.out.2.1 hb6) (And.intro (HC5.out.2.2.1.on hb6) (And.intro (HC5.out.2.2.2.on hb6) hlb)))); clear hb6 hlb)
      have HC7 : Hid (Cel (w6.alloc (.cells #[.int .i64 0, .int .i64 0, .int .i64 0] 27)) gp 3 (plcC ps (k + 1)) ∧ Below W.heap.size W (w6.alloc (.cells #[.int .i64 0, .int .i64 0, .int .i64 0] 27)) ∧ UAt (w6.alloc (.cells #[.int .i64 0, .int .i64 0, .int .i64 0] 27)) a (S.FW ps base k) ∧ Cel (w6.alloc (.cells #[.int .i64 0, .int .i64 0, .int .i64 0] 27)) g13 27 [.int .i64 0, .int .i64 0, .int .i64 0] ∧ Cel (w6.alloc (.cells #[.int .i64 0, .int .i64 0, .int .i64 0] 27)) w6.heap.size 27 [.int .i64 0, .int .i64 0, .int .i64 0] ∧ gl < (w6.alloc (.cells #[.int .i64 0, .int .i64 0, .int .i64 0] 27)).heap.size ∧ ∀ i, i ≤ k → (w6.alloc (.cells #[.int .i64 0, .int .i64 0, .int .i64 0] 27)).cell? ⟨gl, i * 2, none⟩ = some (.string ⟨(S.nmp i).toArray⟩) ∧ (w6.alloc (.cells #[.int .i64 0, .int .i64 0, .int .i64 0] 27)).cell? ⟨gl, i * 2 + 1, none⟩ = some (.int .i64 (S.plc ps i : Int))) := hid ⟨HC6.out.1.on (below_one _ _), below_on HC6.out.2.1 (below_one _ _), HC6.out.2.2.1.on (below_one _ _), HC6.out.2.2.2.1.on (below_one _ _), Cel.new _ _ _, Nat.lt_of_lt_of_le HC6.out.2.2.2.2.1 (below_one _ _).size, fun i hi => ⟨by rw [(below_one _ _).cell (p := ⟨gl, i * 2, none⟩) HC6.out.2.2.2.2.1]; exact (HC6.out.2.2.2.2.2 i hi).1, by rw [(below_one _ _).cell (p := ⟨gl, i * 2 + 1, none⟩) HC6.out.2.2.2.2.1]; exact (HC6.out.2.2.2.2.2 i hi).2⟩⟩
      clear HC5 HC6 H13 HSt
      generalize w6.alloc _ = X7 at *
      generalize w6.heap.size = g15 at *
      have y13 := HC7.out.2.2.2.1.cell 0
      have y15 := HC7.out.2.2.2.2.1.cell 0
      go_upto_region 23 with fail
      have HLb : Hid (∀ x, Below X7.heap.size X7 x → ∀ i, i ≤ k → x.cell? ⟨gl, i * 2, none⟩ = some (.string ⟨(S.nmp i).toArray⟩) ∧ x.cell? ⟨gl, i * 2 + 1, none⟩ = some (.int .i64 (S.plc ps i : Int)) ∧ x.cell? ⟨gp, i, none⟩ = some (.int .i64 (S.plc ps i : Int))) := hid (fun x hx i hi => ⟨by rw [hx.cell (p := ⟨gl, i * 2, none⟩) HC7.out.2.2.2.2.2.1]; exact (HC7.out.2.2.2.2.2.2 i hi).1, by rw [hx.cell (p := ⟨gl, i * 2 + 1, none⟩) HC7.out.2.2.2.2.2.1]; exact (HC7.out.2.2.2.2.2.2 i hi).2, by rw [(HC7.out.1.on hx).cell i, plcC_get ps (k + 1) i (by omega)]⟩)
      have HR14 : Hid (∀ x, Below X7.heap.size X7 x → ∀ i, i < k → Calls Tryz.prog 14 #[pieV (ps.getD i S.p0), .int .i64 (k : Int), .slice a (S.plc ps k) c', .int .i64 (S.plc ps i : Int), .slice (some ⟨gp, 0, none⟩) (k + 1) (k + 1), .int .u32 (base : Int)] x fun e w' => e = .returned (.bool true) ∧ Below x.heap.size x w') := hid (fun x hx i hi => by
        have hWx := below_on HC7.out.2.1 hx
        have h0 := right_any x ps base i a gp c' (S.plc ps ps.length) ⟨h.on hWx, HTB.out x hWx, HPs.out, by rw [HN.out.1]; exact hi, hb, by rw [HN.out.1]; exact HC7.out.2.2.1.on hx, by rw [HN.out.1]; exact HC7.out.1.on hx⟩ rfl
        rw [HN.out.1] at h0
        exact h0)
      have HPx : Hid (∀ x, Below X7.heap.size X7 x → PcAt x ao ps) := hid (fun x hx => HPc.out x (below_on HC7.out.2.1 hx))
      have HNx : Hid (∀ x, Below X7.heap.size X7 x → ∀ i, i ≤ k → Calls Tryz.prog 12 #[.int .i64 (i : Int)] x fun e w' => e = .returned (.string ⟨(S.nmp i).toArray⟩) ∧ Below x.heap.size x w') := hid (fun x hx => HNm.out x (below_on HC7.out.2.1 hx))
      have HWX := hid HC7.out.2.1
      clear HC7 y13 y15 HPc HNm
      generalize S.plc ps k = N at *
      go_loopw [16] (fun j wr => ∃ u : Nat, u ≤ k + 1 ∧ j = .int .i64 (u : Int) ∧ Hid (Below X7.heap.size X7 wr)) (fun j _ => k + 1 - (intOf j).toNat)
      case atStart => exact ⟨0, Nat.zero_le _, rfl, hid (Below.refl _ _)⟩
      case round =>
        obtain ⟨u, hu, rfl, HB⟩ := hrel
        by_cases hlt : u ≤ k
        · have u1 : (u : Int) ≤ (k : Int) := by omega
          have u2 : (u : Int) < (k : Int) + 1 := by omega
          have HNu := hid (fun x hx => HNx.out x hx u hlt)
          have HLu := hid (fun x hx => HLb.out x hx u hlt)
          by_cases hlk : u < k
          · have u3 : (u : Int) < (k : Int) := by omega
            rcases HPx.out _ HB.out with h0 | ⟨b, o, rfl, _, _⟩
            · have := HN.out.1; rw [h0] at this; simp at this; omega
            have HPu : Hid (∀ x, Below X7.heap.size X7 x → x.cell? ⟨b, o + u * 5, none⟩ = some (.int .i64 (ps.getD u S.p0).k) ∧ x.cell? ⟨b, o + u * 5 + 1, none⟩ = some (.int .i64 (ps.getD u S.p0).a) ∧ x.cell? ⟨b, o + u * 5 + 2, none⟩ = some (.int .i64 (ps.getD u S.p0).cd) ∧ x.cell? ⟨b, o + u * 5 + 3, none⟩ = some (.int .i64 (ps.getD u S.p0).tq) ∧ x.cell? ⟨b, o + u * 5 + 4, none⟩ = some (.int .u32 ((ps.getD u S.p0).v : Int)) ∧ x.cell? ⟨gp, u, none⟩ = some (.int .i64 (S.plc ps u : Int))) := hid (fun x hx => by
              rcases HPx.out x hx with h0 | ⟨b', o', he, _, hc⟩
              · have := HN.out.1; rw [h0] at this; simp at this; omega
              · injection he with he
                injection he with h1 h2
                subst h1 h2
                have hck := hc u (by rw [HN.out.1]; exact hlk)
                exact ⟨hck 0 _ rfl, hck 1 _ rfl, hck 2 _ rfl, hck 3 _ rfl, hck 4 _ rfl, (HLu.out x hx).2.2⟩)
            have HR := hid (fun x hx => HR14.out x hx u hlk)
            unfold pieV pieC at HR
            clear HR14 HPx HNx HLb hlt hlk
            generalize S.plc ps u = q at *
            generalize S.nmp u = nm at *
            generalize ps.getD u S.p0 = PP at *
            obtain ⟨pk, pa, pcd, pto, pv⟩ := PP
            simp only at HPu HR
            go_upto_region 25 with fail
            have HBd := hid (below_on HB.out (Below.refl wr.heap.size wr).drew)
            have HS := hid (HLu.out _ HBd.out)
            refine wp_region_held_drew (S := fun w => w.cell? ⟨gl, u * 2, none⟩ = some (.string ⟨nm.toArray⟩) ∧ w.cell? ⟨gl, u * 2 + 1, none⟩ = some (.int .i64 (q : Int)) ∧ w.cell? ⟨gp, u, none⟩ = some (.int .i64 (q : Int))) (by kernel_rfl) HS.out (fun hHeld => ?_)
            refine tk 0 ⟨some 109, .move (.tmp 14), 39, "outright.go:129", #[], none⟩ (.slice (some ⟨gl, 0, none⟩) (k + 1) cl) ?_
            simp only [Act.put, List.setIfInBounds_toArray, List.set_cons_zero, List.set_cons_succ]
            refine tk 1 ⟨some 110, .move (.tmp 16), 3, "outright.go:129", #[], none⟩ (.int .i64 (u : Int)) ?_
            simp only [Act.put, List.setIfInBounds_toArray, List.set_cons_zero, List.set_cons_succ]
            refine tk 2 ⟨some 111, .indexAddr 39 (.tmp 109) (.tmp 110), 0, "outright.go:129", #[⟨0, .data⟩, ⟨1, .data⟩], none⟩ (.pointer (some ⟨gl, u * 2, none⟩)) ?_
            simp only [Act.put, List.setIfInBounds_toArray, List.set_cons_zero, List.set_cons_succ]
            refine tk 3 ⟨some 112, .fieldAddr 43 (.tmp 111) 0, 0, "outright.go:129", #[⟨2, .data⟩], none⟩ (.pointer (some ⟨gl, u * 2, none⟩)) ?_
            simp only [Act.put, List.setIfInBounds_toArray, List.set_cons_zero, List.set_cons_succ]
            refine tk 4 ⟨some 113, .load 9 (.tmp 112), 9, "outright.go:129", #[⟨3, .data⟩], none⟩ (.string ⟨nm.toArray⟩) ?_ (hy := Or.inl ⟨by rfl, by intro w hSw; have hc := hSw.1; go_simp⟩)
            simp only [Act.put, List.setIfInBounds_toArray, List.set_cons_zero, List.set_cons_succ]
            refine tk 5 ⟨some 114, .move (.tmp 16), 3, "outright.go:129", #[], none⟩ (.int .i64 (u : Int)) ?_
            simp only [Act.put, List.setIfInBounds_toArray, List.set_cons_zero, List.set_cons_succ]
            refine wpAnyH_ready (rs := [6]) (by kernel_rfl) (by simp) (AllReadyH.cons (o := ⟨some 115, .call { callee := .value (.func 12), args := #[.tmp 114], argTypes := #[3] }, 9, "outright.go:129", #[⟨5, .data⟩], none⟩) rfl (fun KQ hK => ?_) AllReadyH.nil)
            go_simp
            refine (HNu.out _ HBd.out).mono ?_
            rintro e w8 ⟨rfl, hb8⟩
            have HB8 := hid (below_on HBd.out hb8)
            have HS8 := hid (HLu.out _ HB8.out)
            clear hb8
            go_wp2_with fail
            refine hK.out _ _ HS8.out (fun hHeld => ?_)
            clear hK KQ
            try simp only [Act.put, List.setIfInBounds_toArray, List.set_cons_zero, List.set_cons_succ]
            refine tk 7 ⟨some 116, .binOp .neq 9 (.tmp 113) (.tmp 115) 9, 4, "outright.go:129", #[⟨4, .data⟩, ⟨6, .data⟩], none⟩ (.bool false) ?_
            simp only [Act.put, List.setIfInBounds_toArray, List.set_cons_zero, List.set_cons_succ]
            refine tk 8 ⟨some 117, .move (.tmp 116), 4, "outright.go:129", #[⟨7, .data⟩, ⟨6, .chain⟩], none⟩ (.bool false) ?_
            simp only [Act.put, List.setIfInBounds_toArray, List.set_cons_zero, List.set_cons_succ]
            refine tk 9 ⟨some 118, .move (.tmp 14), 39, "outright.go:129", #[⟨8, .guard⟩], some (8, false)⟩ (.slice (some ⟨gl, 0, none⟩) (k + 1) cl) ?_
            simp only [Act.put, List.setIfInBounds_toArray, List.set_cons_zero, List.set_cons_succ]
            refine tk 10 ⟨some 119, .move (.tmp 16), 3, "outright.go:129", #[⟨8, .guard⟩], some (8, false)⟩ (.int .i64 (u : Int)) ?_
            simp only [Act.put, List.setIfInBounds_toArray, List.set_cons_zero, List.set_cons_succ]
            refine tk 11 ⟨some 120, .indexAddr 39 (.tmp 118) (.tmp 119), 0, "outright.go:129", #[⟨9, .data⟩, ⟨10, .data⟩, ⟨8, .guard⟩], some (8, false)⟩ (.pointer (some ⟨gl, u * 2, none⟩)) ?_
            simp only [Act.put, List.setIfInBounds_toArray, List.set_cons_zero, List.set_cons_succ]
            refine tk 12 ⟨some 121, .fieldAddr 43 (.tmp 120) 1, 0, "outright.go:129", #[⟨11, .data⟩, ⟨8, .guard⟩], some (8, false)⟩ (.pointer (some ⟨gl, u * 2 + 1, none⟩)) ?_
            simp only [Act.put, List.setIfInBounds_toArray, List.set_cons_zero, List.set_cons_succ]
            refine tk 13 ⟨some 122, .load 3 (.tmp 121), 3, "outright.go:129", #[⟨12, .data⟩, ⟨8, .guard⟩], some (8, false)⟩ (.int .i64 (q : Int)) ?_ (hy := Or.inl ⟨by rfl, by intro w hSw; have hc := hSw.2.1; go_simp⟩)
            simp only [Act.put, List.setIfInBounds_toArray, List.set_cons_zero, List.set_cons_succ]
            refine tk 14 ⟨some 123, .move (.tmp 7), 33, "outright.go:129", #[⟨8, .guard⟩], some (8, false)⟩ (.slice (some ⟨gp, 0, none⟩) (k + 1) (k + 1)) ?_
            simp only [Act.put, List.setIfInBounds_toArray, List.set_cons_zero, List.set_cons_succ]
            refine tk 15 ⟨some 124, .move (.tmp 16), 3, "outright.go:129", #[⟨8, .guard⟩], some (8, false)⟩ (.int .i64 (u : Int)) ?_
            simp only [Act.put, List.setIfInBounds_toArray, List.set_cons_zero, List.set_cons_succ]
            refine tk 16 ⟨some 125, .indexAddr 33 (.tmp 123) (.tmp 124), 0, "outright.go:129", #[⟨14, .data⟩, ⟨15, .data⟩, ⟨8, .guard⟩], some (8, false)⟩ (.pointer (some ⟨gp, u, none⟩)) ?_
            simp only [Act.put, List.setIfInBounds_toArray, List.set_cons_zero, List.set_cons_succ]
            refine tk 17 ⟨some 126, .load 3 (.tmp 125), 3, "outright.go:129", #[⟨16, .data⟩, ⟨8, .guard⟩], some (8, false)⟩ (.int .i64 (q : Int)) ?_ (hy := Or.inl ⟨by rfl, by intro w hSw; have hc := hSw.2.2; go_simp⟩)
            simp only [Act.put, List.setIfInBounds_toArray, List.set_cons_zero, List.set_cons_succ]
            refine tk 18 ⟨some 127, .binOp .neq 3 (.tmp 122) (.tmp 126) 3, 4, "outright.go:129", #[⟨13, .data⟩, ⟨17, .data⟩, ⟨8, .guard⟩], some (8, false)⟩ (.bool false) ?_
            simp only [Act.put, List.setIfInBounds_toArray, List.set_cons_zero, List.set_cons_succ]
            refine tk 19 ⟨some 128, .pick (.tmp 117) (.const (.bool true)) (.tmp 127), 4, "outright.go:129", #[⟨8, .data⟩, ⟨18, .data⟩], none⟩ (.bool false) ?_
            simp only [Act.put, List.setIfInBounds_toArray, List.set_cons_zero, List.set_cons_succ]
            refine wpAnyH_done (by kernel_rfl) ?_ _
            clear HS HBd
            go_upto_region 27 with fail
            have HBe := hid (below_on HB8.out (Below.refl w8.heap.size w8).drew)
            have HT := hid (HPu.out _ HBe.out)
            refine wp_region_held_drew (S := fun w => w.cell? ⟨b, o + u * 5, none⟩ = some (.int .i64 pk) ∧ w.cell? ⟨b, o + u * 5 + 1, none⟩ = some (.int .i64 pa) ∧ w.cell? ⟨b, o + u * 5 + 2, none⟩ = some (.int .i64 pcd) ∧ w.cell? ⟨b, o + u * 5 + 3, none⟩ = some (.int .i64 pto) ∧ w.cell? ⟨b, o + u * 5 + 4, none⟩ = some (.int .u32 (pv : Int)) ∧ w.cell? ⟨gp, u, none⟩ = some (.int .i64 (q : Int))) (by kernel_rfl) HT.out (fun hHeld => ?_)
            refine tk 0 ⟨some 129, .move (.tmp 16), 3, "outright.go:132", #[], none⟩ (.int .i64 (u : Int)) ?_
            simp only [Act.put, List.setIfInBounds_toArray, List.set_cons_zero, List.set_cons_succ]
            refine tk 1 ⟨some 130, .move (.tmp 5), 3, "outright.go:132", #[], none⟩ (.int .i64 (k : Int)) ?_
            simp only [Act.put, List.setIfInBounds_toArray, List.set_cons_zero, List.set_cons_succ]
            refine tk 2 ⟨some 131, .binOp .lss 3 (.tmp 129) (.tmp 130) 3, 4, "outright.go:132", #[⟨0, .data⟩, ⟨1, .data⟩], none⟩ (.bool true) ?_
            simp only [Act.put, List.setIfInBounds_toArray, List.set_cons_zero, List.set_cons_succ]
            refine tk 3 ⟨some 132, .move (.tmp 131), 4, "outright.go:132", #[⟨2, .data⟩], none⟩ (.bool true) ?_
            simp only [Act.put, List.setIfInBounds_toArray, List.set_cons_zero, List.set_cons_succ]
            refine tk 4 ⟨some 133, .move (.tmp 0), 32, "outright.go:132", #[⟨3, .guard⟩], some (3, true)⟩ (.slice (some ⟨b, o, none⟩) k c) ?_
            simp only [Act.put, List.setIfInBounds_toArray, List.set_cons_zero, List.set_cons_succ]
            refine tk 5 ⟨some 134, .move (.tmp 16), 3, "outright.go:132", #[⟨3, .guard⟩], some (3, true)⟩ (.int .i64 (u : Int)) ?_
            simp only [Act.put, List.setIfInBounds_toArray, List.set_cons_zero, List.set_cons_succ]
            refine tk 6 ⟨some 135, .indexAddr 32 (.tmp 133) (.tmp 134), 0, "outright.go:132", #[⟨4, .data⟩, ⟨5, .data⟩, ⟨3, .guard⟩], some (3, true)⟩ (.pointer (some ⟨b, o + u * 5, none⟩)) ?_
            simp only [Act.put, List.setIfInBounds_toArray, List.set_cons_zero, List.set_cons_succ]
            refine tk 7 ⟨some 136, .load 37 (.tmp 135), 37, "outright.go:132", #[⟨6, .data⟩, ⟨3, .guard⟩], some (3, true)⟩ (.agg #[.int .i64 pk, .int .i64 pa, .int .i64 pcd, .int .i64 pto, .int .u32 (pv : Int)]) ?_ (hy := Or.inl ⟨by rfl, by intro w hSw; have hc := hSw.1; have hc1 := hSw.2.1; have hc2 := hSw.2.2.1; have hc3 := hSw.2.2.2.1; have hc4 := hSw.2.2.2.2.1; go_simp⟩)
            simp only [Act.put, List.setIfInBounds_toArray, List.set_cons_zero, List.set_cons_succ]
            refine tk 8 ⟨some 137, .move (.tmp 5), 3, "outright.go:132", #[⟨3, .guard⟩], some (3, true)⟩ (.int .i64 (k : Int)) ?_
            simp only [Act.put, List.setIfInBounds_toArray, List.set_cons_zero, List.set_cons_succ]
            refine tk 9 ⟨some 138, .move (.tmp 12), 24, "outright.go:132", #[⟨3, .guard⟩], some (3, true)⟩ (.slice a N c') ?_
            simp only [Act.put, List.setIfInBounds_toArray, List.set_cons_zero, List.set_cons_succ]
            refine tk 10 ⟨some 139, .move (.tmp 7), 33, "outright.go:132", #[⟨3, .guard⟩], some (3, true)⟩ (.slice (some ⟨gp, 0, none⟩) (k + 1) (k + 1)) ?_
            simp only [Act.put, List.setIfInBounds_toArray, List.set_cons_zero, List.set_cons_succ]
            refine tk 11 ⟨some 140, .move (.tmp 16), 3, "outright.go:132", #[⟨3, .guard⟩], some (3, true)⟩ (.int .i64 (u : Int)) ?_
            simp only [Act.put, List.setIfInBounds_toArray, List.set_cons_zero, List.set_cons_succ]
            refine tk 12 ⟨some 141, .indexAddr 33 (.tmp 139) (.tmp 140), 0, "outright.go:132", #[⟨10, .data⟩, ⟨11, .data⟩, ⟨3, .guard⟩], some (3, true)⟩ (.pointer (some ⟨gp, u, none⟩)) ?_
            simp only [Act.put, List.setIfInBounds_toArray, List.set_cons_zero, List.set_cons_succ]
            refine tk 13 ⟨some 142, .load 3 (.tmp 141), 3, "outright.go:132", #[⟨12, .data⟩, ⟨3, .guard⟩], some (3, true)⟩ (.int .i64 (q : Int)) ?_ (hy := Or.inl ⟨by rfl, by intro w hSw; have hc := hSw.2.2.2.2.2; go_simp⟩)
            simp only [Act.put, List.setIfInBounds_toArray, List.set_cons_zero, List.set_cons_succ]
            refine tk 14 ⟨some 143, .move (.tmp 7), 33, "outright.go:132", #[⟨3, .guard⟩], some (3, true)⟩ (.slice (some ⟨gp, 0, none⟩) (k + 1) (k + 1)) ?_
            simp only [Act.put, List.setIfInBounds_toArray, List.set_cons_zero, List.set_cons_succ]
            refine tk 15 ⟨some 144, .move (.tmp 1), 22, "outright.go:132", #[⟨3, .guard⟩], some (3, true)⟩ (.int .u32 (base : Int)) ?_
            simp only [Act.put, List.setIfInBounds_toArray, List.set_cons_zero, List.set_cons_succ]
            refine wpAnyH_ready (rs := [16]) (by kernel_rfl) (by simp) (AllReadyH.cons (o := ⟨some 145, .call { callee := .value (.func 14), args := #[.tmp 136, .tmp 137, .tmp 138, .tmp 142, .tmp 143, .tmp 144], argTypes := #[37, 3, 24, 3, 33, 22] }, 4, "outright.go:132", #[⟨7, .data⟩, ⟨8, .data⟩, ⟨9, .data⟩, ⟨13, .data⟩, ⟨14, .data⟩, ⟨15, .data⟩, ⟨3, .chain⟩, ⟨3, .guard⟩], some (3, true)⟩) rfl (fun KQ hK => ?_) AllReadyH.nil)
            go_simp
            refine (HR.out _ HBe.out).mono ?_
            rintro e w9 ⟨rfl, hb9⟩
            have HB9 := hid (below_on HBe.out hb9)
            have HT9 := hid (HPu.out _ HB9.out)
            clear hb9
            go_wp2_with fail
            refine hK.out _ _ HT9.out (fun hHeld => ?_)
            clear hK KQ
            try simp only [Act.put, List.setIfInBounds_toArray, List.set_cons_zero, List.set_cons_succ]
            refine tk 17 ⟨some 146, .unOp .not 4 (.tmp 145), 4, "outright.go:132", #[⟨16, .data⟩, ⟨3, .guard⟩], some (3, true)⟩ (.bool false) ?_
            simp only [Act.put, List.setIfInBounds_toArray, List.set_cons_zero, List.set_cons_succ]
            refine tk 18 ⟨some 147, .pick (.tmp 132) (.tmp 146) (.const (.bool false)), 4, "outright.go:132", #[⟨3, .data⟩, ⟨17, .data⟩], none⟩ (.bool false) ?_
            simp only [Act.put, List.setIfInBounds_toArray, List.set_cons_zero, List.set_cons_succ]
            refine wpAnyH_done (by kernel_rfl) ?_ _
            go_wp2_with fail
            go_roundw
            case measure => simp [intOf] <;> omega
            case rel => exact ⟨u + 1, by omega, by simp, hid HB9.out⟩
          · have v3 : k ≤ u := by omega
            have v5 : ¬ (u : Int) < (k : Int) := by omega
            clear HR14 HPx HNx HLb hlt hlk
            generalize S.plc ps u = q at *
            generalize S.nmp u = nm at *
            go_upto_region 25 with fail
            have HBd := hid (below_on HB.out (Below.refl wr.heap.size wr).drew)
            have HS := hid (HLu.out _ HBd.out)
            refine wp_region_held_drew (S := fun w => w.cell? ⟨gl, u * 2, none⟩ = some (.string ⟨nm.toArray⟩) ∧ w.cell? ⟨gl, u * 2 + 1, none⟩ = some (.int .i64 (q : Int)) ∧ w.cell? ⟨gp, u, none⟩ = some (.int .i64 (q : Int))) (by kernel_rfl) HS.out (fun hHeld => ?_)
            refine tk 0 ⟨some 109, .move (.tmp 14), 39, "outright.go:129", #[], none⟩ (.slice (some ⟨gl, 0, none⟩) (k + 1) cl) ?_
            simp only [Act.put, List.setIfInBounds_toArray, List.set_cons_zero, List.set_cons_succ]
            refine tk 1 ⟨some 110, .move (.tmp 16), 3, "outright.go:129", #[], none⟩ (.int .i64 (u : Int)) ?_
            simp only [Act.put, List.setIfInBounds_toArray, List.set_cons_zero, List.set_cons_succ]
            refine tk 2 ⟨some 111, .indexAddr 39 (.tmp 109) (.tmp 110), 0, "outright.go:129", #[⟨0, .data⟩, ⟨1, .data⟩], none⟩ (.pointer (some ⟨gl, u * 2, none⟩)) ?_
            simp only [Act.put, List.setIfInBounds_toArray, List.set_cons_zero, List.set_cons_succ]
            refine tk 3 ⟨some 112, .fieldAddr 43 (.tmp 111) 0, 0, "outright.go:129", #[⟨2, .data⟩], none⟩ (.pointer (some ⟨gl, u * 2, none⟩)) ?_
            simp only [Act.put, List.setIfInBounds_toArray, List.set_cons_zero, List.set_cons_succ]
            refine tk 4 ⟨some 113, .load 9 (.tmp 112), 9, "outright.go:129", #[⟨3, .data⟩], none⟩ (.string ⟨nm.toArray⟩) ?_ (hy := Or.inl ⟨by rfl, by intro w hSw; have hc := hSw.1; go_simp⟩)
            simp only [Act.put, List.setIfInBounds_toArray, List.set_cons_zero, List.set_cons_succ]
            refine tk 5 ⟨some 114, .move (.tmp 16), 3, "outright.go:129", #[], none⟩ (.int .i64 (u : Int)) ?_
            simp only [Act.put, List.setIfInBounds_toArray, List.set_cons_zero, List.set_cons_succ]
            refine wpAnyH_ready (rs := [6]) (by kernel_rfl) (by simp) (AllReadyH.cons (o := ⟨some 115, .call { callee := .value (.func 12), args := #[.tmp 114], argTypes := #[3] }, 9, "outright.go:129", #[⟨5, .data⟩], none⟩) rfl (fun KQ hK => ?_) AllReadyH.nil)
            go_simp
            refine (HNu.out _ HBd.out).mono ?_
            rintro e w8 ⟨rfl, hb8⟩
            have HB8 := hid (below_on HBd.out hb8)
            have HS8 := hid (HLu.out _ HB8.out)
            clear hb8
            go_wp2_with fail
            refine hK.out _ _ HS8.out (fun hHeld => ?_)
            clear hK KQ
            try simp only [Act.put, List.setIfInBounds_toArray, List.set_cons_zero, List.set_cons_succ]
            refine tk 7 ⟨some 116, .binOp .neq 9 (.tmp 113) (.tmp 115) 9, 4, "outright.go:129", #[⟨4, .data⟩, ⟨6, .data⟩], none⟩ (.bool false) ?_
            simp only [Act.put, List.setIfInBounds_toArray, List.set_cons_zero, List.set_cons_succ]
            refine tk 8 ⟨some 117, .move (.tmp 116), 4, "outright.go:129", #[⟨7, .data⟩, ⟨6, .chain⟩], none⟩ (.bool false) ?_
            simp only [Act.put, List.setIfInBounds_toArray, List.set_cons_zero, List.set_cons_succ]
            refine tk 9 ⟨some 118, .move (.tmp 14), 39, "outright.go:129", #[⟨8, .guard⟩], some (8, false)⟩ (.slice (some ⟨gl, 0, none⟩) (k + 1) cl) ?_
            simp only [Act.put, List.setIfInBounds_toArray, List.set_cons_zero, List.set_cons_succ]
            refine tk 10 ⟨some 119, .move (.tmp 16), 3, "outright.go:129", #[⟨8, .guard⟩], some (8, false)⟩ (.int .i64 (u : Int)) ?_
            simp only [Act.put, List.setIfInBounds_toArray, List.set_cons_zero, List.set_cons_succ]
            refine tk 11 ⟨some 120, .indexAddr 39 (.tmp 118) (.tmp 119), 0, "outright.go:129", #[⟨9, .data⟩, ⟨10, .data⟩, ⟨8, .guard⟩], some (8, false)⟩ (.pointer (some ⟨gl, u * 2, none⟩)) ?_
            simp only [Act.put, List.setIfInBounds_toArray, List.set_cons_zero, List.set_cons_succ]
            refine tk 12 ⟨some 121, .fieldAddr 43 (.tmp 120) 1, 0, "outright.go:129", #[⟨11, .data⟩, ⟨8, .guard⟩], some (8, false)⟩ (.pointer (some ⟨gl, u * 2 + 1, none⟩)) ?_
            simp only [Act.put, List.setIfInBounds_toArray, List.set_cons_zero, List.set_cons_succ]
            refine tk 13 ⟨some 122, .load 3 (.tmp 121), 3, "outright.go:129", #[⟨12, .data⟩, ⟨8, .guard⟩], some (8, false)⟩ (.int .i64 (q : Int)) ?_ (hy := Or.inl ⟨by rfl, by intro w hSw; have hc := hSw.2.1; go_simp⟩)
            simp only [Act.put, List.setIfInBounds_toArray, List.set_cons_zero, List.set_cons_succ]
            refine tk 14 ⟨some 123, .move (.tmp 7), 33, "outright.go:129", #[⟨8, .guard⟩], some (8, false)⟩ (.slice (some ⟨gp, 0, none⟩) (k + 1) (k + 1)) ?_
            simp only [Act.put, List.setIfInBounds_toArray, List.set_cons_zero, List.set_cons_succ]
            refine tk 15 ⟨some 124, .move (.tmp 16), 3, "outright.go:129", #[⟨8, .guard⟩], some (8, false)⟩ (.int .i64 (u : Int)) ?_
            simp only [Act.put, List.setIfInBounds_toArray, List.set_cons_zero, List.set_cons_succ]
            refine tk 16 ⟨some 125, .indexAddr 33 (.tmp 123) (.tmp 124), 0, "outright.go:129", #[⟨14, .data⟩, ⟨15, .data⟩, ⟨8, .guard⟩], some (8, false)⟩ (.pointer (some ⟨gp, u, none⟩)) ?_
            simp only [Act.put, List.setIfInBounds_toArray, List.set_cons_zero, List.set_cons_succ]
            refine tk 17 ⟨some 126, .load 3 (.tmp 125), 3, "outright.go:129", #[⟨16, .data⟩, ⟨8, .guard⟩], some (8, false)⟩ (.int .i64 (q : Int)) ?_ (hy := Or.inl ⟨by rfl, by intro w hSw; have hc := hSw.2.2; go_simp⟩)
            simp only [Act.put, List.setIfInBounds_toArray, List.set_cons_zero, List.set_cons_succ]
            refine tk 18 ⟨some 127, .binOp .neq 3 (.tmp 122) (.tmp 126) 3, 4, "outright.go:129", #[⟨13, .data⟩, ⟨17, .data⟩, ⟨8, .guard⟩], some (8, false)⟩ (.bool false) ?_
            simp only [Act.put, List.setIfInBounds_toArray, List.set_cons_zero, List.set_cons_succ]
            refine tk 19 ⟨some 128, .pick (.tmp 117) (.const (.bool true)) (.tmp 127), 4, "outright.go:129", #[⟨8, .data⟩, ⟨18, .data⟩], none⟩ (.bool false) ?_
            simp only [Act.put, List.setIfInBounds_toArray, List.set_cons_zero, List.set_cons_succ]
            refine wpAnyH_done (by kernel_rfl) ?_ _
            clear HS HBd
            go_upto_region 27 with fail
            refine wp_region_held_drew (S := fun w => True) (by kernel_rfl) trivial (fun hHeld => ?_)
            refine tk 0 ⟨some 129, .move (.tmp 16), 3, "outright.go:132", #[], none⟩ (.int .i64 (u : Int)) ?_
            simp only [Act.put, List.setIfInBounds_toArray, List.set_cons_zero, List.set_cons_succ]
            refine tk 1 ⟨some 130, .move (.tmp 5), 3, "outright.go:132", #[], none⟩ (.int .i64 (k : Int)) ?_
            simp only [Act.put, List.setIfInBounds_toArray, List.set_cons_zero, List.set_cons_succ]
            refine tk 2 ⟨some 131, .binOp .lss 3 (.tmp 129) (.tmp 130) 3, 4, "outright.go:132", #[⟨0, .data⟩, ⟨1, .data⟩], none⟩ (.bool false) ?_
            simp only [Act.put, List.setIfInBounds_toArray, List.set_cons_zero, List.set_cons_succ]
            refine tk 3 ⟨some 132, .move (.tmp 131), 4, "outright.go:132", #[⟨2, .data⟩], none⟩ (.bool false) ?_
            simp only [Act.put, List.setIfInBounds_toArray, List.set_cons_zero, List.set_cons_succ]
            refine tk 4 ⟨some 133, .move (.tmp 0), 32, "outright.go:132", #[⟨3, .guard⟩], some (3, true)⟩ undef ?_ (hy := Or.inr ⟨by rfl, rfl⟩)
            simp only [Act.put, List.setIfInBounds_toArray, List.set_cons_zero, List.set_cons_succ]
            refine tk 5 ⟨some 134, .move (.tmp 16), 3, "outright.go:132", #[⟨3, .guard⟩], some (3, true)⟩ undef ?_ (hy := Or.inr ⟨by rfl, rfl⟩)
            simp only [Act.put, List.setIfInBounds_toArray, List.set_cons_zero, List.set_cons_succ]
            refine tk 6 ⟨some 135, .indexAddr 32 (.tmp 133) (.tmp 134), 0, "outright.go:132", #[⟨4, .data⟩, ⟨5, .data⟩, ⟨3, .guard⟩], some (3, true)⟩ undef ?_ (hy := Or.inr ⟨by rfl, rfl⟩)
            simp only [Act.put, List.setIfInBounds_toArray, List.set_cons_zero, List.set_cons_succ]
            refine tk 7 ⟨some 136, .load 37 (.tmp 135), 37, "outright.go:132", #[⟨6, .data⟩, ⟨3, .guard⟩], some (3, true)⟩ undef ?_ (hy := Or.inr ⟨by rfl, rfl⟩)
            simp only [Act.put, List.setIfInBounds_toArray, List.set_cons_zero, List.set_cons_succ]
            refine tk 8 ⟨some 137, .move (.tmp 5), 3, "outright.go:132", #[⟨3, .guard⟩], some (3, true)⟩ undef ?_ (hy := Or.inr ⟨by rfl, rfl⟩)
            simp only [Act.put, List.setIfInBounds_toArray, List.set_cons_zero, List.set_cons_succ]
            refine tk 9 ⟨some 138, .move (.tmp 12), 24, "outright.go:132", #[⟨3, .guard⟩], some (3, true)⟩ undef ?_ (hy := Or.inr ⟨by rfl, rfl⟩)
            simp only [Act.put, List.setIfInBounds_toArray, List.set_cons_zero, List.set_cons_succ]
            refine tk 10 ⟨some 139, .move (.tmp 7), 33, "outright.go:132", #[⟨3, .guard⟩], some (3, true)⟩ undef ?_ (hy := Or.inr ⟨by rfl, rfl⟩)
            simp only [Act.put, List.setIfInBounds_toArray, List.set_cons_zero, List.set_cons_succ]
            refine tk 11 ⟨some 140, .move (.tmp 16), 3, "outright.go:132", #[⟨3, .guard⟩], some (3, true)⟩ undef ?_ (hy := Or.inr ⟨by rfl, rfl⟩)
            simp only [Act.put, List.setIfInBounds_toArray, List.set_cons_zero, List.set_cons_succ]
            refine tk 12 ⟨some 141, .indexAddr 33 (.tmp 139) (.tmp 140), 0, "outright.go:132", #[⟨10, .data⟩, ⟨11, .data⟩, ⟨3, .guard⟩], some (3, true)⟩ undef ?_ (hy := Or.inr ⟨by rfl, rfl⟩)
            simp only [Act.put, List.setIfInBounds_toArray, List.set_cons_zero, List.set_cons_succ]
            refine tk 13 ⟨some 142, .load 3 (.tmp 141), 3, "outright.go:132", #[⟨12, .data⟩, ⟨3, .guard⟩], some (3, true)⟩ undef ?_ (hy := Or.inr ⟨by rfl, rfl⟩)
            simp only [Act.put, List.setIfInBounds_toArray, List.set_cons_zero, List.set_cons_succ]
            refine tk 14 ⟨some 143, .move (.tmp 7), 33, "outright.go:132", #[⟨3, .guard⟩], some (3, true)⟩ undef ?_ (hy := Or.inr ⟨by rfl, rfl⟩)
            simp only [Act.put, List.setIfInBounds_toArray, List.set_cons_zero, List.set_cons_succ]
            refine tk 15 ⟨some 144, .move (.tmp 1), 22, "outright.go:132", #[⟨3, .guard⟩], some (3, true)⟩ undef ?_ (hy := Or.inr ⟨by rfl, rfl⟩)
            simp only [Act.put, List.setIfInBounds_toArray, List.set_cons_zero, List.set_cons_succ]
            refine tk 16 ⟨some 145, .call { callee := .value (.func 14), args := #[.tmp 136, .tmp 137, .tmp 138, .tmp 142, .tmp 143, .tmp 144], argTypes := #[37, 3, 24, 3, 33, 22] }, 4, "outright.go:132", #[⟨7, .data⟩, ⟨8, .data⟩, ⟨9, .data⟩, ⟨13, .data⟩, ⟨14, .data⟩, ⟨15, .data⟩, ⟨3, .chain⟩, ⟨3, .guard⟩], some (3, true)⟩ undef ?_ (hy := Or.inr ⟨by rfl, rfl⟩)
            simp only [Act.put, List.setIfInBounds_toArray, List.set_cons_zero, List.set_cons_succ]
            refine tk 17 ⟨some 146, .unOp .not 4 (.tmp 145), 4, "outright.go:132", #[⟨16, .data⟩, ⟨3, .guard⟩], some (3, true)⟩ undef ?_ (hy := Or.inr ⟨by rfl, rfl⟩)
            simp only [Act.put, List.setIfInBounds_toArray, List.set_cons_zero, List.set_cons_succ]
            refine tk 18 ⟨some 147, .pick (.tmp 132) (.tmp 146) (.const (.bool false)), 4, "outright.go:132", #[⟨3, .data⟩, ⟨17, .data⟩], none⟩ (.bool false) ?_
            simp only [Act.put, List.setIfInBounds_toArray, List.set_cons_zero, List.set_cons_succ]
            refine wpAnyH_done (by kernel_rfl) ?_ _
            have HBe := hid (below_on HB8.out (Below.refl w8.heap.size w8).drew)
            go_wp2_with fail
            go_roundw
            case measure => simp [intOf] <;> omega
            case rel => exact ⟨u + 1, by omega, by simp, hid HBe.out⟩
        · have u1 : ¬ (u : Int) ≤ (k : Int) := by omega
          have HBz := hid (below_on HWX.out HB.out)
          go_wp2_with fail
          go_ret
          exact ⟨rfl, HBz.out⟩
end Go.Proofs.YtncnogndopgknaaGreatDoor
