import Derived.Shelf.Strings.BuilderK
import Derived.Test.YtbpdmkohihgnjaaGreatDoorP15
import Derived.Test.YtbpdmkohihgnjaaGreatDoorP16
import Derived.Test.YtbpdmkohihgnjaaGreatDoorP27
import Derived.Test.YtbpdmkohihgnjaaGreatDoorP01
import Derived.Test.YtbpdmkohihgnjaaGreatDoorP19
import Derived.Test.YtbpdmkohihgnjaaGreatDoorP40
namespace Go.Proofs.YtbpdmkohihgnjaaGreatDoor
open Go.RowKit
structure BL (V w : World) (b : Nat) (l : List UInt8) : Prop where
  bld : Lib.IsBuilderF 133 5 V.heap.size b (Lib.byteCells l) w
  below : Below V.heap.size V w
theorem builderAtF_on {B b : Nat} {p : Value} {bs : List Value} {w w' : World} (h : Lib.BuilderAtF 133 5 B b p bs w) (hb : Below w.heap.size w w') : Lib.BuilderAtF 133 5 B b p bs w' := by
  obtain ⟨hB, v, hbk, hown, hne⟩ := h
  refine ⟨hB, v, by rw [hb.block b (Array.getElem?_eq_some_iff.1 hbk).1]; exact hbk, ⟨hown.1, ?_⟩, hne⟩
  exact hown.2.imp id fun ⟨g, cap, cur, fz, hv, hbg, hg, r⟩ => ⟨g, cap, cur, fz, hv, hbg, by rw [hb.block g (Array.getElem?_eq_some_iff.1 hg).1]; exact hg, r⟩
theorem BL.on {V w w' : World} {b : Nat} {l : List UInt8} (h : BL V w b l) (hb : Below w.heap.size w w') : BL V w' b l :=
  ⟨h.bld.imp (fun x => builderAtF_on x hb) (fun x => builderAtF_on x hb), h.below.trans (hb.mono h.below.size)⟩
theorem BL.fresh (w : World) : BL w (w.alloc (.cells #[.pointer none, .slice none 0 0] 133)) w.heap.size [] :=
  ⟨(Lib.fresh_isBuilder 133 5 w).imp (fun x => Lib.BuilderAtF.of x) (fun x => Lib.BuilderAtF.of x), (Below.refl _ w).alloc (Nat.le_refl _) _⟩
theorem write_any (V w : World) (b : Nat) (l : List UInt8) (s : ByteArray) (h : BL V w b l) (hlen : l.length + s.size ≤ 140737488355328) :
    Calls Tryz.prog 57 #[.pointer (some ⟨b, 0, none⟩), .string s] w fun e w' => e = .returned (.tuple #[.int .i64 (s.size : Int), .nilIface]) ∧ BL V w' b (l ++ s.data.toList) := by
  refine (Any.Builder_WriteString_k {Tryz.lays156 with} Tryz.extra156 V.heap.size b _ s w h.bld (by rw [Lib.byteCells_length]; exact hlen) h.below.size).mono ?_
  rintro e w' ⟨rfl, h1, h2, _⟩
  refine ⟨rfl, .inr ?_, h.below.trans h2⟩
  rw [Lib.byteCells_append]
  exact h1
theorem string_any (V w : World) (b : Nat) (l : List UInt8) (h : BL V w b l) :
    Calls Tryz.prog 61 #[.pointer (some ⟨b, 0, none⟩)] w fun e w' => e = .returned (.string ⟨l.toArray⟩) ∧ Below V.heap.size V w' := by
  refine (Any.Builder_String_any_k {Tryz.lays156 with} Tryz.extra156 V.heap.size b l w h.bld h.below.size).mono ?_
  rintro e w' ⟨rfl, _, h2, _⟩
  exact ⟨rfl, h.below.trans h2⟩
end Go.Proofs.YtbpdmkohihgnjaaGreatDoor
namespace Go.Proofs.YtbpdmkohihgnjaaGreatDoor
open Go.RowKit
set_option maxHeartbeats 4000000
set_option maxRecDepth 100000
theorem kd_load {W : World} {ao : Option Addr} {n c : Nat} {ot : Bool} {R : List Rl} {w : World} (h : KD W ao n c ot R w) : w.rangeAt W.heap.size 0 [.slice ao n c, .bool ot] := cel_range h.p
theorem format_bad (W : World) (E : Nat → Addr) (hE : ErrS W E) (ao : Option Addr) (n c : Nat) (ot : Bool) (R : List Rl) (hn : R.length = n) (hr : RulesAt W ao R) (ok : ∀ r ∈ R, r.Ok) (hmax : (n : Int) ≤ 9223372036854775807) (hbad : okP R = false) :
    Calls Tryz.prog 29 #[.agg (polC ao n c ot).toArray] W fun e W' => e = .returned (.tuple #[.string ⟨#[]⟩, .int .i64 161]) ∧ Below W.heap.size W W' := by
  obtain ⟨X, hX⟩ : ∃ X, X = W.alloc (Obj.cells #[.slice ao n c, .bool ot] 24) := ⟨_, rfl⟩
  have Y0 : Hid (KD W ao n c ot R X) := hid (by rw [hX]; exact KD.start hr)
  have HE := hid (fun (w : World) (h : Below W.heap.size W w) => hE.on h)
  have HC := hid (checked_any X E (HE.out _ Y0.out.bl) ao n c ot R hn Y0.out.ru ok hmax)
  have HB := hid hbad
  clear hr hE hbad ok hn
  unfold polC at HC ⊢
  go_enter Tryz.func29, Tryz.ntmps29
  go_upto_region 1 with fail
  rw [← hX]
  clear hX
  go_upto_region 2 with (first | (refine wpList_load_mid rfl 24 _ rfl W.heap.size 0 rfl [.slice ao n c, .bool ot] _ (kd_load Y0.out) Tryz.underlying24 rfl size36 ?_) | (go_at_call 56; refine HC.out.mono ?_; rintro e w1 ⟨er, rfl, _, hb, hbl⟩; have HR := hid (hb HB.out); have Y1 := hid (below_on Y0.out.bl hbl); clear hb hbl))
  clear HC Y0 HB
  rcases HR.out with rfl | ⟨k, rfl⟩
  · have HN := hid (number_6 w1 E (HE.out _ Y1.out))
    clear HR
    go_wp2_with (first | (go_at_call 15; refine HN.out.mono ?_; rintro e w2 ⟨rfl, hw⟩; subst w2))
    go_ret2
    exact ⟨rfl, Y1.out⟩
  · have HN := hid (number_at w1 E (HE.out _ Y1.out) k)
    clear HR
    go_wp2_with (first | (go_at_call 15; refine HN.out.mono ?_; rintro e w2 ⟨rfl, hb⟩; have Y2 := hid (below_on Y1.out hb); clear hb))
    go_ret2
    exact ⟨rfl, Y2.out⟩
theorem join3 (a b c : ByteArray) (ha : a.size ≤ 5) (hb : b.size ≤ 24) (hc : c.size = 64) : (Lib.join ([a, b, c].map (·.data.toList)) [32]).length ≤ 1000000 := by
  have e : (Lib.join ([a, b, c].map (·.data.toList)) [32]) = a.data.toList ++ ([32] ++ (b.data.toList ++ ([32] ++ c.data.toList))) := by simp [Lib.join, List.intercalate]
  rw [e]
  simp only [List.length_append, lenD, List.length_cons, List.length_nil]
  omega
theorem join2 (a b : ByteArray) (ha : a.size ≤ 5) (hb : b.size ≤ 5) : (Lib.join ([a, b].map (·.data.toList)) [32]).length ≤ 1000000 := by
  rw [line2]
  simp only [List.length_append, lenD, List.length_cons, List.length_nil]
  omega
theorem line3_size (a b c : ByteArray) (ha : a.size ≤ 5) (hb : b.size ≤ 24) (hc : c.size = 64) : (lineB [a, b, c]).size ≤ 1000 := by
  rw [← lenD, line3D]
  simp only [List.length_append, List.length_cons, List.length_nil, lenD]
  omega
theorem good_nm {r : Rl} (h : r.Good) : r.nm.size ≤ 24 := by
  have := (name_all h.nm).2.1
  rwa [lenD] at this
theorem write_any2 (V w : World) (b : Nat) (l : List UInt8) (s : ByteArray) (h : BL V w b l) (hlen : l.length + s.size ≤ 140737488355328) :
    Calls Tryz.prog 57 #[.pointer (some ⟨b, 0, none⟩), .string s] w fun e w' => e = .returned (.tuple #[.int .i64 (s.size : Int), .nilIface]) ∧ BL V w' b (l ++ s.data.toList) ∧ ∀ k t cs, Cel w k t cs → k ≠ b → t ≠ 5 → Cel w' k t cs := by
  refine (Any.Builder_WriteString_k {Tryz.lays156 with} Tryz.extra156 V.heap.size b _ s w h.bld (by rw [Lib.byteCells_length]; exact hlen) h.below.size).mono ?_
  rintro e w' ⟨rfl, h1, h2, h3⟩
  refine ⟨rfl, ⟨.inr ?_, h.below.trans h2⟩, fun k t cs hc hk ht => h3 k _ hc (fun e => hk (Option.some.inj e)) (fun c fz e => ht (by injection e))⟩
  rw [Lib.byteCells_append]
  exact h1
structure FV (W V : World) (ao : Option Addr) (n c : Nat) (ot : Bool) (R : List Rl) : Prop where
  k : KD W ao n c ot R V
  t : TabW V
  z : 7 < W.heap.size
theorem FV.kd {W V w : World} {ao : Option Addr} {n c : Nat} {ot : Bool} {R : List Rl} (h : FV W V ao n c ot R) (hb : Below V.heap.size V w) : KD W ao n c ot R w := h.k.on hb
theorem FV.tab {W V w : World} {ao : Option Addr} {n c : Nat} {ot : Bool} {R : List Rl} (h : FV W V ao n c ot R) (hb : Below V.heap.size V w) : TabW w := h.t.below hb (by have := h.z; have := h.k.bl.size; omega)
theorem hex_at {w : World} (hT : TabW w) (hz : 7 < w.heap.size) {g : Nat} {r : Rl} (hc : Cel w g 63 r.cs) (hm : r.ms.length = 8) (wm : Wds r.ms) : Calls Tryz.prog 60 #[.slice (some ⟨g, 2, none⟩) 8 8] w fun e W' => e = .returned (.string (hexB r.ms)) ∧ Below w.heap.size w W' :=
  V.hexAll_any w hT g 2 8 8 r.ms hm wm (range_row (by have := Rl.atms (cel_range hc); rwa [Nat.zero_add] at this)) (by decide) hc.lt hz
attribute [-simp] Tryz.isAgg63 Tryz.zeroValue63 Tryz.isAgg24 Tryz.zeroValue24
theorem format_good (W : World) (E : Nat → Addr) (hE : ErrS W E) (hT : TabW W) (ao : Option Addr) (n c : Nat) (ot : Bool) (R : List Rl) (hn : R.length = n) (hr : RulesAt W ao R) (ok : ∀ r ∈ R, r.Ok) (hok : okP R = true) :
    Calls Tryz.prog 29 #[.agg (polC ao n c ot).toArray] W fun e W' => e = .returned (.tuple #[.string ⟨(textL (linesP R ot)).toArray⟩, .int .i64 0]) ∧ Below W.heap.size W W' := by
  have hz : ∀ w, (zeroValue 63).run Tryz.prog w = .ok (.agg #[.bool false, .string ⟨#[]⟩, .int .u32 0, .int .u32 0, .int .u32 0, .int .u32 0, .int .u32 0, .int .u32 0, .int .u32 0, .int .u32 0]) w := fun w => by rw [Tryz.zeroValue63]
  obtain ⟨hn2, hgood⟩ := okP_good ok hok
  obtain ⟨X, hX⟩ : ∃ X, X = W.alloc (Obj.cells #[.slice ao n c, .bool ot] 24) := ⟨_, rfl⟩
  have Y0 : Hid (KD W ao n c ot R X) := hid (by rw [hX]; exact KD.start hr)
  have hsz := hE.sz
  have HC := hid (checked_any X E (hE.on Y0.out.bl) ao n c ot R hn Y0.out.ru ok (by omega))
  have HOk := hid hok
  have HT := hid (fun (w : World) (h : Below W.heap.size W w) => hT.below h (by omega))
  have HZ := hid (show 7 < W.heap.size by omega)
  have HG := hid hgood
  have hn3 : n ≤ 256 := by omega
  have HV := hid (fun w a => verdict_any w a)
  have HAll := hid (accL_all R ot)
  have HLen := hid (text_len hgood ot)
  clear hr hE hT ok hok hsz hn2 hgood
  unfold polC at HC ⊢
  go_enter Tryz.func29, Tryz.ntmps29
  go_upto_region 1 with fail
  rw [← hX]
  clear hX
  go_upto_region 2 with (first | (refine wpList_load_mid rfl 24 _ rfl W.heap.size 0 rfl [.slice ao n c, .bool ot] _ (kd_load Y0.out) Tryz.underlying24 rfl size36 ?_) | (go_at_call 56; refine HC.out.mono ?_; rintro e w1 ⟨er, rfl, hb, _, hbl⟩; have HR := hid (hb HOk.out); have Y1 := hid (Y0.out.on hbl); clear hb hbl))
  obtain rfl := HR.out
  have HF : Hid (FV W w1 ao n c ot R) := hid ⟨Y1.out, HT.out _ Y1.out.bl, HZ.out⟩
  clear HC Y0 HOk HR HT HZ
  go_upto_region 5 with fail
  have B0 : Hid (BL w1 (w1.alloc (.cells #[.pointer none, .slice none 0 0] 133)) w1.heap.size [] ∧ w1.heap.size < (w1.alloc (.cells #[.pointer none, .slice none 0 0] 133)).heap.size) := hid ⟨BL.fresh w1, by simp⟩
  clear Y1
  generalize World.alloc _ _ = w2 at *
  have c0 : w2.cell? ⟨W.heap.size, 0, none⟩ = some (.slice ao n c) := (HF.out.kd B0.out.1.below).p.cell 0
  go_wp2_with fail
  clear c0
  go_loopw [17] (fun i wr => ∃ k : Nat, k ≤ n ∧ i = .int .i64 k ∧ BL w1 wr w1.heap.size (accL (R.take k)) ∧ w1.heap.size < wr.heap.size) (fun i _ => n - (intOf i).toNat)
  case atStart => exact ⟨0, Nat.zero_le _, rfl, B0.out.1, B0.out.2⟩
  case round =>
    clear B0
    obtain ⟨k, hk, rfl, hbl, hsl⟩ := hrel
    have B1 := hid hbl
    have HG7 := hid hsl
    clear hbl hsl
    by_cases hlt : k < n
    · have hkR : k < R.length := by omega
      obtain ⟨b, off, rfl, hra⟩ := (HF.out.kd B1.out.below).rule hkR
      have HS := hid (accL_snoc R k hkR)
      have HGr := hid (HG.out R[k] (List.getElem_mem hkR))
      have hll : (accL (R.take k)).length ≤ 24576 := by
        have := accL_len (R := R.take k) (fun r hr => HG.out r (List.take_subset _ _ hr))
        have := List.length_take_le k R
        omega
      generalize R[k] = r at *
      have hlr := r.len HGr.out.ml
      have HR := hid hra
      have HLL := hid hll
      have i3 : (k : Int) < (n : Int) := by omega
      have HN := hid (show k + 1 ≤ n by omega)
      have HLn := hid (fun (w : World) (g : Nat) (hc : Cel w g 9 [.string (vB r.al), .string r.nm, .string (hexB r.ms)]) => lineAt w g 3 [vB r.al, r.nm, hexB r.ms] rfl (by show 3 ≤ 1000; decide) (join3 _ _ _ (vB_size _) (good_nm HGr.out) (hexB_size HGr.out.ml)) hc)
      have HSz := hid (line3_size (vB r.al) r.nm (hexB r.ms) (vB_size _) (good_nm HGr.out) (hexB_size HGr.out.ml))
      have HLd := hid (rule_line r)
      generalize lineB [vB r.al, r.nm, hexB r.ms] = L3 at *
      have HHx := hid (fun (w : World) (g : Nat) (h : Below w1.heap.size w1 w) (hc : Cel w g 63 r.cs) => hex_at (HF.out.tab h) (by have := h.size; have := HF.out.z; have := HF.out.k.bl.size; omega) hc HGr.out.ml HGr.out.mw)
      clear hra hll hlt hk hkR
      go_upto_region 8 with (first | (refine wpList_load_mid rfl 63 _ rfl b (off + k * 10) rfl r.cs _ HR.out Tryz.underlying63 rfl (by rw [hlr]; exact size42) ?_) | (refine wpList_store_st rfl 63 _ _ rfl wr.heap.size r.cs rfl rfl (heap_alloc_new wr zrule) (by rw [hlr]; exact size42) (by rw [hlr]; rfl) r.one ?_; intro w3 hc3 hb3 hs3; have Y3 : Hid (BL w1 w3.drew w1.heap.size (accL (R.take k)) ∧ Cel w3.drew wr.heap.size 63 r.cs) := hid ⟨(B1.out.on (but_box hb3)).on (Below.refl _ _).drew, hc3.on (Below.refl _ _).drew⟩; clear hc3 hb3 hs3))
      generalize wr.heap.size = g7 at *
      clear B1 HR
      refine wp_region_held_drew (S := fun w => Cel w g7 63 r.cs) (by kernel_rfl) Y3.out.2 (fun hHeld => ?_)
      generalize World.drew _ = v3 at *
      refine tk 0 ⟨some 21, .fieldAddr 63 (.tmp 7) 0, 0, "policy.go:39", #[], none⟩ (.pointer (some ⟨g7, 0, none⟩)) ?_
      simp only [Act.put, List.setIfInBounds_toArray, List.set_cons_zero, List.set_cons_succ]
      refine tk 1 ⟨some 22, .load 4 (.tmp 21), 4, "policy.go:39", #[⟨0, .data⟩], none⟩ (.bool r.al) ?_ (hy := Or.inl ⟨by rfl, by intro w hSw; have hc := hSw.cell 0; simp only [Rl.cs, List.getElem?_cons_zero] at hc; go_simp⟩)
      simp only [Act.put, List.setIfInBounds_toArray, List.set_cons_zero, List.set_cons_succ]
      refine tk 3 ⟨some 24, .fieldAddr 63 (.tmp 7) 1, 0, "policy.go:39", #[], none⟩ (.pointer (some ⟨g7, 1, none⟩)) ?_
      simp only [Act.put, List.setIfInBounds_toArray, List.set_cons_zero, List.set_cons_succ]
      refine tk 4 ⟨some 25, .load 9 (.tmp 24), 9, "policy.go:39", #[⟨3, .data⟩], none⟩ (.string r.nm) ?_ (hy := Or.inl ⟨by rfl, by intro w hSw; have hc := hSw.cell 1; simp only [Rl.cs, List.getElem?_cons_zero, List.getElem?_cons_succ] at hc; go_simp⟩)
      simp only [Act.put, List.setIfInBounds_toArray, List.set_cons_zero, List.set_cons_succ]
      refine tk 5 ⟨some 26, .fieldAddr 63 (.tmp 7) 2, 0, "policy.go:39", #[], none⟩ (.pointer (some ⟨g7, 2, none⟩)) ?_
      simp only [Act.put, List.setIfInBounds_toArray, List.set_cons_zero, List.set_cons_succ]
      refine tk 6 ⟨some 27, .slice 26 (.tmp 26) none none none, 127, "policy.go:39", #[⟨5, .data⟩], none⟩ (.slice (some ⟨g7, 2, none⟩) 8 8) ?_
      simp only [Act.put, List.setIfInBounds_toArray, List.set_cons_zero, List.set_cons_succ]
      refine wpAnyH_ready (rs := [2]) (by kernel_rfl) (by simp) (AllReadyH.cons (o := ⟨some 23, .call { callee := .value (.func 59), args := #[.tmp 22], argTypes := #[4] }, 9, "policy.go:39", #[⟨1, .data⟩], none⟩) rfl (fun KQ hK => ?_) AllReadyH.nil)
      go_simp
      refine (HV.out _ _).mono ?_
      rintro e w4 ⟨rfl, hw⟩
      subst w4
      have Y4 := Y3
      clear Y3
      go_wp2_with fail
      refine hK.out _ _ Y4.out.2 (fun hHeld => ?_)
      clear hK KQ
      try simp only [Act.put, List.setIfInBounds_toArray, List.set_cons_zero, List.set_cons_succ]
      refine wpAnyH_ready (rs := [7]) (by kernel_rfl) (by simp) (AllReadyH.cons (o := ⟨some 28, .call { callee := .value (.func 60), args := #[.tmp 27], argTypes := #[127] }, 9, "policy.go:39", #[⟨6, .data⟩, ⟨2, .chain⟩], none⟩) rfl (fun KQ hK => ?_) AllReadyH.nil)
      go_simp
      refine (HHx.out _ _ Y4.out.1.below Y4.out.2).mono ?_
      rintro e w5 ⟨rfl, hb⟩
      have Y5 : Hid (BL w1 w5 w1.heap.size (accL (R.take k)) ∧ Cel w5 g7 63 r.cs) := hid ⟨Y4.out.1.on hb, Y4.out.2.on hb⟩
      clear hb Y4
      go_wp2_with fail
      refine hK.out _ _ Y5.out.2 (fun hHeld => ?_)
      clear hK KQ
      try simp only [Act.put, List.setIfInBounds_toArray, List.set_cons_zero, List.set_cons_succ]
      refine wpAnyH_ready (rs := [8]) (by kernel_rfl) (by simp) (AllReadyH.cons (o := ⟨some 29, .buildSlice 52 3 #[(0, .tmp 23), (1, .tmp 25), (2, .tmp 28)], 52, "policy.go:39", #[⟨2, .data⟩, ⟨4, .data⟩, ⟨7, .data⟩], none⟩) rfl (fun KQ hK => ?_) AllReadyH.nil)
      go_simp
      have Y6 : Hid (BL w1 (w5.alloc (.cells #[.string (vB r.al), .string r.nm, .string (hexB r.ms)] 9)) w1.heap.size (accL (R.take k)) ∧ Cel (w5.alloc (.cells #[.string (vB r.al), .string r.nm, .string (hexB r.ms)] 9)) g7 63 r.cs) := hid ⟨Y5.out.1.on (below_one _ _), Y5.out.2.on (below_one _ _)⟩
      have HSrc : Hid (Cel (w5.alloc (.cells #[.string (vB r.al), .string r.nm, .string (hexB r.ms)] 9)) w5.heap.size 9 [.string (vB r.al), .string r.nm, .string (hexB r.ms)]) := hid (heap_alloc_new _ _)
      clear Y5
      generalize World.alloc _ _ = w6 at *
      generalize w5.heap.size = g9 at *
      refine hK.out _ _ Y6.out.2 (fun hHeld => ?_)
      clear hK KQ
      try simp only [Act.put, List.setIfInBounds_toArray, List.set_cons_zero, List.set_cons_succ]
      refine wpAnyH_ready (rs := [9]) (by kernel_rfl) (by simp) (AllReadyH.cons (o := ⟨some 30, .call { callee := .value (.func 58), args := #[.tmp 29], argTypes := #[52] }, 9, "policy.go:39", #[⟨8, .data⟩, ⟨7, .chain⟩], none⟩) rfl (fun KQ hK => ?_) AllReadyH.nil)
      go_simp
      refine (HLn.out _ _ HSrc.out).mono ?_
      rintro e w7 ⟨rfl, hb⟩
      have Y7 : Hid (BL w1 w7 w1.heap.size (accL (R.take k)) ∧ Cel w7 g7 63 r.cs) := hid ⟨Y6.out.1.on hb, Y6.out.2.on hb⟩
      clear hb Y6 HSrc
      go_wp2_with fail
      refine hK.out _ _ Y7.out.2 (fun hHeld => ?_)
      clear hK KQ
      try simp only [Act.put, List.setIfInBounds_toArray, List.set_cons_zero, List.set_cons_succ]
      refine wpAnyH_ready (rs := [10]) (by kernel_rfl) (by simp) (AllReadyH.cons (o := ⟨some 31, .call { callee := .value (.func 57), args := #[.tmp 5, .tmp 30], argTypes := #[133, 9] }, 134, "policy.go:39", #[⟨9, .data⟩, ⟨9, .chain⟩], none⟩) rfl (fun KQ hK => ?_) AllReadyH.nil)
      go_simp
      refine (write_any2 w1 _ _ _ _ Y7.out.1 (by have := HLL.out; have := HSz.out; omega)).mono ?_
      rintro e w8 ⟨rfl, hb, hk⟩
      have Y8 : Hid (BL w1 w8 w1.heap.size (accL (R.take k) ++ L3.data.toList) ∧ Cel w8 g7 63 r.cs) := hid ⟨hb, hk _ _ _ Y7.out.2 (by have := HG7.out; omega) (by decide)⟩
      clear hb hk Y7
      go_wp2_with fail
      refine hK.out _ _ Y8.out.2 (fun hHeld => ?_)
      clear hK KQ
      try simp only [Act.put, List.setIfInBounds_toArray, List.set_cons_zero, List.set_cons_succ]
      refine wpAnyH_done (by kernel_rfl) ?_ _
      go_wp2_with fail
      go_roundw
      case rel => exact ⟨k + 1, HN.out, by go_num, by have := Y8.out.1; rw [HLd.out, HS.out] at this; exact this, Nat.lt_trans HG7.out Y8.out.2.lt⟩
      case measure => have := HN.out; simp [intOf]; omega
    · obtain rfl : k = n := by omega
      have B2 : Hid (BL w1 wr w1.heap.size (accL R)) := hid (by have := B1.out; rwa [List.take_of_length_le (by omega)] at this)
      have c1 : wr.cell? ⟨W.heap.size, 1, none⟩ = some (.bool ot) := (HF.out.kd B1.out.below).p.cell 1
      have HLn := hid (fun (w : World) (g : Nat) (hc : Cel w g 9 [.string othB, .string (vB ot)]) => lineAt w g 2 [othB, vB ot] rfl (by show 2 ≤ 1000; decide) (join2 _ _ (by decide) (vB_size _)) hc)
      have HSz := hid (show (lineB [othB, vB ot]).size ≤ 12 by have := vB_size ot; rw [line2_size, show othB.size = 5 by decide]; omega)
      have HLd := hid (oth_line ot)
      generalize lineB [othB, vB ot] = L2 at *
      have hacc : (accL R).length ≤ 24576 := by
        have := accL_len (R := R) HG.out
        omega
      have HLL := hid hacc
      unfold othB oL at HLn
      clear B1 hacc
      go_upto_region 11 with (first | (go_at_call 59; refine (HV.out _ _).mono ?_; rintro e w3 ⟨rfl, hw⟩; subst w3) | (go_at_call 58; refine (HLn.out _ _ (heap_alloc_new _ _)).mono ?_; rintro e w4 ⟨rfl, hb⟩; have B4 := hid (B2.out.on (below_on (below_one _ _) hb)); clear hb) | (go_at_call 57; refine (write_any w1 _ _ _ _ B4.out (by have := HLL.out; have := HSz.out; omega)).mono ?_; rintro e w5 ⟨rfl, hb⟩; have B5 := hid hb; clear hb))
      clear B4 B2
      go_wp2_with (first | (go_at_call 61; refine (string_any w1 _ _ _ B5.out).mono ?_; rintro e w6 ⟨rfl, hb⟩; have B6 := hid (HF.out.k.bl.trans (hb.mono HF.out.k.bl.size)); clear hb))
      go_ret2
      exact ⟨by rw [HLd.out, HAll.out]; rfl, B6.out⟩
end Go.Proofs.YtbpdmkohihgnjaaGreatDoor
namespace Go.Proofs.YtbpdmkohihgnjaaGreatDoor
open Go.RowKit
set_option maxHeartbeats 4000000
set_option maxRecDepth 100000
def zruD : Obj := .cells #[.bool false, .string ⟨#[]⟩, .int .u32 0, .int .u32 0, .int .u32 0, .int .u32 0, .int .u32 0, .int .u32 0, .int .u32 0, .int .u32 0] 60
theorem word62_any (W : World) (a : Bool) : Calls Tryz.prog 62 #[.bool a] W fun e W' => e = .returned (.string (vB a)) ∧ W' = W := by
  cases a
  · go_enter Tryz.func62, Tryz.ntmps62
    go_wp2_with fail
    go_ret
    exact ⟨rfl, rfl⟩
  · go_enter Tryz.func62, Tryz.ntmps62
    go_wp2_with fail
    go_ret
    exact ⟨rfl, rfl⟩
def fmP (R : List Rl) (ot : Bool) : ByteArray × Int := if okP R = true then (⟨(textL (linesP R ot)).toArray⟩, 0) else (⟨#[]⟩, 161)
theorem fmP_bad {R : List Rl} {ot : Bool} (h : okP R = false) : fmP R ot = (⟨#[]⟩, 161) := by unfold fmP; rw [if_neg (by rw [h]; decide)]
theorem fmP_good {R : List Rl} {ot : Bool} (h : okP R = true) : fmP R ot = (⟨(textL (linesP R ot)).toArray⟩, 0) := by unfold fmP; rw [if_pos h]
theorem okP_allD {R : List Rl} (hn : R.length ≤ 256) (h : ∀ r ∈ R, L.T.name r.nm.data.toList = true) : okP R = true := by
  unfold okP
  rw [Bool.and_eq_true, decide_eq_true_eq, List.all_eq_true]
  exact ⟨hn, h⟩
structure FD (W : World) (ad : Option Addr) (n cd : Nat) (ot : Bool) (w : World) : Prop where
  bl : Below W.heap.size W w
  p : Cel w W.heap.size 36 [.slice ad n cd, .bool ot]
theorem FD.on {W : World} {ad : Option Addr} {n cd : Nat} {ot : Bool} {w w' : World} (h : FD W ad n cd ot w) (hb : Below w.heap.size w w') : FD W ad n cd ot w' := ⟨below_on h.bl hb, h.p.on hb⟩
attribute [-simp] Tryz.isAgg26 Tryz.zeroValue26 Tryz.isAgg36 Tryz.zeroValue36 Tryz.isAgg60 Tryz.zeroValue60
theorem line_new (s nm x : ByteArray) (al : Bool) {l : List UInt8} (hs : s.data.toList = l) : ((((((s ++ vB al) ++ (⟨#[32]⟩ : ByteArray)) ++ nm) ++ (⟨#[32]⟩ : ByteArray)) ++ x) ++ (⟨#[10]⟩ : ByteArray)).data.toList = l ++ ((vL al ++ 32 :: (nm.data.toList ++ 32 :: x.data.toList)) ++ [10]) := by
  simp only [data_app, hs, List.append_assoc]
  simp [vB]
theorem line_end (s : ByteArray) (ot : Bool) {l : List UInt8} (hs : s.data.toList = l) : (((s ++ (⟨#[111, 116, 104, 101, 114, 32]⟩ : ByteArray)) ++ vB ot) ++ (⟨#[10]⟩ : ByteArray)).data.toList = l ++ (othL ot ++ [10]) := by
  simp only [data_app, hs, List.append_assoc]
  simp [vB, othL, oL]
theorem fmtD31_any (W : World) (ad : Option Addr) (n cd : Nat) (ot : Bool) (R : List Rl) (hn : R.length = n) (hr : RulesAt W ad R) (ok : ∀ r ∈ R, r.Ok) (hmax : n ≤ 2000000) :
    Calls Tryz.prog 31 #[.agg #[.slice ad n cd, .bool ot]] W fun e W' => e = .returned (.tuple #[.string (fmP R ot).1, .int .i64 (fmP R ot).2]) ∧ Below W.heap.size W W' := by
  have hz60 : ∀ w, (zeroValue 60).run Tryz.prog w = .ok (.agg #[.bool false, .string ⟨#[]⟩, .int .u32 0, .int .u32 0, .int .u32 0, .int .u32 0, .int .u32 0, .int .u32 0, .int .u32 0, .int .u32 0]) w := fun w => by rw [Tryz.zeroValue60]
  obtain ⟨X, hX⟩ : ∃ X, X = W.alloc (Obj.cells #[.slice ad n cd, .bool ot] 36) := ⟨_, rfl⟩
  have Y0 : Hid (FD W ad n cd ot X) := hid (by
    refine ⟨by rw [hX]; exact below_one W _, ?_⟩
    rw [hX]; exact heap_alloc_new _ _)
  have HRu := hid hr
  have HOk := hid ok
  have HWd := hid (fun w a => word62_any w a)
  have c0 : X.cell? ⟨W.heap.size, 0, none⟩ = some (.slice ad n cd) := Y0.out.p.cell 0
  obtain ⟨F, hF⟩ : ∃ F, F = fmP R ot := ⟨_, rfl⟩
  rw [← hF]
  have HF0 := hid hF
  clear hr ok hF
  by_cases hbig : 256 < n
  · have HR : Hid (F = (⟨#[]⟩, 161)) := hid (by rw [HF0.out]; exact fmP_bad (okP_long (by omega)))
    have i1 : (256 : Int) < (n : Int) := by omega
    clear HF0 hbig
    go_enter Tryz.func31, Tryz.ntmps31
    go_upto_region 1 with fail
    rw [← hX]
    clear hX
    go_wp2_with fail
    go_returns
    rw [HR.out]
    exact ⟨rfl, Y0.out.bl⟩
  · have i1 : (n : Int) ≤ 256 := by omega
    go_enter Tryz.func31, Tryz.ntmps31
    go_upto_region 1 with fail
    rw [← hX]
    clear hX
    go_upto_region 5 with fail
    clear c0
    go_loopw [4, 5] (fun sv i wr => ∃ (k : Nat) (s : ByteArray), k ≤ n ∧ sv = .string s ∧ i = .int .i64 k ∧ FD W ad n cd ot wr ∧ s.data.toList = accL (R.take k) ∧ (∀ r ∈ R.take k, L.T.name r.nm.data.toList = true)) (fun _ i _ => n - (intOf i).toNat)
    case atStart => exact ⟨0, ⟨#[]⟩, Nat.zero_le _, rfl, rfl, Y0.out, rfl, fun r hr => by simp at hr⟩
    case round =>
      clear Y0
      obtain ⟨k, s, hk, rfl, rfl, hs, hacc, hnms⟩ := hrel
      have Y1 := hid hs
      have HA := hid hacc
      have HNm := hid hnms
      have hsl : (accL (R.take k)).length ≤ 24576 := by
        have := accL_len (R := R.take k) (fun r hr => ⟨(HOk.out r (List.take_subset _ _ hr)).ml, (HOk.out r (List.take_subset _ _ hr)).mw, hnms r hr⟩)
        have := List.length_take_le k R
        omega
      rw [← hacc, lenD] at hsl
      clear hs hacc hnms
      have d0 : wr.cell? ⟨W.heap.size, 0, none⟩ = some (.slice ad n cd) := Y1.out.p.cell 0
      by_cases hlt : k < n
      · obtain ⟨b1, o1, rfl⟩ := rules_row HRu.out (k := k) (by omega)
        have hkR : k < R.length := by omega
        have hRk : R[k]? = some (R[k]) := List.getElem?_eq_getElem hkR
        have hsn := accL_snoc R k hkR
        have htk : R.take (k + 1) = R.take k ++ [R[k]] := (List.take_append_getElem hkR).symm
        have HMem : Hid (R[k] ∈ R) := hid (List.getElem_mem _)
        generalize R[k] = r at *
        have HO := hid (HOk.out r HMem.out)
        have HRr := hid (rules_at (HRu.out.on Y1.out.bl) hRk)
        have hlr := r.len HO.out.ml
        have HN := hid (show k + 1 ≤ n by omega)
        have HSN := hid hsn
        have HTK := hid htk
        have i3 : (k : Int) < (n : Int) := by omega
        have HSL := hid hsl
        have HNa := hid (fun w => L.rname_any w r.nm HO.out.nl)
        have i4 : (k : Int) ≤ 256 := by omega
        clear hRk hk hlt hsn htk hsl hkR
        cases hnm : L.T.name r.nm.data.toList
        · have HR : Hid (F = (⟨#[]⟩, 161)) := hid (by rw [HF0.out]; exact fmP_bad (okP_name HMem.out hnm))
          have HNa2 : Hid (∀ w, Calls Tryz.prog 27 #[.string r.nm] w fun e w' => e = .returned (.int .i64 42) ∧ w = w') := hid (by have := HNa.out; rw [hnm] at this; exact this)
          clear HNa HNm HA HSN HTK HSL hnm
          go_upto_region 8 with (first | (refine wpList_load_mid rfl 60 _ rfl b1 (o1 + k * 10) rfl r.cs _ HRr.out Tryz.underlying60 rfl (by rw [hlr]; exact size60) ?_) | (refine wpList_store_st rfl 60 _ _ rfl wr.heap.size r.cs rfl rfl (heap_alloc_new wr zruD) (by rw [hlr]; exact size60) (by rw [hlr]; rfl) r.one ?_; intro w2 hc2 hb2 hs2; have Y2 : Hid (FD W (some ⟨b1, o1, none⟩) n cd ot w2 ∧ Cel w2 wr.heap.size 60 r.cs) := hid ⟨Y1.out.on (but_box hb2), hc2⟩; clear hc2 hb2 hs2 Y1 d0 HRr; generalize wr.heap.size = g6 at *))
          have y1 : w2.cell? ⟨g6, 1, none⟩ = some (.string r.nm) := Y2.out.2.cell 1
          go_wp2_with (first | (go_at_call 27; refine (HNa2.out _).mono ?_; rintro e w' ⟨rfl, rfl⟩))
          go_returns
          rw [HR.out]
          exact ⟨rfl, Y2.out.1.bl⟩
        · have HNa2 : Hid (∀ w, Calls Tryz.prog 27 #[.string r.nm] w fun e w' => e = .returned (.int .i64 0) ∧ w = w') := hid (by have := HNa.out; rw [hnm] at this; exact this)
          have HNm2 : Hid (∀ x ∈ R.take (k + 1), L.T.name x.nm.data.toList = true) := hid (fun x hx => by
            rw [HTK.out] at hx
            rcases List.mem_append.1 hx with hx | hx
            · exact HNm.out x hx
            · rw [List.mem_singleton.1 hx]; exact hnm)
          have HSz : Hid (s.size ≤ 24576 ∧ (vB r.al).size ≤ 5 ∧ r.nm.size ≤ 24 ∧ (hexB r.ms).size = 64 ∧ (⟨#[32]⟩ : ByteArray).size = 1 ∧ (⟨#[10]⟩ : ByteArray).size = 1) := hid ⟨HSL.out, vB_size _, good_nm ⟨HO.out.ml, HO.out.mw, hnm⟩, hexB_size HO.out.ml, rfl, rfl⟩
          have HA2 : Hid (((((((s ++ vB r.al) ++ (⟨#[32]⟩ : ByteArray)) ++ r.nm) ++ (⟨#[32]⟩ : ByteArray)) ++ hexB r.ms) ++ (⟨#[10]⟩ : ByteArray)).data.toList = accL (R.take (k + 1))) := hid (by rw [line_new s r.nm (hexB r.ms) r.al HA.out, ← HSN.out]; rfl)
          have HHx := hid (fun (w : World) (g : Nat) (h : Cel w g 60 r.cs) => rhexAt 2 r.ms h.lt HO.out.ml HO.out.mw (r.atms (o := 0) (cel_range h)))
          clear HNa HNm HA HSN HTK HSL hnm
          go_upto_region 8 with (first | (refine wpList_load_mid rfl 60 _ rfl b1 (o1 + k * 10) rfl r.cs _ HRr.out Tryz.underlying60 rfl (by rw [hlr]; exact size60) ?_) | (refine wpList_store_st rfl 60 _ _ rfl wr.heap.size r.cs rfl rfl (heap_alloc_new wr zruD) (by rw [hlr]; exact size60) (by rw [hlr]; rfl) r.one ?_; intro w2 hc2 hb2 hs2; have Y2 : Hid (FD W (some ⟨b1, o1, none⟩) n cd ot w2 ∧ Cel w2 wr.heap.size 60 r.cs) := hid ⟨Y1.out.on (but_box hb2), hc2⟩; clear hc2 hb2 hs2 Y1 d0 HRr; generalize wr.heap.size = g6 at *))
          have y1 : w2.cell? ⟨g6, 1, none⟩ = some (.string r.nm) := Y2.out.2.cell 1
          go_upto_region 10 with (first | (go_at_call 27; refine (HNa2.out _).mono ?_; rintro e w' ⟨rfl, rfl⟩))
          clear y1
          have Y3 : Hid (FD W (some ⟨b1, o1, none⟩) n cd ot w2.drew ∧ Cel w2.drew g6 60 r.cs) := hid ⟨Y2.out.1.on (Below.refl _ _).drew, Y2.out.2.on (Below.refl _ _).drew⟩
          clear Y2 HNa2
          refine wp_region_held_drew (S := fun w => Cel w g6 60 r.cs) (by kernel_rfl) Y3.out.2 (fun hHeld => ?_)
          generalize World.drew _ = wz at *
          refine tk 0 ⟨some 27, .move (.tmp 4), 9, "ref.go:180", #[], none⟩ (.string s) ?_
          simp only [Act.put, List.setIfInBounds_toArray, List.set_cons_zero, List.set_cons_succ]
          refine tk 1 ⟨some 28, .fieldAddr 60 (.tmp 6) 0, 0, "ref.go:180", #[], none⟩ (.pointer (some ⟨g6, 0, none⟩)) ?_
          simp only [Act.put, List.setIfInBounds_toArray, List.set_cons_zero, List.set_cons_succ]
          refine tk 2 ⟨some 29, .load 4 (.tmp 28), 4, "ref.go:180", #[⟨1, .data⟩], none⟩ (.bool r.al) ?_ (hy := Or.inl ⟨by rfl, by intro w hSw; have y0 : w.cell? ⟨g6, 0, none⟩ = some (.bool r.al) := hSw.cell 0; go_simp⟩)
          simp only [Act.put, List.setIfInBounds_toArray, List.set_cons_zero, List.set_cons_succ]
          refine tk 6 ⟨some 33, .fieldAddr 60 (.tmp 6) 1, 0, "ref.go:180", #[], none⟩ (.pointer (some ⟨g6, 1, none⟩)) ?_
          simp only [Act.put, List.setIfInBounds_toArray, List.set_cons_zero, List.set_cons_succ]
          refine tk 7 ⟨some 34, .load 9 (.tmp 33), 9, "ref.go:180", #[⟨6, .data⟩], none⟩ (.string r.nm) ?_ (hy := Or.inl ⟨by rfl, by intro w hSw; have y0 : w.cell? ⟨g6, 1, none⟩ = some (.string r.nm) := hSw.cell 1; go_simp⟩)
          simp only [Act.put, List.setIfInBounds_toArray, List.set_cons_zero, List.set_cons_succ]
          refine tk 10 ⟨some 37, .fieldAddr 60 (.tmp 6) 2, 0, "ref.go:180", #[], none⟩ (.pointer (some ⟨g6, 2, none⟩)) ?_
          simp only [Act.put, List.setIfInBounds_toArray, List.set_cons_zero, List.set_cons_succ]
          refine tk 11 ⟨some 38, .slice 26 (.tmp 37) none none none, 127, "ref.go:180", #[⟨10, .data⟩], none⟩ (.slice (some ⟨g6, 2, none⟩) 8 8) ?_
          simp only [Act.put, List.setIfInBounds_toArray, List.set_cons_zero, List.set_cons_succ]
          refine wpAnyH_ready (rs := [3]) (by kernel_rfl) (by simp) (AllReadyH.cons (o := ⟨some 30, .call { callee := .value (.func 62), args := #[.tmp 29], argTypes := #[4] }, 9, "ref.go:180", #[⟨2, .data⟩], none⟩) rfl (fun KQ hK => ?_) AllReadyH.nil)
          go_simp
          refine (HWd.out _ _).mono ?_
          rintro e w' ⟨rfl, hw⟩
          subst w'
          go_wp2_with fail
          refine hK.out _ _ Y3.out.2 (fun hHeld => ?_)
          clear hK KQ
          try simp only [Act.put, List.setIfInBounds_toArray, List.set_cons_zero, List.set_cons_succ]
          refine tk 4 ⟨some 31, .binOp .add 9 (.tmp 27) (.tmp 30) 9, 9, "ref.go:180", #[⟨0, .data⟩, ⟨3, .data⟩], none⟩ (.string (s ++ vB r.al)) ?_ (hy := Or.inl ⟨by rfl, by intro w hSw; obtain ⟨z1, z2, z3, z4, z5, z6⟩ := HSz.out; have q1 : s.size ≤ 30000 := (by first | omega | (simp only [ByteArray.size_append]; omega)); have q2 : (vB r.al).size ≤ 1000 := (by omega); go_simp <;> omega⟩)
          simp only [Act.put, List.setIfInBounds_toArray, List.set_cons_zero, List.set_cons_succ]
          refine tk 5 ⟨some 32, .binOp .add 9 (.tmp 31) (.const (.string { data := #[32] })) 9, 9, "ref.go:180", #[⟨4, .data⟩], none⟩ (.string ((s ++ vB r.al) ++ (⟨#[32]⟩ : ByteArray))) ?_ (hy := Or.inl ⟨by rfl, by intro w hSw; obtain ⟨z1, z2, z3, z4, z5, z6⟩ := HSz.out; have q1 : (s ++ vB r.al).size ≤ 30000 := (by first | omega | (simp only [ByteArray.size_append]; omega)); have q2 : ((⟨#[32]⟩ : ByteArray)).size ≤ 1000 := (by omega); go_simp <;> omega⟩)
          simp only [Act.put, List.setIfInBounds_toArray, List.set_cons_zero, List.set_cons_succ]
          refine tk 8 ⟨some 35, .binOp .add 9 (.tmp 32) (.tmp 34) 9, 9, "ref.go:180", #[⟨5, .data⟩, ⟨7, .data⟩], none⟩ (.string (((s ++ vB r.al) ++ (⟨#[32]⟩ : ByteArray)) ++ r.nm)) ?_ (hy := Or.inl ⟨by rfl, by intro w hSw; obtain ⟨z1, z2, z3, z4, z5, z6⟩ := HSz.out; have q1 : ((s ++ vB r.al) ++ (⟨#[32]⟩ : ByteArray)).size ≤ 30000 := (by first | omega | (simp only [ByteArray.size_append]; omega)); have q2 : (r.nm).size ≤ 1000 := (by omega); go_simp <;> omega⟩)
          simp only [Act.put, List.setIfInBounds_toArray, List.set_cons_zero, List.set_cons_succ]
          refine tk 9 ⟨some 36, .binOp .add 9 (.tmp 35) (.const (.string { data := #[32] })) 9, 9, "ref.go:180", #[⟨8, .data⟩], none⟩ (.string ((((s ++ vB r.al) ++ (⟨#[32]⟩ : ByteArray)) ++ r.nm) ++ (⟨#[32]⟩ : ByteArray))) ?_ (hy := Or.inl ⟨by rfl, by intro w hSw; obtain ⟨z1, z2, z3, z4, z5, z6⟩ := HSz.out; have q1 : (((s ++ vB r.al) ++ (⟨#[32]⟩ : ByteArray)) ++ r.nm).size ≤ 30000 := (by first | omega | (simp only [ByteArray.size_append]; omega)); have q2 : ((⟨#[32]⟩ : ByteArray)).size ≤ 1000 := (by omega); go_simp <;> omega⟩)
          simp only [Act.put, List.setIfInBounds_toArray, List.set_cons_zero, List.set_cons_succ]
          refine wpAnyH_ready (rs := [12]) (by kernel_rfl) (by simp) (AllReadyH.cons (o := ⟨some 39, .call { callee := .value (.func 63), args := #[.tmp 38], argTypes := #[127] }, 9, "ref.go:180", #[⟨11, .data⟩, ⟨3, .chain⟩], none⟩) rfl (fun KQ hK => ?_) AllReadyH.nil)
          go_simp
          refine (HHx.out _ _ Y3.out.2).mono ?_
          rintro e w5 ⟨rfl, hb⟩
          have Y5 : Hid (FD W (some ⟨b1, o1, none⟩) n cd ot w5 ∧ Cel w5 g6 60 r.cs) := hid ⟨Y3.out.1.on hb, Y3.out.2.on hb⟩
          clear hb Y3
          go_wp2_with fail
          refine hK.out _ _ Y5.out.2 (fun hHeld => ?_)
          clear hK KQ
          try simp only [Act.put, List.setIfInBounds_toArray, List.set_cons_zero, List.set_cons_succ]
          refine tk 13 ⟨some 40, .binOp .add 9 (.tmp 36) (.tmp 39) 9, 9, "ref.go:180", #[⟨9, .data⟩, ⟨12, .data⟩], none⟩ (.string (((((s ++ vB r.al) ++ (⟨#[32]⟩ : ByteArray)) ++ r.nm) ++ (⟨#[32]⟩ : ByteArray)) ++ hexB r.ms)) ?_ (hy := Or.inl ⟨by rfl, by intro w hSw; obtain ⟨z1, z2, z3, z4, z5, z6⟩ := HSz.out; have q1 : ((((s ++ vB r.al) ++ (⟨#[32]⟩ : ByteArray)) ++ r.nm) ++ (⟨#[32]⟩ : ByteArray)).size ≤ 30000 := (by first | omega | (simp only [ByteArray.size_append]; omega)); have q2 : (hexB r.ms).size ≤ 1000 := (by omega); go_simp <;> omega⟩)
          simp only [Act.put, List.setIfInBounds_toArray, List.set_cons_zero, List.set_cons_succ]
          refine tk 14 ⟨some 41, .binOp .add 9 (.tmp 40) (.const (.string { data := #[10] })) 9, 9, "ref.go:180", #[⟨13, .data⟩], none⟩ (.string ((((((s ++ vB r.al) ++ (⟨#[32]⟩ : ByteArray)) ++ r.nm) ++ (⟨#[32]⟩ : ByteArray)) ++ hexB r.ms) ++ (⟨#[10]⟩ : ByteArray))) ?_ (hy := Or.inl ⟨by rfl, by intro w hSw; obtain ⟨z1, z2, z3, z4, z5, z6⟩ := HSz.out; have q1 : (((((s ++ vB r.al) ++ (⟨#[32]⟩ : ByteArray)) ++ r.nm) ++ (⟨#[32]⟩ : ByteArray)) ++ hexB r.ms).size ≤ 30000 := (by first | omega | (simp only [ByteArray.size_append]; omega)); have q2 : ((⟨#[10]⟩ : ByteArray)).size ≤ 1000 := (by omega); go_simp <;> omega⟩)
          simp only [Act.put, List.setIfInBounds_toArray, List.set_cons_zero, List.set_cons_succ]
          refine wpAnyH_ready (rs := [15]) (by kernel_rfl) (by simp) (AllReadyH.cons (o := ⟨some 4, .assign (.tmp 41), 9, "ref.go:180", #[⟨14, .data⟩, ⟨12, .chain⟩, ⟨0, .phase⟩, ⟨1, .phase⟩, ⟨2, .phase⟩, ⟨3, .phase⟩, ⟨4, .phase⟩, ⟨5, .phase⟩, ⟨6, .phase⟩, ⟨7, .phase⟩, ⟨8, .phase⟩, ⟨9, .phase⟩, ⟨10, .phase⟩, ⟨11, .phase⟩, ⟨12, .phase⟩, ⟨13, .phase⟩, ⟨14, .phase⟩], none⟩) rfl (fun KQ hK => ?_) AllReadyH.nil)
          go_simp
          refine hK.out _ _ Y5.out.2 (fun hHeld => ?_)
          clear hK KQ
          try simp only [Act.put, List.setIfInBounds_toArray, List.set_cons_zero, List.set_cons_succ]
          refine wpAnyH_done (by kernel_rfl) ?_ _
          go_wp2_with fail
          go_roundw
          case rel => exact ⟨k + 1, _, HN.out, rfl, by go_num, Y5.out.1, HA2.out, HNm2.out⟩
          case measure => have := HN.out; simp [intOf]; omega
      · obtain rfl : k = n := by omega
        have htk : R.take k = R := List.take_of_length_le (by omega)
        rw [htk] at HA HNm
        have HR : Hid (F = (⟨(textL (linesP R ot)).toArray⟩, 0)) := hid (by rw [HF0.out]; exact fmP_good (okP_allD (by omega) HNm.out))
        have HE : Hid ((((s ++ (⟨#[111, 116, 104, 101, 114, 32]⟩ : ByteArray)) ++ vB ot) ++ (⟨#[10]⟩ : ByteArray)) = ⟨(textL (linesP R ot)).toArray⟩) := hid (bytes_ext (by rw [line_end s ot HA.out, accL_all]))
        have z1 : (s.size : Int) ≤ 24576 := by omega
        have z2 : (vB ot).size ≤ 5 := vB_size ot
        have d1 : wr.cell? ⟨W.heap.size, 1, none⟩ = some (.bool ot) := Y1.out.p.cell 1
        have z3 : (⟨#[111, 116, 104, 101, 114, 32]⟩ : ByteArray).size = 6 := rfl
        have z4 : (⟨#[10]⟩ : ByteArray).size = 1 := rfl
        have z5 : (s ++ (⟨#[111, 116, 104, 101, 114, 32]⟩ : ByteArray)).size ≤ 24600 := by rw [ByteArray.size_append]; omega
        have z6 : ((s ++ (⟨#[111, 116, 104, 101, 114, 32]⟩ : ByteArray)) ++ vB ot).size ≤ 24700 := by rw [ByteArray.size_append]; omega
        clear htk HA HNm hk hlt
        go_wp2_with (first | (go_at_call 62; refine (HWd.out _ _).mono ?_; rintro e w' ⟨rfl, hw⟩; subst w'))
        go_returns
        rw [HR.out, ← HE.out]
        exact ⟨rfl, Y1.out.bl⟩
end Go.Proofs.YtbpdmkohihgnjaaGreatDoor
