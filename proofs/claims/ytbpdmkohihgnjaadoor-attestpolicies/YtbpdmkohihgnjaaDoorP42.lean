import Derived.Shelf.Strings.BuilderK
import Derived.Test.YtbpdmkohihgnjaaDoorP22
import Derived.Test.YtbpdmkohihgnjaaDoorP24
import Derived.Test.YtbpdmkohihgnjaaDoorP41
import Derived.Test.YtbpdmkohihgnjaaDoorP01
import Derived.Test.YtbpdmkohihgnjaaDoorP27
namespace Go.Proofs.YtbpdmkohihgnjaaDoor
open Go.RowKit
structure BL (V w : World) (b : Nat) (l : List UInt8) : Prop where
  bld : Lib.IsBuilderF 98 5 V.heap.size b (Lib.byteCells l) w
  below : Below V.heap.size V w
theorem builderAtF_on {B b : Nat} {p : Value} {bs : List Value} {w w' : World} (h : Lib.BuilderAtF 98 5 B b p bs w) (hb : Below w.heap.size w w') : Lib.BuilderAtF 98 5 B b p bs w' := by
  obtain ⟨hB, v, hbk, hown, hne⟩ := h
  refine ⟨hB, v, by rw [hb.block b (Array.getElem?_eq_some_iff.1 hbk).1]; exact hbk, ⟨hown.1, ?_⟩, hne⟩
  exact hown.2.imp id fun ⟨g, cap, cur, fz, hv, hbg, hg, r⟩ => ⟨g, cap, cur, fz, hv, hbg, by rw [hb.block g (Array.getElem?_eq_some_iff.1 hg).1]; exact hg, r⟩
theorem BL.on {V w w' : World} {b : Nat} {l : List UInt8} (h : BL V w b l) (hb : Below w.heap.size w w') : BL V w' b l :=
  ⟨h.bld.imp (fun x => builderAtF_on x hb) (fun x => builderAtF_on x hb), h.below.trans (hb.mono h.below.size)⟩
theorem BL.fresh (w : World) : BL w (w.alloc (.cells #[.pointer none, .slice none 0 0] 98)) w.heap.size [] :=
  ⟨(Lib.fresh_isBuilder 98 5 w).imp (fun x => Lib.BuilderAtF.of x) (fun x => Lib.BuilderAtF.of x), (Below.refl _ w).alloc (Nat.le_refl _) _⟩
theorem write_any (V w : World) (b : Nat) (l : List UInt8) (s : ByteArray) (h : BL V w b l) (hlen : l.length + s.size ≤ 140737488355328) :
    Calls Tryd.prog 49 #[.pointer (some ⟨b, 0, none⟩), .string s] w fun e w' => e = .returned (.tuple #[.int .i64 (s.size : Int), .nilIface]) ∧ BL V w' b (l ++ s.data.toList) := by
  refine (Any.Builder_WriteString_k {Tryd.lays156 with} Tryd.extra156 V.heap.size b _ s w h.bld (by rw [Lib.byteCells_length]; exact hlen) h.below.size).mono ?_
  rintro e w' ⟨rfl, h1, h2, _⟩
  refine ⟨rfl, .inr ?_, h.below.trans h2⟩
  rw [Lib.byteCells_append]
  exact h1
theorem string_any (V w : World) (b : Nat) (l : List UInt8) (h : BL V w b l) :
    Calls Tryd.prog 51 #[.pointer (some ⟨b, 0, none⟩)] w fun e w' => e = .returned (.string ⟨l.toArray⟩) ∧ Below V.heap.size V w' := by
  refine (Any.Builder_String_any_k {Tryd.lays156 with} Tryd.extra156 V.heap.size b l w h.bld h.below.size).mono ?_
  rintro e w' ⟨rfl, _, h2, _⟩
  exact ⟨rfl, h.below.trans h2⟩
end Go.Proofs.YtbpdmkohihgnjaaDoor
namespace Go.Proofs.YtbpdmkohihgnjaaDoor
open Go.RowKit
set_option maxHeartbeats 4000000
set_option maxRecDepth 100000
theorem kd_load {W : World} {ao : Option Addr} {n c : Nat} {ot : Bool} {R : List Rl} {w : World} (h : KD W ao n c ot R w) : w.rangeAt W.heap.size 0 [.slice ao n c, .bool ot] := cel_range h.p
theorem format_bad (W : World) (E : Nat → Addr) (hE : ErrS W E) (ao : Option Addr) (n c : Nat) (ot : Bool) (R : List Rl) (hn : R.length = n) (hr : RulesAt W ao R) (ok : ∀ r ∈ R, r.Ok) (hmax : (n : Int) ≤ 9223372036854775807) (hbad : okP R = false) :
    Calls Tryd.prog 19 #[.agg (polC ao n c ot).toArray] W fun e W' => e = .returned (.tuple #[.string ⟨#[]⟩, .int .i64 161]) ∧ Below W.heap.size W W' := by
  obtain ⟨X, hX⟩ : ∃ X, X = W.alloc (Obj.cells #[.slice ao n c, .bool ot] 36) := ⟨_, rfl⟩
  have Y0 : Hid (KD W ao n c ot R X) := hid (by rw [hX]; exact KD.start hr)
  have HE := hid (fun (w : World) (h : Below W.heap.size W w) => hE.on h)
  have HC := hid (checked_any X E (HE.out _ Y0.out.bl) ao n c ot R hn Y0.out.ru ok hmax)
  have HB := hid hbad
  clear hr hE hbad ok hn
  unfold polC at HC ⊢
  go_enter Tryd.func19, Tryd.ntmps19
  go_upto_region 1 with fail
  rw [← hX]
  clear hX
  go_upto_region 2 with (first | (refine wpList_load_mid rfl 36 _ rfl W.heap.size 0 rfl [.slice ao n c, .bool ot] _ (kd_load Y0.out) Tryd.underlying36 rfl size36 ?_) | (go_at_call 48; refine HC.out.mono ?_; rintro e w1 ⟨er, rfl, _, hb, hbl⟩; have HR := hid (hb HB.out); have Y1 := hid (below_on Y0.out.bl hbl); clear hb hbl))
  clear HC Y0 HB
  rcases HR.out with rfl | ⟨k, rfl⟩
  · have HN := hid (number_6 w1 E (HE.out _ Y1.out))
    clear HR
    go_wp2_with (first | (go_at_call 44; refine HN.out.mono ?_; rintro e w2 ⟨rfl, hw⟩; subst w2))
    go_ret2
    exact ⟨rfl, Y1.out⟩
  · have HN := hid (number_at w1 E (HE.out _ Y1.out) k)
    clear HR
    go_wp2_with (first | (go_at_call 44; refine HN.out.mono ?_; rintro e w2 ⟨rfl, hb⟩; have Y2 := hid (below_on Y1.out hb); clear hb))
    go_ret2
    exact ⟨rfl, Y2.out⟩
theorem join3 (a b c : ByteArray) (ha : a.size ≤ 5) (hb : b.size ≤ 24) (hc : c.size = 64) : (Lib.join ([a, b, c].map (·.data.toList)) [32]).length ≤ 1000000 := by
  have e : (Lib.join ([a, b, c].map (·.data.toList)) [32]) = a.data.toList ++ ([32] ++ (b.data.toList ++ ([32] ++ c.data.toList))) := by simp [Lib.join, List.intercalate]
  rw [e]
  simp only [List.length_append, lenD, List.length_cons, List.length_nil]
  omega
theorem join2 (a b : ByteArray) (ha : a.size ≤ 5) (hb : b.size ≤ 5) : (Lib.join ([a, b].map (·.data.toList)) [32]).length ≤ 1000000 := by
  rw [line2]
  simp only [List.length_append, lenD, List.length_cons, List.length_nil]
  omega
theorem line3_size (a b c : ByteArray) (ha : a.size ≤ 5) (hb : b.size ≤ 24) (hc : c.size = 64) : (lineB [a, b, c]).size ≤ 1000 := by
  rw [← lenD, line3D]
  simp only [List.length_append, List.length_cons, List.length_nil, lenD]
  omega
theorem good_nm {r : Rl} (h : r.Good) : r.nm.size ≤ 24 := by
  have := (name_all h.nm).2.1
  rwa [lenD] at this
theorem write_any2 (V w : World) (b : Nat) (l : List UInt8) (s : ByteArray) (h : BL V w b l) (hlen : l.length + s.size ≤ 140737488355328) :
    Calls Tryd.prog 49 #[.pointer (some ⟨b, 0, none⟩), .string s] w fun e w' => e = .returned (.tuple #[.int .i64 (s.size : Int), .nilIface]) ∧ BL V w' b (l ++ s.data.toList) ∧ ∀ k t cs, Cel w k t cs → k ≠ b → t ≠ 5 → Cel w' k t cs := by
  refine (Any.Builder_WriteString_k {Tryd.lays156 with} Tryd.extra156 V.heap.size b _ s w h.bld (by rw [Lib.byteCells_length]; exact hlen) h.below.size).mono ?_
  rintro e w' ⟨rfl, h1, h2, h3⟩
  refine ⟨rfl, ⟨.inr ?_, h.below.trans h2⟩, fun k t cs hc hk ht => h3 k _ hc (fun e => hk (Option.some.inj e)) (fun c fz e => ht (by injection e))⟩
  rw [Lib.byteCells_append]
  exact h1
structure FV (W V : World) (ao : Option Addr) (n c : Nat) (ot : Bool) (R : List Rl) : Prop where
  k : KD W ao n c ot R V
  t : TabW V
  z : 0 < W.heap.size
theorem FV.kd {W V w : World} {ao : Option Addr} {n c : Nat} {ot : Bool} {R : List Rl} (h : FV W V ao n c ot R) (hb : Below V.heap.size V w) : KD W ao n c ot R w := h.k.on hb
theorem FV.tab {W V w : World} {ao : Option Addr} {n c : Nat} {ot : Bool} {R : List Rl} (h : FV W V ao n c ot R) (hb : Below V.heap.size V w) : TabW w := h.t.below hb (by have := h.z; have := h.k.bl.size; omega)
theorem hex_at {w : World} (hT : TabW w) (hz : 0 < w.heap.size) {g : Nat} {r : Rl} (hc : Cel w g 42 r.cs) (hm : r.ms.length = 8) (wm : Wds r.ms) : Calls Tryd.prog 46 #[.slice (some ⟨g, 2, none⟩) 8 8] w fun e W' => e = .returned (.string (hexB r.ms)) ∧ Below w.heap.size w W' :=
  V.hexAll_any w hT g 2 8 8 r.ms hm wm (range_row (by have := Rl.atms (cel_range hc); rwa [Nat.zero_add] at this)) (by decide) hc.lt hz
attribute [-simp] Tryd.isAgg42 Tryd.zeroValue42 Tryd.isAgg36 Tryd.zeroValue36
theorem format_good (W : World) (E : Nat → Addr) (hE : ErrS W E) (hT : TabW W) (ao : Option Addr) (n c : Nat) (ot : Bool) (R : List Rl) (hn : R.length = n) (hr : RulesAt W ao R) (ok : ∀ r ∈ R, r.Ok) (hok : okP R = true) :
    Calls Tryd.prog 19 #[.agg (polC ao n c ot).toArray] W fun e W' => e = .returned (.tuple #[.string ⟨(textL (linesP R ot)).toArray⟩, .int .i64 0]) ∧ Below W.heap.size W W' := by
  have hz : ∀ w, (zeroValue 42).run Tryd.prog w = .ok (.agg #[.bool false, .string ⟨#[]⟩, .int .u32 0, .int .u32 0, .int .u32 0, .int .u32 0, .int .u32 0, .int .u32 0, .int .u32 0, .int .u32 0]) w := fun w => by rw [Tryd.zeroValue42]
  obtain ⟨hn2, hgood⟩ := okP_good ok hok
  obtain ⟨X, hX⟩ : ∃ X, X = W.alloc (Obj.cells #[.slice ao n c, .bool ot] 36) := ⟨_, rfl⟩
  have Y0 : Hid (KD W ao n c ot R X) := hid (by rw [hX]; exact KD.start hr)
  have hsz := hE.sz
  have HC := hid (checked_any X E (hE.on Y0.out.bl) ao n c ot R hn Y0.out.ru ok (by omega))
  have HOk := hid hok
  have HT := hid (fun (w : World) (h : Below W.heap.size W w) => hT.below h (by omega))
  have HZ := hid (show 0 < W.heap.size by omega)
  have HG := hid hgood
  have hn3 : n ≤ 256 := by omega
  have HV := hid (fun w a => verdict_any w a)
  have HAll := hid (accL_all R ot)
  have HLen := hid (text_len hgood ot)
  clear hr hE hT ok hok hsz hn2 hgood
  unfold polC at HC ⊢
  go_enter Tryd.func19, Tryd.ntmps19
  go_upto_region 1 with fail
  rw [← hX]
  clear hX
  go_upto_region 2 with (first | (refine wpList_load_mid rfl 36 _ rfl W.heap.size 0 rfl [.slice ao n c, .bool ot] _ (kd_load Y0.out) Tryd.underlying36 rfl size36 ?_) | (go_at_call 48; refine HC.out.mono ?_; rintro e w1 ⟨er, rfl, hb, _, hbl⟩; have HR := hid (hb HOk.out); have Y1 := hid (Y0.out.on hbl); clear hb hbl))
  obtain rfl := HR.out
  have HF : Hid (FV W w1 ao n c ot R) := hid ⟨Y1.out, HT.out _ Y1.out.bl, HZ.out⟩
  clear HC Y0 HOk HR HT HZ
  go_upto_region 5 with fail
  have B0 : Hid (BL w1 (w1.alloc (.cells #[.pointer none, .slice none 0 0] 98)) w1.heap.size [] ∧ w1.heap.size < (w1.alloc (.cells #[.pointer none, .slice none 0 0] 98)).heap.size) := hid ⟨BL.fresh w1, by simp⟩
  clear Y1
  generalize World.alloc _ _ = w2 at *
  have c0 : w2.cell? ⟨W.heap.size, 0, none⟩ = some (.slice ao n c) := (HF.out.kd B0.out.1.below).p.cell 0
  go_wp2_with fail
  clear c0
  go_loopw [17] (fun i wr => ∃ k : Nat, k ≤ n ∧ i = .int .i64 k ∧ BL w1 wr w1.heap.size (accL (R.take k)) ∧ w1.heap.size < wr.heap.size) (fun i _ => n - (intOf i).toNat)
  case atStart => exact ⟨0, Nat.zero_le _, rfl, B0.out.1, B0.out.2⟩
  case round =>
    clear B0
    obtain ⟨k, hk, rfl, hbl, hsl⟩ := hrel
    have B1 := hid hbl
    have HG7 := hid hsl
    clear hbl hsl
    by_cases hlt : k < n
    · have hkR : k < R.length := by omega
      obtain ⟨b, off, rfl, hra⟩ := (HF.out.kd B1.out.below).rule hkR
      have HS := hid (accL_snoc R k hkR)
      have HGr := hid (HG.out R[k] (List.getElem_mem hkR))
      have hll : (accL (R.take k)).length ≤ 24576 := by
        have := accL_len (R := R.take k) (fun r hr => HG.out r (List.take_subset _ _ hr))
        have := List.length_take_le k R
        omega
      generalize R[k] = r at *
      have hlr := r.len HGr.out.ml
      have HR := hid hra
      have HLL := hid hll
      have i3 : (k : Int) < (n : Int) := by omega
      have HN := hid (show k + 1 ≤ n by omega)
      have HLn := hid (fun (w : World) (g : Nat) (hc : Cel w g 9 [.string (vB r.al), .string r.nm, .string (hexB r.ms)]) => lineAt w g 3 [vB r.al, r.nm, hexB r.ms] rfl (by show 3 ≤ 1000; decide) (join3 _ _ _ (vB_size _) (good_nm HGr.out) (hexB_size HGr.out.ml)) hc)
      have HSz := hid (line3_size (vB r.al) r.nm (hexB r.ms) (vB_size _) (good_nm HGr.out) (hexB_size HGr.out.ml))
      have HLd := hid (rule_line r)
      generalize lineB [vB r.al, r.nm, hexB r.ms] = L3 at *
      have HHx := hid (fun (w : World) (g : Nat) (h : Below w1.heap.size w1 w) (hc : Cel w g 42 r.cs) => hex_at (HF.out.tab h) (by have := h.size; have := HF.out.z; have := HF.out.k.bl.size; omega) hc HGr.out.ml HGr.out.mw)
      clear hra hll hlt hk hkR
      go_upto_region 8 with (first | (refine wpList_load_mid rfl 42 _ rfl b (off + k * 10) rfl r.cs _ HR.out Tryd.underlying42 rfl (by rw [hlr]; exact size42) ?_) | (refine wpList_store_st rfl 42 _ _ rfl wr.heap.size r.cs rfl rfl (heap_alloc_new wr zrule) (by rw [hlr]; exact size42) (by rw [hlr]; rfl) r.one ?_; intro w3 hc3 hb3 hs3; have Y3 : Hid (BL w1 w3.drew w1.heap.size (accL (R.take k)) ∧ Cel w3.drew wr.heap.size 42 r.cs) := hid ⟨(B1.out.on (but_box hb3)).on (Below.refl _ _).drew, hc3.on (Below.refl _ _).drew⟩; clear hc3 hb3 hs3))
      generalize wr.heap.size = g7 at *
      clear B1 HR
      refine wp_region_held_drew (S := fun w => Cel w g7 42 r.cs) (by kernel_rfl) Y3.out.2 (fun hHeld => ?_)
      generalize World.drew _ = v3 at *
      refine tk 0 ⟨some 21, .fieldAddr 42 (.tmp 7) 0, 0, "policy.go:39", #[], none⟩ (.pointer (some ⟨g7, 0, none⟩)) ?_
      simp only [Act.put, List.setIfInBounds_toArray, List.set_cons_zero, List.set_cons_succ]
      refine tk 1 ⟨some 22, .load 4 (.tmp 21), 4, "policy.go:39", #[⟨0, .data⟩], none⟩ (.bool r.al) ?_ (hy := Or.inl ⟨by rfl, by intro w hSw; have hc := hSw.cell 0; simp only [Rl.cs, List.getElem?_cons_zero] at hc; go_simp⟩)
      simp only [Act.put, List.setIfInBounds_toArray, List.set_cons_zero, List.set_cons_succ]
      refine tk 3 ⟨some 24, .fieldAddr 42 (.tmp 7) 1, 0, "policy.go:39", #[], none⟩ (.pointer (some ⟨g7, 1, none⟩)) ?_
      simp only [Act.put, List.setIfInBounds_toArray, List.set_cons_zero, List.set_cons_succ]
      refine tk 4 ⟨some 25, .load 9 (.tmp 24), 9, "policy.go:39", #[⟨3, .data⟩], none⟩ (.string r.nm) ?_ (hy := Or.inl ⟨by rfl, by intro w hSw; have hc := hSw.cell 1; simp only [Rl.cs, List.getElem?_cons_zero, List.getElem?_cons_succ] at hc; go_simp⟩)
      simp only [Act.put, List.setIfInBounds_toArray, List.set_cons_zero, List.set_cons_succ]
      refine tk 5 ⟨some 26, .fieldAddr 42 (.tmp 7) 2, 0, "policy.go:39", #[], none⟩ (.pointer (some ⟨g7, 2, none⟩)) ?_
      simp only [Act.put, List.setIfInBounds_toArray, List.set_cons_zero, List.set_cons_succ]
      refine tk 6 ⟨some 27, .slice 23 (.tmp 26) none none none, 25, "policy.go:39", #[⟨5, .data⟩], none⟩ (.slice (some ⟨g7, 2, none⟩) 8 8) ?_
      simp only [Act.put, List.setIfInBounds_toArray, List.set_cons_zero, List.set_cons_succ]
      refine wpAnyH_ready (rs := [2]) (by kernel_rfl) (by simp) (AllReadyH.cons (o := ⟨some 23, .call { callee := .value (.func 50), args := #[.tmp 22], argTypes := #[4] }, 9, "policy.go:39", #[⟨1, .data⟩], none⟩) rfl (fun KQ hK => ?_) AllReadyH.nil)
      go_simp
      refine (HV.out _ _).mono ?_
      rintro e w4 ⟨rfl, hw⟩
      subst w4
      have Y4 := Y3
      clear Y3
      go_wp2_with fail
      refine hK.out _ _ Y4.out.2 (fun hHeld => ?_)
      clear hK KQ
      try simp only [Act.put, List.setIfInBounds_toArray, List.set_cons_zero, List.set_cons_succ]
      refine wpAnyH_ready (rs := [7]) (by kernel_rfl) (by simp) (AllReadyH.cons (o := ⟨some 28, .call { callee := .value (.func 46), args := #[.tmp 27], argTypes := #[25] }, 9, "policy.go:39", #[⟨6, .data⟩, ⟨2, .chain⟩], none⟩) rfl (fun KQ hK => ?_) AllReadyH.nil)
      go_simp
      refine (HHx.out _ _ Y4.out.1.below Y4.out.2).mono ?_
      rintro e w5 ⟨rfl, hb⟩
      have Y5 : Hid (BL w1 w5 w1.heap.size (accL (R.take k)) ∧ Cel w5 g7 42 r.cs) := hid ⟨Y4.out.1.on hb, Y4.out.2.on hb⟩
      clear hb Y4
      go_wp2_with fail
      refine hK.out _ _ Y5.out.2 (fun hHeld => ?_)
      clear hK KQ
      try simp only [Act.put, List.setIfInBounds_toArray, List.set_cons_zero, List.set_cons_succ]
      refine wpAnyH_ready (rs := [8]) (by kernel_rfl) (by simp) (AllReadyH.cons (o := ⟨some 29, .buildSlice 130 3 #[(0, .tmp 23), (1, .tmp 25), (2, .tmp 28)], 130, "policy.go:39", #[⟨2, .data⟩, ⟨4, .data⟩, ⟨7, .data⟩], none⟩) rfl (fun KQ hK => ?_) AllReadyH.nil)
      go_simp
      have Y6 : Hid (BL w1 (w5.alloc (.cells #[.string (vB r.al), .string r.nm, .string (hexB r.ms)] 9)) w1.heap.size (accL (R.take k)) ∧ Cel (w5.alloc (.cells #[.string (vB r.al), .string r.nm, .string (hexB r.ms)] 9)) g7 42 r.cs) := hid ⟨Y5.out.1.on (below_one _ _), Y5.out.2.on (below_one _ _)⟩
      have HSrc : Hid (Cel (w5.alloc (.cells #[.string (vB r.al), .string r.nm, .string (hexB r.ms)] 9)) w5.heap.size 9 [.string (vB r.al), .string r.nm, .string (hexB r.ms)]) := hid (heap_alloc_new _ _)
      clear Y5
      generalize World.alloc _ _ = w6 at *
      generalize w5.heap.size = g9 at *
      refine hK.out _ _ Y6.out.2 (fun hHeld => ?_)
      clear hK KQ
      try simp only [Act.put, List.setIfInBounds_toArray, List.set_cons_zero, List.set_cons_succ]
      refine wpAnyH_ready (rs := [9]) (by kernel_rfl) (by simp) (AllReadyH.cons (o := ⟨some 30, .call { callee := .value (.func 45), args := #[.tmp 29], argTypes := #[130] }, 9, "policy.go:39", #[⟨8, .data⟩, ⟨7, .chain⟩], none⟩) rfl (fun KQ hK => ?_) AllReadyH.nil)
      go_simp
      refine (HLn.out _ _ HSrc.out).mono ?_
      rintro e w7 ⟨rfl, hb⟩
      have Y7 : Hid (BL w1 w7 w1.heap.size (accL (R.take k)) ∧ Cel w7 g7 42 r.cs) := hid ⟨Y6.out.1.on hb, Y6.out.2.on hb⟩
      clear hb Y6 HSrc
      go_wp2_with fail
      refine hK.out _ _ Y7.out.2 (fun hHeld => ?_)
      clear hK KQ
      try simp only [Act.put, List.setIfInBounds_toArray, List.set_cons_zero, List.set_cons_succ]
      refine wpAnyH_ready (rs := [10]) (by kernel_rfl) (by simp) (AllReadyH.cons (o := ⟨some 31, .call { callee := .value (.func 49), args := #[.tmp 5, .tmp 30], argTypes := #[98, 9] }, 99, "policy.go:39", #[⟨9, .data⟩, ⟨9, .chain⟩], none⟩) rfl (fun KQ hK => ?_) AllReadyH.nil)
      go_simp
      refine (write_any2 w1 _ _ _ _ Y7.out.1 (by have := HLL.out; have := HSz.out; omega)).mono ?_
      rintro e w8 ⟨rfl, hb, hk⟩
      have Y8 : Hid (BL w1 w8 w1.heap.size (accL (R.take k) ++ L3.data.toList) ∧ Cel w8 g7 42 r.cs) := hid ⟨hb, hk _ _ _ Y7.out.2 (by have := HG7.out; omega) (by decide)⟩
      clear hb hk Y7
      go_wp2_with fail
      refine hK.out _ _ Y8.out.2 (fun hHeld => ?_)
      clear hK KQ
      try simp only [Act.put, List.setIfInBounds_toArray, List.set_cons_zero, List.set_cons_succ]
      refine wpAnyH_done (by kernel_rfl) ?_ _
      go_wp2_with fail
      go_roundw
      case rel => exact ⟨k + 1, HN.out, by go_num, by have := Y8.out.1; rw [HLd.out, HS.out] at this; exact this, Nat.lt_trans HG7.out Y8.out.2.lt⟩
      case measure => have := HN.out; simp [intOf]; omega
    · obtain rfl : k = n := by omega
      have B2 : Hid (BL w1 wr w1.heap.size (accL R)) := hid (by have := B1.out; rwa [List.take_of_length_le (by omega)] at this)
      have c1 : wr.cell? ⟨W.heap.size, 1, none⟩ = some (.bool ot) := (HF.out.kd B1.out.below).p.cell 1
      have HLn := hid (fun (w : World) (g : Nat) (hc : Cel w g 9 [.string othB, .string (vB ot)]) => lineAt w g 2 [othB, vB ot] rfl (by show 2 ≤ 1000; decide) (join2 _ _ (by decide) (vB_size _)) hc)
      have HSz := hid (show (lineB [othB, vB ot]).size ≤ 12 by have := vB_size ot; rw [line2_size, show othB.size = 5 by decide]; omega)
      have HLd := hid (oth_line ot)
      generalize lineB [othB, vB ot] = L2 at *
      have hacc : (accL R).length ≤ 24576 := by
        have := accL_len (R := R) HG.out
        omega
      have HLL := hid hacc
      unfold othB oL at HLn
      clear B1 hacc
      go_upto_region 11 with (first | (go_at_call 50; refine (HV.out _ _).mono ?_; rintro e w3 ⟨rfl, hw⟩; subst w3) | (go_at_call 45; refine (HLn.out _ _ (heap_alloc_new _ _)).mono ?_; rintro e w4 ⟨rfl, hb⟩; have B4 := hid (B2.out.on (below_on (below_one _ _) hb)); clear hb) | (go_at_call 49; refine (write_any w1 _ _ _ _ B4.out (by have := HLL.out; have := HSz.out; omega)).mono ?_; rintro e w5 ⟨rfl, hb⟩; have B5 := hid hb; clear hb))
      clear B4 B2
      go_wp2_with (first | (go_at_call 51; refine (string_any w1 _ _ _ B5.out).mono ?_; rintro e w6 ⟨rfl, hb⟩; have B6 := hid (HF.out.k.bl.trans (hb.mono HF.out.k.bl.size)); clear hb))
      go_ret2
      exact ⟨by rw [HLd.out, HAll.out]; rfl, B6.out⟩
end Go.Proofs.YtbpdmkohihgnjaaDoor
