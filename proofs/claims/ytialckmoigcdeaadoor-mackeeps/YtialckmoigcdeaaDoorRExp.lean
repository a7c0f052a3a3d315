/- The document's answer for layer 3: Expand. -/
import Derived.Test.YtialckmoigcdeaaDoorRMac
namespace Go.Proofs.YtialckmoigcdeaaDoor
open Go.RowKit

theorem rbytes_holds (W : World) (ao : Option Addr) (n cap : Nat) (xs : List Int) (hx : xs.length = n) (wx : Wds xs) (h1 : At W .u32 ao xs) (hn : 4 * n ≤ 140737488351232) :
    Calls Tryd.prog 37 #[.slice ao n cap] W fun e W' => ∃ v, e = .returned v ∧ Holds W W' .u8 5 v (bytesD xs) := by
  rcases h1 with rfl | ⟨b, off, rfl, hb, h1⟩
  · simp at hx
    subst hx
    exact rbytes_nil W ao cap
  · exact rbytes_any W b off n cap xs hx wx h1 hn hb
theorem rexpand_size (W : World) (K : List Int) (io : Option Addr) (m c : Nat) (n : Int) (h : n < 0 ∨ 8160 < n) :
    Calls Tryd.prog 42 #[.agg (K.map (Value.int .u32)).toArray, .slice io m c, .int .i64 n] W fun e W' => e = .returned (.tuple #[.slice none 0 0, .int .i64 30]) ∧ Below W.heap.size W W' := by
  have HB : Hid (Below W.heap.size W (W.alloc (Obj.cells (List.map (Value.int IntKind.u32) K).toArray 26))) := below_one W _
  by_cases h0 : n < 0
  · go_enter Tryd.func42, Tryd.ntmps42
    go_wp2
    go_ret2
    exact ⟨rfl, HB.out⟩
  · have h1 : 8160 < n := by omega
    clear h
    go_enter Tryd.func42, Tryd.ntmps42
    go_wp2
    go_ret2
    exact ⟨rfl, HB.out⟩
theorem rexpand_long (W : World) (K : List Int) (io : Option Addr) (m c : Nat) (n : Int) (h0 : 0 ≤ n) (h1 : n ≤ 8160) (hm : 1048576 < (m : Int)) :
    Calls Tryd.prog 42 #[.agg (K.map (Value.int .u32)).toArray, .slice io m c, .int .i64 n] W fun e W' => e = .returned (.tuple #[.slice none 0 0, .int .i64 2]) ∧ Below W.heap.size W W' := by
  have HB : Hid (Below W.heap.size W (W.alloc (Obj.cells (List.map (Value.int IntKind.u32) K).toArray 26))) := below_one W _
  go_enter Tryd.func42, Tryd.ntmps42
  go_wp2
  go_ret2
  exact ⟨rfl, HB.out⟩
attribute [-simp] Tryd.isAgg26 Tryd.sizeOf26 Tryd.zeroValue26
set_option maxRecDepth 20000 in
set_option maxHeartbeats 2000000 in
theorem rexpand_any (W : World) (hT : TabR W) (h2 : 2 < W.heap.size) (K : List Int) (hK : K.length = 8) (wK : Wds K) (io : Option Addr) (m c : Nat) (info : List Int) (hx : info.length = m) (hb : Bts info) (hat : At W .u8 io info) (hs : Sl io c) (hm : m ≤ 1048576) (n : Nat) (hn : n ≤ 8160) :
    Calls Tryd.prog 42 #[.agg (K.map (Value.int .u32)).toArray, .slice io m c, .int .i64 (n : Int)] W fun e W' => ∃ vo vc, e = .returned (.tuple #[.slice vo n vc, .int .i64 0]) ∧ At W' .u8 vo (okm (bytesD K) info n) ∧ (vo = none ∨ ∃ b off, vo = some ⟨b, off, none⟩) ∧ Below W.heap.size W W' := by
  obtain ⟨i0, hi, hz0, hz1, hz2⟩ := info_parts Tryd.info5
  obtain ⟨V, hV⟩ : ∃ V : List Int, V = List.replicate 8 0 := ⟨_, rfl⟩
  have hVl : V.length = 8 := by rw [hV]; simp
  have hv : ∀ w, (zeroValue 26).run Tryd.prog w = .ok (.agg (V.map (Value.int .u32)).toArray) w := fun w => by rw [Tryd.zeroValue26, hV]; rfl
  clear hV
  have i1 : (n : Int) ≤ 8160 := by omega
  have i2 : (m : Int) ≤ 1048576 := by omega
  obtain ⟨X, hX⟩ : ∃ X, X = W.alloc (Obj.cells (List.map (Value.int IntKind.u32) K).toArray 26) := ⟨_, rfl⟩
  have BX : Hid (Blk X W.heap.size .u32 26 K) := by rw [hX]; exact Blk.new W .u32 26 K
  have HB : Hid (Below W.heap.size W X) := by rw [hX]; exact below_one _ _
  have TX : Hid (TabR X) := hT.on h2 HB.out
  have AI : Hid (∀ w, Below W.heap.size W w → At w .u8 io info) := fun w hb => hat.below hb
  have SI : Hid (Sl io c) := hs
  clear hT hat hs
  have zX := BX.out.lt
  have x2 : 2 < X.heap.size := by omega
  go_enter Tryd.func42, Tryd.ntmps42
  go_wp2_with fail
  rw [← hX]
  clear hX
  refine (rbytes_at X _ 8 8 K hK wK BX.out.at (by decide)).mono ?_
  rintro e w1 ⟨ko, kcc, rfl, hkc, ak, _, hb1⟩
  have hkl : (bytesD K).length = 32 := by rw [bytesD_length, hK]
  have pk := bytesD_bts K
  obtain ⟨k, hk⟩ : ∃ k, bytesD K = k := ⟨_, rfl⟩
  have HK : Hid (bytesD K = k) := hk
  rw [hk] at hkl pk ak
  replace HB : Hid (Below W.heap.size W w1) := HB.out.trans (hb1.mono (by omega))
  have x1 : 2 < w1.heap.size := by have := hb1.size; omega
  replace TX : Hid (TabR w1) := TX.out.on x2 hb1
  have BK : Hid (At w1 .u8 ko k) := ak
  clear hb1 ak BX hk wK hK
  have SH : Hid (Holds w1 w1 .u8 5 (.slice none 0 0) (outT k info 0) ∧ Holds w1 w1 .u8 5 (.slice none 0 0) (tk k info 0) ∧ Apart (.slice none 0 0) (.slice none 0 0)) := ⟨Holds.start _ _ _, Holds.start _ _ _, Apart.nil _⟩
  go_wp2_with fail
  go_loopw [9, 10, 11] (fun l o i wr => ∃ t : Nat, t ≤ rounds32 n ∧ i = .int .i64 ((t : Int) + 1) ∧ Holds w1 wr .u8 5 o (outT k info t) ∧ Holds w1 wr .u8 5 l (tk k info t) ∧ Apart o l) (fun _ o _ _ => n + 32 - (match o with | .slice _ l _ => l | _ => 0))
  case atStart => exact ⟨0, Nat.zero_le _, rfl, SH.out⟩
  case round =>
    clear SH
    obtain ⟨t, ht, rfl, FO, FL, FA⟩ := hrel
    obtain ⟨oo, oc, ho, hoc, hoa, hon⟩ := FO.at'
    obtain ⟨lo, lc, hl, hlc, hla, hln⟩ := FL.at'
    subst ho hl
    have hol := outT_length k info t
    rw [hol] at FO hoc FA ⊢
    have hll : (tk k info t).length ≤ 32 := by
      cases t with
      | zero => exact Nat.zero_le _
      | succ t => rw [tk_length]; exact Nat.le_refl _
    have t255 : t ≤ 255 := by unfold rounds32 at ht; omega
    have t1 : (t : Int) ≤ 255 := by omega
    have HOC : Hid (32 * t ≤ oc) := hoc
    have HOA : Hid (At wr .u8 oo (outT k info t)) := hoa
    have FO' : Hid (Holds w1 wr .u8 5 (.slice oo (32 * t) oc) (outT k info t)) := FO
    have ALt : Hid (At wr .u8 lo (tk k info t)) := hla
    have SLt : Hid (Sl lo lc) := fun h => (hln h).1
    have BW : Hid (Below w1.heap.size w1 wr) := FO.below
    have HT2 : Hid (tk k info (t + 1) = bytesD (hmac k (tk k info t ++ (info ++ [((t : Int) + 1) % 256])))) := rfl
    have HO2 : Hid (outT k info (t + 1) = outT k info t ++ tk k info (t + 1)) := rfl
    have pl := tk_bts k info t
    have wz : IntKind.u8.wrap ((t : Int) + 1) = ((t : Int) + 1) % 256 := by rw [IntKind.wrap_u8]
    have pT : Bts (tk k info t ++ (info ++ [((t : Int) + 1) % 256])) := bts_append pl (bts_append hb (fun i => by
      match i with
      | 0 => show 0 ≤ ((t : Int) + 1) % 256 ∧ ((t : Int) + 1) % 256 < 256; omega
      | i + 1 => simp))
    have lenT : (tk k info t ++ (info ++ [((t : Int) + 1) % 256])).length ≤ 1048700 := by simp only [List.length_append, List.length_singleton]; omega
    clear FO FL FA hoc hlc hla hln hon hoa pl
    by_cases hlt : 32 * t < n
    · have i3 : ((32 * t : Nat) : Int) < (n : Int) := by omega
      have hr : t + 1 ≤ rounds32 n := by unfold rounds32; omega
      obtain ⟨ll, hlle⟩ : ∃ ll, (tk k info t).length = ll := ⟨_, rfl⟩
      have HLe : Hid ((tk k info t).length = ll) := hlle
      rw [hlle] at hll ⊢
      clear hlle
      obtain ⟨T0, hT0⟩ : ∃ T0, tk k info t = T0 := ⟨_, rfl⟩
      rw [hT0] at HT2 pT lenT HLe ALt
      clear hT0
      have h63a : ([] : List Int).length + ll ≤ maxLen := by unfold maxLen; simp; omega
      have hbya : (([] : List Int).length + ll) * 1 ≤ 140737488355328 := by simp; omega
      have h63b : T0.length + m ≤ maxLen := by rw [HLe.out]; unfold maxLen; omega
      have hbyb : (T0.length + m) * 1 ≤ 140737488355328 := by rw [HLe.out]; omega
      have lc1 : (T0 ++ info).length = ll + m := by rw [List.length_append, HLe.out, hx]
      have h63c : (T0 ++ info).length + 1 ≤ maxLen := by rw [lc1]; unfold maxLen; omega
      have hbyc : ((T0 ++ info).length + 1) * 1 ≤ 140737488355328 := by rw [lc1]; omega
      have F0 : Hid (Holds wr wr .u8 5 (.slice none 0 0) []) := Holds.start _ _ _
      have HIl : Hid (info.length = m) := hx
      have AIw : Hid (∀ w, Below wr.heap.size wr w → At w .u8 io info) := fun w hb => AI.out _ (HB.out.trans ((BW.out.trans (hb.mono BW.out.size)).mono HB.out.size))
      clear lc1
      go_wp2_with (first | (at_builtin; refine wpList_append_at (W := wr) rfl _ _ 22 rfl .u8 5 i0 (.int .u8 0) 1 Tryd.underlying22 hi hz0 hz1 hz2 rfl (.slice none 0 0) [] rfl F0.out lo ll lc T0 rfl HLe.out ALt.out SLt.out h63a hbya ?_; intro va wa Ga; have Ga' : Hid (Holds wr wa .u8 5 va T0) := Ga; clear Ga F0) | (at_builtin; refine wpList_append_at (W := wr) rfl _ _ 22 rfl .u8 5 i0 (.int .u8 0) 1 Tryd.underlying22 hi hz0 hz1 hz2 rfl va T0 rfl Ga'.out io m c info rfl HIl.out (AIw.out wa Ga'.out.below) SI.out h63b hbyb ?_; intro vb2 wb Gb; have Gb' : Hid (Holds wr wb .u8 5 vb2 (T0 ++ info)) := Gb; clear Gb) | (at_builtin; refine wpList_append_at (W := wr) rfl _ _ 22 rfl .u8 5 i0 (.int .u8 0) 1 Tryd.underlying22 hi hz0 hz1 hz2 rfl vb2 (T0 ++ info) rfl (Gb'.out.alloc _) (some ⟨wb.heap.size, 0, none⟩) 1 1 [((t : Int) + 1) % 256] rfl rfl (Blk.new wb .u8 5 [((t : Int) + 1) % 256]).at (fun h => by cases h) h63c hbyc ?_; intro vc2 wd Gd; have Gd' : Hid (Holds wr wd .u8 5 vc2 (T0 ++ (info ++ [((t : Int) + 1) % 256]))) := (by rw [List.append_assoc] at Gd; exact Gd); clear Gd))
      clear ALt SLt AIw Ga' Gb' h63a hbya h63b hbyb h63c hbyc HIl wz
      obtain ⟨MM, hMM⟩ : ∃ MM, T0 ++ (info ++ [((t : Int) + 1) % 256]) = MM := ⟨_, rfl⟩
      rw [hMM] at HT2 pT lenT Gd'
      obtain ⟨vo, vc, hv2, hvc, hva, hvn⟩ := Gd'.out.at'
      subst hv2
      obtain ⟨l, hl⟩ : ∃ l, MM.length = l := ⟨_, rfl⟩
      have HLL : Hid (MM.length = l) := hl
      rw [hl] at hvc lenT ⊢
      have hbd := Gd'.out.below
      have BD : Hid (Below w1.heap.size w1 wd) := BW.out.trans (hbd.mono BW.out.size)
      have FD : Hid (Holds w1 wd .u8 5 (.slice oo (32 * t) oc) (outT k info t)) := FO'.out.on hbd
      have SV : Hid (Sl vo vc) := fun h => (hvn h).1
      have xd : 2 < wd.heap.size := by have := BD.out.size; omega
      clear hl hMM Gd' hvn BW HLe hbd FO' HOA HOC
      refine (rtagBytes_any wd (TX.out.on x1 BD.out) xd ko 32 kcc k hkl pk (BK.out.below BD.out) hkc (by decide) vo l vc MM HLL.out pT hva SV.out (by omega)).mono ?_
      rintro e we ⟨rfl, hbe⟩
      obtain ⟨R, hR⟩ : ∃ R, hmac k MM = R := ⟨_, rfl⟩
      have hRl : R.length = 8 := by rw [← hR]; exact hmac_length _ _
      have hRw : Wds R := by rw [← hR]; exact sumB_wds _
      have hsR : (Tryd.prog.info? 26).map (·.size) = some R.length := by rw [hRl]; exact size26
      rw [hR] at HT2 ⊢
      replace FD : Hid (Holds w1 we .u8 5 (.slice oo (32 * t) oc) (outT k info t)) := FD.out.on hbe
      replace BD : Hid (Below w1.heap.size w1 we) := BD.out.trans (hbe.mono BD.out.size)
      clear hbe hva hvc SV HLL pT hR
      go_wp2_with (first | (refine wpList_store_but rfl 26 _ _ rfl we.heap.size R rfl rfl (Blk.new we .u32 26 V) hsR (hVl.trans hRl.symm) ?_; intro wf bf hwf hsf))
      have hbef : Below we.heap.size we wf := (below_one we _).trans (hwf.below (Nat.le_refl _) (by simp))
      replace FD : Hid (Holds w1 wf .u8 5 (.slice oo (32 * t) oc) (outT k info t)) := FD.out.on hbef
      replace BD : Hid (Below w1.heap.size w1 wf) := BD.out.trans (hbef.mono BD.out.size)
      have BR : Hid (Blk wf we.heap.size .u32 26 R) := bf
      clear hbef hwf hsf bf
      refine (rbytes_holds wf _ 8 8 R hRl hRw BR.out.at (by decide)).mono ?_
      rintro e wg ⟨vg, rfl, Hg⟩
      rw [← HT2.out] at Hg
      have hT1 := tk_length k info t
      have HT1 : Hid ((tk k info (t + 1)).length = 32) := hT1
      have hgp := Hg.at'
      rw [hT1] at hgp
      obtain ⟨gq, gc, hvg, hgc, hga, hgn⟩ := hgp
      subst hvg
      have A5 : Hid (Apart (.slice oo (32 * t) oc) (.slice gq 32 gc)) := fun g h h' => by
        have a := (FD.out.own.lt g h).2
        have b := (Hg.own.lt g h').1
        omega
      have H5 : Hid (Holds w1 wg .u8 5 (.slice gq 32 gc) (tk k info (t + 1))) := Hg.base BD.out
      have E5 : Hid (At wg .u8 gq (tk k info (t + 1))) := hga
      have S5 : Hid (Sl gq gc) := fun h => (hgn h).1
      replace FD : Hid (Holds w1 wg .u8 5 (.slice oo (32 * t) oc) (outT k info t)) := FD.out.on Hg.below
      have h63 : (outT k info t).length + 32 ≤ maxLen := by rw [hol]; unfold maxLen; omega
      have hby : ((outT k info t).length + 32) * 1 ≤ 140737488355328 := by rw [hol]; omega
      clear Hg hga hgn hgc BR HT2 hT1 hol BD
      obtain ⟨T1, hT1e⟩ : ∃ T1, tk k info (t + 1) = T1 := ⟨_, rfl⟩
      have HTE : Hid (T1 = tk k info (t + 1)) := hT1e.symm
      rw [hT1e] at H5 E5 HT1 HO2
      clear hT1e
      generalize outT k info t = T0' at *
      have NN : Hid (∀ w v, Holds w1 w .u8 5 v (T0' ++ T1) → Holds w1 w .u8 5 v (outT k info (t + 1))) := fun w v h => by rw [HO2.out]; exact h
      clear HO2
      go_wp2_with (first | (at_builtin; refine wpList_append_any (W := w1) rfl _ _ 22 rfl .u8 5 i0 (.int .u8 0) 1 Tryd.underlying22 hi hz0 hz1 hz2 rfl (.slice oo (32 * t) oc) T0' rfl FD.out gq 32 gc T1 rfl HT1.out E5.out S5.out h63 hby ?_; intro v6 w6 G6 keep; have G6' : Hid _ := NN.out _ _ G6; have G7' : Hid _ := keep _ _ _ _ H5.out A5.out; clear G6 keep))
      go_roundw
      case rel => exact ⟨t + 1, hr, by go_num, G6'.out, HTE.out ▸ G7'.out.1, G7'.out.2⟩
      case measure =>
        obtain ⟨po, pc, hp, _⟩ := G6'.out.at'
        subst hp
        rw [outT_length]
        simp
        omega
    · have hte : t = rounds32 n := by unfold rounds32 at ht ⊢; omega
      have hnt : n ≤ 32 * t := by omega
      have i3 : (n : Int) ≤ ((32 * t : Nat) : Int) := by omega
      have i4 : n ≤ oc := Nat.le_trans hnt HOC.out
      have i5 : ¬ (oc < n) := by omega
      have OB : Hid (At wr .u8 oo (okm (bytesD K) info n)) := by
        rw [HK.out]
        unfold okm
        rw [← hte]
        exact HOA.out.head n
      have OF : Hid (oo = none ∨ ∃ b off, oo = some ⟨b, off, none⟩) := by
        rcases FO'.out.own.2 with ⟨h0, h1⟩ | ⟨g, cap, cur, h1, _⟩
        · simp only [Value.slice.injEq] at h0
          exact .inl h0.1
        · simp only [Value.slice.injEq] at h1
          exact .inr ⟨g, 0, h1.1⟩
      have HE : Hid (Below W.heap.size W wr) := HB.out.trans (BW.out.mono HB.out.size)
      clear HT2 HO2 FO' ALt SLt BW hlt hte ht hol pT lenT HOC HOA wz
      go_wp2_with fail
      go_ret2
      exact ⟨oo, oc, rfl, OB.out, OF.out, HE.out⟩
end Go.Proofs.YtialckmoigcdeaaDoor
