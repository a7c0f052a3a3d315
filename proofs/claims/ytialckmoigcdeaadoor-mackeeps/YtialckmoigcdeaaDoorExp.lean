/- Package mac: Expand. -/
import Derived.Test.YtialckmoigcdeaaDoorP1
namespace Go.Proofs.YtialckmoigcdeaaDoor
open Go.RowKit

/-- RFC 5869's tags, as bytes. -/
def tk (k info : List Int) : Nat → List Int
  | 0 => []
  | i + 1 => bytesD (hmac k (tk k info i ++ (info ++ [((i + 1 : Nat) : Int) % 256])))
def outT (k info : List Int) : Nat → List Int
  | 0 => []
  | i + 1 => outT k info i ++ tk k info (i + 1)
theorem tk_length (k info : List Int) (i : Nat) : (tk k info (i + 1)).length = 32 := by
  show (bytesD (hmac k _)).length = 32
  rw [bytesD_length, hmac_length]
theorem tk_bts (k info : List Int) : ∀ i, Bts (tk k info i)
  | 0 => fun i => by simp [tk]
  | i + 1 => bytesD_bts _
theorem outT_length (k info : List Int) : ∀ i, (outT k info i).length = 32 * i
  | 0 => rfl
  | i + 1 => by
    show (outT k info i ++ tk k info (i + 1)).length = _
    rw [List.length_append, outT_length k info i, tk_length]
    omega
/-- How many tags n bytes want. -/
def rounds32 (n : Nat) : Nat := (n + 31) / 32
def okm (k info : List Int) (n : Nat) : List Int := (outT k info (rounds32 n)).take n
theorem okm_length (k info : List Int) (n : Nat) : (okm k info n).length = n := by
  unfold okm rounds32
  rw [List.length_take, outT_length]
  omega
/-- Bytes in a row of the call's own. -/
def OwnB (W w : World) (vo : Option Addr) (n : Nat) (L : List Int) : Prop :=
  L.length = n ∧ ((n = 0 ∧ vo = none) ∨ ∃ g cur, vo = some ⟨g, 0, none⟩ ∧ W.heap.size ≤ g ∧ w.heap[g]? = some (.cells cur 5 (0, 0)) ∧ n ≤ cur.size ∧ cur.toList.take n = L.map (Value.int .u8))
theorem OwnB.at {W w : World} {vo : Option Addr} {n : Nat} {L : List Int} (h : OwnB W w vo n L) : At w .u8 vo L := by
  rcases h.2 with ⟨h0, _⟩ | ⟨g, cur, rfl, _, hg, hn, ht⟩
  · left
    have := h.1
    rw [h0] at this
    exact List.eq_nil_of_length_eq_zero this
  · refine .inr ⟨g, 0, rfl, (Array.getElem?_eq_some_iff.1 hg).1, fun i hi => ?_⟩
    have hi' : i < n := by rw [← h.1]; exact hi
    have e : cur.toList[i]? = some (.int .u8 (L.getD i 0)) := by
      have : (cur.toList.take n)[i]? = (L.map (Value.int .u8))[i]? := by rw [ht]
      rw [List.getElem?_take, if_pos hi'] at this
      rw [this]
      simp [List.getD_eq_getElem?_getD, hi]
    rw [Nat.zero_add]
    simp only [World.cell?, hg]
    simpa using e
theorem OwnB.sl {W w : World} {vo : Option Addr} {n : Nat} {L : List Int} (h : OwnB W w vo n L) : Sl vo n := by
  rcases h.2 with ⟨h0, _⟩ | ⟨g, cur, rfl, _⟩
  · exact fun _ => h0
  · exact fun h => by cases h
theorem Holds.base {W0 W wr : World} {k : IntKind} {e : TypeId} {v : Value} {L : List Int} (h : Holds W wr k e v L) (hb : Below W0.heap.size W0 W) : Holds W0 wr k e v L := by
  refine ⟨⟨h.own.1, ?_⟩, hb.trans (h.below.mono hb.size)⟩
  rcases h.own.2 with h0 | ⟨g, cap, cur, h1, h2, r⟩
  · exact .inl h0
  · exact .inr ⟨g, cap, cur, h1, Nat.le_trans hb.size h2, r⟩
theorem Owned.holds {W wr : World} {k : IntKind} {e : TypeId} {N : Nat} {L : List Int} (h : Owned W wr k e N L) : Holds W wr k e (.slice (some ⟨W.heap.size, 0, none⟩) N N) L := ⟨by have := h.own; rw [← h.len] at this ⊢; exact this, h.below⟩

theorem expand_size (W : World) (K : List Int) (io : Option Addr) (m c : Nat) (n : Int) (h : n < 0 ∨ 8160 < n) :
    Calls Tryd.prog 12 #[.agg (K.map (Value.int .u32)).toArray, .slice io m c, .int .i64 n] W fun e W' => e = .returned (.tuple #[.slice none 0 0, .int .i64 30]) ∧ Below W.heap.size W W' := by
  have HB : Hid (Below W.heap.size W (W.alloc (Obj.cells (List.map (Value.int IntKind.u32) K).toArray 26))) := below_one W _
  by_cases h0 : n < 0
  · go_enter Tryd.func12, Tryd.ntmps12
    go_wp2
    go_ret2
    exact ⟨rfl, HB.out⟩
  · have h1 : 8160 < n := by omega
    clear h
    go_enter Tryd.func12, Tryd.ntmps12
    go_wp2
    go_ret2
    exact ⟨rfl, HB.out⟩
theorem expand_long (W : World) (K : List Int) (io : Option Addr) (m c : Nat) (n : Int) (h0 : 0 ≤ n) (h1 : n ≤ 8160) (hm : 1048576 < (m : Int)) :
    Calls Tryd.prog 12 #[.agg (K.map (Value.int .u32)).toArray, .slice io m c, .int .i64 n] W fun e W' => e = .returned (.tuple #[.slice none 0 0, .int .i64 2]) ∧ Below W.heap.size W W' := by
  have HB : Hid (Below W.heap.size W (W.alloc (Obj.cells (List.map (Value.int IntKind.u32) K).toArray 26))) := below_one W _
  go_enter Tryd.func12, Tryd.ntmps12
  go_wp2
  go_ret2
  exact ⟨rfl, HB.out⟩
attribute [-simp] Tryd.isAgg26 Tryd.sizeOf26 Tryd.zeroValue26
set_option maxRecDepth 20000 in
set_option maxHeartbeats 2000000 in
theorem expand_any (W : World) (hT : Tabs W) (K : List Int) (hK : K.length = 8) (wK : Wds K) (io : Option Addr) (m c : Nat) (info : List Int) (hx : info.length = m) (hb : Bts info) (hat : At W .u8 io info) (hs : Sl io c) (hm : m ≤ 1048576) (n : Nat) (hn : n ≤ 8160) :
    Calls Tryd.prog 12 #[.agg (K.map (Value.int .u32)).toArray, .slice io m c, .int .i64 (n : Int)] W fun e W' => ∃ vo, e = .returned (.tuple #[.slice vo n n, .int .i64 0]) ∧ OwnB W W' vo n (okm (bytesD K) info n) ∧ Below W.heap.size W W' := by
  obtain ⟨i0, hi, hz0, hz1, hz2⟩ := info_parts Tryd.info5
  obtain ⟨V, hV⟩ : ∃ V : List Int, V = List.replicate 8 0 := ⟨_, rfl⟩
  have hVl : V.length = 8 := by rw [hV]; simp
  have hv : ∀ w, (zeroValue 26).run Tryd.prog w = .ok (.agg (V.map (Value.int .u32)).toArray) w := fun w => by rw [Tryd.zeroValue26, hV]; rfl
  clear hV
  have i1 : (n : Int) ≤ 8160 := by omega
  have i2 : (m : Int) ≤ 1048576 := by omega
  have hsz := hT.sz
  obtain ⟨X, hX⟩ : ∃ X, X = W.alloc (Obj.cells (List.map (Value.int IntKind.u32) K).toArray 26) := ⟨_, rfl⟩
  have BX : Hid (Blk X W.heap.size .u32 26 K) := by rw [hX]; exact Blk.new W .u32 26 K
  have HB : Hid (Below W.heap.size W X) := by rw [hX]; exact below_one _ _
  have TX : Hid (Tabs X) := hT.on HB.out
  have AI : Hid (∀ w, Below W.heap.size W w → At w .u8 io info) := fun w hb => hat.below hb
  have SI : Hid (Sl io c) := hs
  clear hT hat hs
  go_enter Tryd.func12, Tryd.ntmps12
  go_wp2_with fail
  rw [← hX]
  clear hX
  refine (bytes_blk X TX.out _ 8 8 K hK wK BX.out.at (by decide)).mono ?_
  rintro e w1 ⟨rfl, b1, hb1⟩
  have hkl : (bytesD K).length = 32 := by rw [bytesD_length, hK]
  have pk := bytesD_bts K
  obtain ⟨k, hk⟩ : ∃ k, bytesD K = k := ⟨_, rfl⟩
  have HK : Hid (bytesD K = k) := hk
  rw [hk] at hkl pk b1
  have zX := BX.out.lt
  replace HB : Hid (Below W.heap.size W w1) := HB.out.trans (hb1.mono (by omega))
  replace TX : Hid (Tabs w1) := TX.out.on hb1
  have BK : Hid (Blk w1 X.heap.size .u8 5 k) := b1
  clear hb1 b1 BX hk wK hK
  generalize X.heap.size = gk at *
  have SH : Hid (Holds w1 w1 .u8 5 (.slice none 0 0) (outT k info 0) ∧ Holds w1 w1 .u8 5 (.slice none 0 0) (tk k info 0) ∧ Apart (.slice none 0 0) (.slice none 0 0)) := ⟨Holds.start _ _ _, Holds.start _ _ _, Apart.nil _⟩
  go_wp2_with fail
  go_loopw [9, 10, 11] (fun o l i wr => ∃ t : Nat, t ≤ rounds32 n ∧ i = .int .u8 (((t + 1 : Nat) : Int) % 256) ∧ Holds w1 wr .u8 5 o (outT k info t) ∧ Holds w1 wr .u8 5 l (tk k info t) ∧ Apart o l) (fun o _ _ _ => n + 32 - (match o with | .slice _ l _ => l | _ => 0))
  case atStart => exact ⟨0, Nat.zero_le _, rfl, SH.out⟩
  case round =>
    clear SH
    obtain ⟨t, ht, rfl, FO, FL, FA⟩ := hrel
    obtain ⟨oo, oc, ho, hoc, _, hon⟩ := FO.at'
    obtain ⟨lo, lc, hl, hlc, hla, hln⟩ := FL.at'
    subst ho hl
    have hol := outT_length k info t
    rw [hol] at FO hoc FA ⊢
    have hll : (tk k info t).length ≤ 32 := by
      cases t with
      | zero => exact Nat.zero_le _
      | succ t => rw [tk_length]; exact Nat.le_refl _
    have HOC : Hid (32 * t ≤ oc) := hoc
    have FO' : Hid (Holds w1 wr .u8 5 (.slice oo (32 * t) oc) (outT k info t)) := FO
    have FA' : Hid (Apart (.slice oo (32 * t) oc) (.slice lo (tk k info t).length lc)) := FA
    have ALt : Hid (At wr .u8 lo (tk k info t)) := hla
    have SLt : Hid (Sl lo lc) := fun h => (hln h).1
    have BW : Hid (Below w1.heap.size w1 wr) := FO.below
    have b0 : (0 : Int) ≤ ((t + 1 : Nat) : Int) % 256 := by omega
    have b1 : ((t + 1 : Nat) : Int) % 256 < 256 := by omega
    have HT2 : Hid (tk k info (t + 1) = bytesD (hmac k (tk k info t ++ (info ++ [((t + 1 : Nat) : Int) % 256])))) := rfl
    have HO2 : Hid (outT k info (t + 1) = outT k info t ++ tk k info (t + 1)) := rfl
    have HN : Hid (∀ u : Int, u = (((t + 1 : Nat) : Int) % 256 + 1) % 256 → u = ((t + 1 + 1 : Nat) : Int) % 256) := fun u hu => by omega
    have pl := tk_bts k info t
    have HLL : Hid ((tk k info t).length ≤ 32) := hll
    clear FO FL FA hoc hlc hla hln hon
    generalize hzz : ((t + 1 : Nat) : Int) % 256 = z at *
    clear hzz
    generalize hlll : (tk k info t).length = ll at *
    have HLe : Hid ((tk k info t).length = ll) := hlll
    clear hlll
    have l32 : (ll : Int) ≤ 32 := by omega
    by_cases hlt : 32 * t < n
    · have i3 : ((32 * t : Nat) : Int) < (n : Int) := by omega
      obtain ⟨Y, hY⟩ : ∃ Y, Y = (wr.alloc (Obj.cells #[.int .u8 z] 5)).alloc (Obj.cells #[.slice lo ll lc, .slice io m c, .slice (some ⟨wr.heap.size, 0, none⟩) 1 1] 22) := ⟨_, rfl⟩
      have bY : Below wr.heap.size wr Y := by rw [hY]; exact (below_one _ _).alloc (by simp) _
      have BZ : Blk Y wr.heap.size .u8 5 [z] := by rw [hY]; exact (Blk.new wr .u8 5 [z]).alloc _
      have CY : Cel Y (wr.heap.size + 1) 22 [.slice lo ll lc, .slice io m c, .slice (some ⟨wr.heap.size, 0, none⟩) 1 1] := by
        rw [hY]
        have := heap_alloc_new (wr.alloc (Obj.cells #[.int .u8 z] 5)) (Obj.cells #[.slice lo ll lc, .slice io m c, .slice (some ⟨wr.heap.size, 0, none⟩) 1 1] 22)
        rw [size_alloc] at this
        exact this
      have zY : wr.heap.size + 1 < Y.heap.size := CY.lt
      have CC : Hid (Calls Tryd.prog 27 #[.slice (some ⟨wr.heap.size + 1, 0, none⟩) 3 3] Y fun e W' => ∃ v, e = .returned v ∧ Holds Y W' .u8 5 v (tk k info t ++ (info ++ [z]))) := by
        have := concat_any Y (wr.heap.size + 1) 3 3 (fun i => if i = 0 then lo else if i = 1 then io else some ⟨wr.heap.size, 0, none⟩) (fun i => if i = 0 then ll else if i = 1 then m else 1) (fun i => if i = 0 then lc else if i = 1 then c else 1) (fun i => if i = 0 then tk k info t else if i = 1 then info else [z]) (by decide)
          (fun j hj => by
            rw [CY.cell]
            match j, hj with
            | 0, _ => rfl
            | 1, _ => rfl
            | 2, _ => rfl) (by omega)
          (fun j hj => by
            match j, hj with
            | 0, _ => exact HLe.out
            | 1, _ => exact hx
            | 2, _ => rfl)
          (fun j hj => by
            match j, hj with
            | 0, _ => exact ALt.out.below bY
            | 1, _ => exact AI.out Y (HB.out.trans ((BW.out.trans (bY.mono BW.out.size)).mono HB.out.size))
            | 2, _ => exact BZ.at)
          (fun j hj => by
            match j, hj with
            | 0, _ => exact SLt.out
            | 1, _ => exact SI.out
            | 2, _ => exact fun h => by cases h)
          (by
            show (((([] : List Int) ++ tk k info t) ++ info) ++ [z]).length ≤ _
            have := HLe.out
            simp only [List.nil_append, List.length_append, List.length_singleton]
            omega)
        have e : joinX (fun i => if i = 0 then tk k info t else if i = 1 then info else [z]) 3 = tk k info t ++ (info ++ [z]) := by
          show ((([] : List Int) ++ tk k info t) ++ info) ++ [z] = _
          rw [List.nil_append, List.append_assoc]
        rw [e] at this
        exact this
      have FY : Hid (Holds w1 Y .u8 5 (.slice oo (32 * t) oc) (outT k info t)) := FO'.out.on bY
      have BWY : Hid (Below w1.heap.size w1 Y) := BW.out.trans (bY.mono BW.out.size)
      clear BZ CY bY FO' BW ALt SLt
      have go_z : (z : Int) < 256 := b1
      go_wp2_with fail
      rw [← hY]
      clear hY zY
      refine CC.out.mono ?_
      rintro e w2 ⟨v, rfl, H2⟩
      have pM : Bts (tk k info t ++ (info ++ [z])) := bts_append pl (bts_append hb (fun i => by
        match i with
        | 0 => exact ⟨b0, b1⟩
        | i + 1 => simp))
      have lM : (tk k info t ++ (info ++ [z])).length ≤ 1048700 := by
        have := HLe.out
        simp only [List.length_append, List.length_singleton]
        omega
      obtain ⟨M, hM⟩ : ∃ M, tk k info t ++ (info ++ [z]) = M := ⟨_, rfl⟩
      rw [hM] at H2 pM lM HT2
      obtain ⟨vo, vc, hv2, hvc, hva, hvn⟩ := H2.at'
      subst hv2
      obtain ⟨l, hl⟩ : ∃ l, M.length = l := ⟨_, rfl⟩
      have HL : Hid (M.length = l) := hl
      rw [hl] at hvc lM ⊢
      have b2 := H2.below
      have F2 : Hid (Holds w1 w2 .u8 5 (.slice oo (32 * t) oc) (outT k info t)) := FY.out.on b2
      have B2 : Hid (Below w1.heap.size w1 w2) := BWY.out.trans (b2.mono BWY.out.size)
      have T2 : Hid (Tabs w2) := TX.out.on B2.out
      have SV : Hid (Sl vo vc) := fun h => (hvn h).1
      clear CC FY BWY hl hM H2 b2 pl hvn
      go_wp2_with fail
      refine (tagBytes_any w2 T2.out _ 32 32 k hkl pk (BK.out.on B2.out).at (by decide) (by decide) vo l vc M HL.out pM hva SV.out (by omega)).mono ?_
      rintro e w3 ⟨rfl, hb3⟩
      obtain ⟨R, hR⟩ : ∃ R, hmac k M = R := ⟨_, rfl⟩
      have hRl : R.length = 8 := by rw [← hR]; exact hmac_length _ _
      have hRw : Wds R := by rw [← hR]; exact sumB_wds _
      have hsR : (Tryd.prog.info? 26).map (·.size) = some R.length := by rw [hRl]; exact size26
      rw [hR] at HT2 ⊢
      replace F2 : Hid (Holds w1 w3 .u8 5 (.slice oo (32 * t) oc) (outT k info t)) := F2.out.on hb3
      replace B2 : Hid (Below w1.heap.size w1 w3) := B2.out.trans (hb3.mono B2.out.size)
      replace T2 : Hid (Tabs w3) := T2.out.on hb3
      clear hb3 hva hvc SV HL pM hR
      have z3 := B2.out.size
      go_wp2_with (first | (refine wpList_store_but rfl 26 _ _ rfl w3.heap.size R rfl rfl (Blk.new w3 .u32 26 V) hsR (hVl.trans hRl.symm) ?_; intro w4 b4 hw4 hs4))
      have hb34 : Below w3.heap.size w3 w4 := (below_one w3 _).trans (hw4.below (Nat.le_refl _) (by simp))
      replace F2 : Hid (Holds w1 w4 .u8 5 (.slice oo (32 * t) oc) (outT k info t)) := F2.out.on hb34
      replace B2 : Hid (Below w1.heap.size w1 w4) := B2.out.trans (hb34.mono B2.out.size)
      replace T2 : Hid (Tabs w4) := T2.out.on hb34
      have BR : Hid (Blk w4 w3.heap.size .u32 26 R) := b4
      clear hb34 hw4 hs4 b4
      refine (bytes_at w4 T2.out.lows _ 8 8 R hRl hRw BR.out.at (by decide) (by have := T2.out.sz; omega)).mono ?_
      rintro e w5 ⟨rfl, O5⟩
      have H5 : Hid (Holds w1 w5 .u8 5 (.slice (some ⟨w4.heap.size, 0, none⟩) 32 32) (tk k info (t + 1))) := by rw [HT2.out]; exact O5.holds.base B2.out
      have A5 : Hid (Apart (.slice oo (32 * t) oc) (.slice (some ⟨w4.heap.size, 0, none⟩) 32 32)) := fun g h h' => by
        have := (F2.out.own.lt g h).2
        simp [Value.ownBlock] at h'
        omega
      replace F2 : Hid (Holds w1 w5 .u8 5 (.slice oo (32 * t) oc) (outT k info t)) := F2.out.on O5.below
      have E5 : Hid (At w5 .u8 (some ⟨w4.heap.size, 0, none⟩) (tk k info (t + 1))) := by rw [HT2.out]; exact O5.at
      have hT1 := tk_length k info t
      have h63 : (outT k info t).length + 32 ≤ maxLen := by rw [hol]; unfold maxLen; omega
      have hby : ((outT k info t).length + 32) * 1 ≤ 140737488355328 := by rw [hol]; omega
      have hr : t + 1 ≤ rounds32 n := by unfold rounds32; omega
      have HT1 : Hid ((tk k info (t + 1)).length = 32) := hT1
      clear O5 BR HT2 hT1 T2 hol
      generalize w4.heap.size = gq at *
      obtain ⟨T1, hT1e⟩ : ∃ T1, tk k info (t + 1) = T1 := ⟨_, rfl⟩
      have HTE : Hid (T1 = tk k info (t + 1)) := hT1e.symm
      rw [hT1e] at H5 E5 HT1 HO2
      clear hT1e
      generalize outT k info t = T0 at *
      have NN : Hid (∀ w v, Holds w1 w .u8 5 v (T0 ++ T1) → Holds w1 w .u8 5 v (outT k info (t + 1))) := fun w v h => by rw [HO2.out]; exact h
      clear HO2
      go_wp2_with (first | (at_builtin; refine wpList_append_apart (W := w1) rfl _ _ 22 rfl .u8 5 i0 (.int .u8 0) 1 Tryd.underlying22 hi hz0 hz1 hz2 rfl (.slice oo (32 * t) oc) T0 rfl F2.out ⟨gq, 0, none⟩ 32 32 T1 rfl HT1.out E5.out h63 hby ?_; intro v6 w6 G6 keep; have G6' : Hid _ := NN.out _ _ G6; have G7' : Hid _ := keep _ _ _ _ H5.out A5.out; clear G6 keep))
      go_roundw
      case rel => exact ⟨t + 1, hr, by congr 1; exact HN.out _ rfl, G6'.out, HTE.out ▸ G7'.out.1, G7'.out.2⟩
      case measure =>
        obtain ⟨po, pc, hp, _⟩ := G6'.out.at'
        subst hp
        rw [outT_length]
        simp
        omega
    · have hte : t = rounds32 n := by unfold rounds32 at ht ⊢; omega
      have hnt : n ≤ 32 * t := by omega
      have i3 : (n : Int) ≤ ((32 * t : Nat) : Int) := by omega
      have i4 : n ≤ oc := Nat.le_trans hnt HOC.out
      have i5 : ¬ (oc < n) := by omega
      have OB : Hid (OwnB W wr oo n (okm (bytesD K) info n)) := by
        refine ⟨okm_length _ _ _, ?_⟩
        rw [HK.out]
        unfold okm
        rw [← hte]
        rcases FO'.out.own.2 with ⟨h0, h1⟩ | ⟨g, cap, cur, h1, h2, h3, h4, h5, h6, h7⟩
        · simp only [Value.slice.injEq] at h0
          exact .inl ⟨by omega, h0.1⟩
        · simp only [Value.slice.injEq] at h1
          refine .inr ⟨g, cur, h1.1, Nat.le_trans HB.out.size h2, h3, by omega, ?_⟩
          rw [List.map_take, ← h7, List.take_take]
          congr 1
          omega
      have HE : Hid (Below W.heap.size W wr) := HB.out.trans (BW.out.mono HB.out.size)
      clear HT2 HO2 HN FO' FA' ALt SLt BW hlt hte ht hol HLe HLL pl HOC
      go_wp2_with fail
      go_ret2
      exact ⟨oo, rfl, OB.out, HE.out⟩
end Go.Proofs.YtialckmoigcdeaaDoor
