import Derived.Test.YtbpdmkohihgnjaaDoorP40
import Derived.Test.YtbpdmkohihgnjaaDoorP31
import Derived.Test.YtbpdmkohihgnjaaDoorP32
import Derived.Test.YtbpdmkohihgnjaaDoorP38
import Derived.Test.YtbpdmkohihgnjaaDoorP39
namespace Go.Proofs.YtbpdmkohihgnjaaDoor
open Go.RowKit
set_option maxHeartbeats 8000000
set_option maxRecDepth 100000
def sfx : Nat → Code → Code
  | n + 1, .seq _ b => sfx n b
  | _, c => c
def hdx (n : Nat) (c : Code) : Code := match sfx n c with
  | .seq x _ => x
  | c => c
theorem num_any (W : World) (x : Int) : Calls Tryd.prog 16 #[.int .i64 x] W fun e w' => e = .returned (.int .i64 x) ∧ w' = W := by
  go_enter Tryd.func16, Tryd.ntmps16
  go_wp2
  go_ret
  exact ⟨rfl, rfl⟩
def claC (s o q : List Int) (ri sa : Bool) : List Value := (s ++ (o ++ q)).map (Value.int .u32) ++ [.bool ri, .bool sa]
structure JL (W : World) (E : Nat → Addr) (g4 g7 g8 : Nat) (ao : Option Addr) (n c : Nat) (ot : Bool) (R : List Rl) (s o q : List Int) (ri sa : Bool) (k m d t : List Int) (w : World) : Prop where
  bl : Below W.heap.size W w
  tb : Tabs w
  es : ErrS w E
  p3 : Cel w W.heap.size 36 (polC ao n c ot)
  c4 : Cel w g4 40 (claC s o q ri sa)
  b7 : Blk w g7 .u32 23 k
  b8 : Blk w g8 .u32 38 (quoL m d t)
  ru : RulesAt w ao R
  l4 : W.heap.size < g4
  l7 : g4 < g7
  l8 : g7 < g8
  w13 : 12 < W.heap.size
  rw : ∀ b off, ao = some ⟨b, off, none⟩ → R ≠ [] → b < W.heap.size
theorem JL.on {W : World} {E : Nat → Addr} {g4 g7 g8 : Nat} {ao : Option Addr} {n c : Nat} {ot : Bool} {R : List Rl} {s o q : List Int} {ri sa : Bool} {k m d t : List Int} {w w' : World} (h : JL W E g4 g7 g8 ao n c ot R s o q ri sa k m d t w) (hb : Below w.heap.size w w') : JL W E g4 g7 g8 ao n c ot R s o q ri sa k m d t w' :=
  ⟨below_on h.bl hb, h.tb.on hb, h.es.on hb, h.p3.on hb, h.c4.on hb, h.b7.on hb, h.b8.on hb, h.ru.on hb, h.l4, h.l7, h.l8, h.w13, h.rw⟩
structure JF (W : World) (ao : Option Addr) (n : Nat) (R : List Rl) (s o q k m d t : List Int) : Prop where
  hs : s.length = 8
  ho : o.length = 8
  hq : q.length = 24
  hk : k.length = 8
  hm : m.length = 8
  hd : d.length = 8
  ht : t.length = 8
  wo : Wds o
  wk : Wds k
  wm : Wds m
  wd : Wds d
  wt : Wds t
  hn : R.length = n
  ok : ∀ r ∈ R, r.Ok
  hmax : (n : Int) ≤ 9223372036854775807
structure JR (W : World) (g8 b off n c : Nat) (ot : Bool) (m d t : List Int) (r : Rl) (j : Nat) (w : World) : Prop where
  p3 : Cel w W.heap.size 36 (polC (some ⟨b, off, none⟩) n c ot)
  b8 : Blk w g8 .u32 38 (quoL m d t)
  rr : w.rangeAt b (off + j * 10) r.cs
end Go.Proofs.YtbpdmkohihgnjaaDoor
namespace Go.Proofs.YtbpdmkohihgnjaaDoor
open Go.RowKit
set_option maxHeartbeats 4000000
set_option maxRecDepth 100000
structure KD (W : World) (ao : Option Addr) (n c : Nat) (ot : Bool) (R : List Rl) (w : World) : Prop where
  bl : Below W.heap.size W w
  p : Cel w W.heap.size 36 (polC ao n c ot)
  ru : RulesAt w ao R
theorem KD.on {W : World} {ao : Option Addr} {n c : Nat} {ot : Bool} {R : List Rl} {w w' : World} (h : KD W ao n c ot R w) (hb : Below w.heap.size w w') : KD W ao n c ot R w' := ⟨below_on h.bl hb, h.p.on hb, h.ru.on hb⟩
theorem KD.start {W : World} {ao : Option Addr} {n c : Nat} {ot : Bool} {R : List Rl} (hr : RulesAt W ao R) : KD W ao n c ot R (W.alloc (Obj.cells #[.slice ao n c, .bool ot] 36)) := ⟨below_one _ _, heap_alloc_new _ _, hr.on (below_one _ _)⟩
theorem KD.rule {W : World} {ao : Option Addr} {n c : Nat} {ot : Bool} {R : List Rl} {w : World} (h : KD W ao n c ot R w) {k : Nat} (hk : k < R.length) : ∃ b off, ao = some ⟨b, off, none⟩ ∧ w.rangeAt b (off + k * 10) (R[k]).cs := by
  rcases h.ru with h0 | ⟨b, off, e, _, hra⟩
  · rw [h0] at hk; simp at hk
  · exact ⟨b, off, e, hra k _ (List.getElem?_eq_getElem hk)⟩
theorem stands_any (W : World) (ao : Option Addr) (n c : Nat) (ot : Bool) (R : List Rl) (hn : R.length = n) (hr : RulesAt W ao R) (ok : ∀ r ∈ R, r.Ok) (hmax : (n : Int) ≤ 9223372036854775807) :
    Calls Tryd.prog 20 #[.agg (polC ao n c ot).toArray] W fun e W' => e = .returned (.bool (okP R)) ∧ Below W.heap.size W W' := by
  obtain ⟨X, hX⟩ : ∃ X, X = W.alloc (Obj.cells #[.slice ao n c, .bool ot] 36) := ⟨_, rfl⟩
  have Y0 : Hid (KD W ao n c ot R X) := hid (by rw [hX]; exact KD.start hr)
  have HNum := hid (fun w x => num_any w x)
  have c0 : X.cell? ⟨W.heap.size, 0, none⟩ = some (.slice ao n c) := Y0.out.p.cell 0
  clear hr
  unfold polC
  by_cases hbig : 256 < n
  · have HF := hid (okP_long (R := R) (by omega))
    have i1 : (256 : Int) < (n : Int) := by omega
    go_enter Tryd.func20, Tryd.ntmps20
    go_upto_region 1 with fail
    rw [← hX]
    clear hX
    go_wp2_with fail
    go_ret
    exact ⟨by rw [HF.out]; rfl, Y0.out.bl⟩
  · have i1 : (n : Int) ≤ 256 := by omega
    go_enter Tryd.func20, Tryd.ntmps20
    go_upto_region 1 with fail
    rw [← hX]
    clear hX
    go_wp2_with fail
    clear c0
    go_loopw [3] (fun i wr => ∃ k : Nat, k ≤ n ∧ i = .int .i64 k ∧ KD W ao n c ot R wr ∧ ∀ r ∈ R.take k, L.T.name r.nm.data.toList = true) (fun i _ => n - (intOf i).toNat)
    case atStart => exact ⟨0, Nat.zero_le _, rfl, Y0.out, by simp⟩
    case round =>
      clear Y0
      obtain ⟨k, hk, rfl, hkd, hall⟩ := hrel
      have Y1 := hid hkd
      have HA := hid hall
      clear hkd hall
      have c0 : wr.cell? ⟨W.heap.size, 0, none⟩ = some (.slice ao n c) := Y1.out.p.cell 0
      by_cases hlt : k < n
      · have hkR : k < R.length := by omega
        obtain ⟨b, off, rfl, hra⟩ := Y1.out.rule hkR
        have cn : wr.cell? ⟨b, off + k * 10 + 1, none⟩ = some (.string (R[k]).nm) := hra 1 _ rfl
        have hmem : R[k] ∈ R := List.getElem_mem hkR
        have htk : R.take (k + 1) = R.take k ++ [R[k]] := List.take_succ_eq_append_getElem hkR
        have ro := (ok _ hmem).nl
        generalize R[k] = r at *
        have i3 : (k : Int) < (n : Int) := by omega
        have HN := hid (show k + 1 ≤ n by omega)
        cases hnm : L.T.name r.nm.data.toList
        · have HC := hid (fun w => name_not w r.nm ro hnm)
          have HF := hid (okP_name hmem hnm)
          clear hra hmem htk ro hnm hlt hk
          go_wp2_with (first | (go_at_call 52; refine (HC.out _).mono ?_; rintro e w1 ⟨rfl, hw⟩; subst w1) | (go_at_call 16; refine (HNum.out _ _).mono ?_; rintro e w1 ⟨rfl, hw⟩; subst w1))
          go_ret
          exact ⟨by rw [HF.out]; rfl, Y1.out.bl⟩
        · have HC := hid (fun w => name_yes w r.nm ro hnm)
          have HA2 : Hid (∀ x ∈ R.take (k + 1), L.T.name x.nm.data.toList = true) := hid fun x hx => by
            rw [htk] at hx
            rcases List.mem_append.1 hx with hx | hx
            · exact HA.out x hx
            · rw [List.mem_singleton.1 hx]; exact hnm
          clear hra hmem htk ro hnm HA
          go_wp2_with (first | (go_at_call 52; refine (HC.out _).mono ?_; rintro e w1 ⟨rfl, hw⟩; subst w1) | (go_at_call 16; refine (HNum.out _ _).mono ?_; rintro e w1 ⟨rfl, hw⟩; subst w1))
          go_roundw
          case rel => exact ⟨k + 1, HN.out, by go_num, Y1.out, HA2.out⟩
          case measure => have := HN.out; simp [intOf]; omega
      · obtain rfl : k = n := by omega
        have HT : Hid (okP R = true) := hid (okP_all (by omega) (by have := HA.out; rwa [List.take_of_length_le (by omega)] at this))
        clear HA
        go_wp2_with fail
        go_ret
        exact ⟨by rw [HT.out]; rfl, Y1.out.bl⟩
def CkE (E : Nat → Addr) (er : Value) : Prop := er = .iface 235 (.pointer (some (E 6))) ∨ ∃ k : Int, er = .iface 134 (.agg #[.int .i64 k, .iface 235 (.pointer (some (E 6)))])
attribute [-simp] Tryd.isAgg42 Tryd.zeroValue42
theorem checked_any (W : World) (E : Nat → Addr) (hE : ErrS W E) (ao : Option Addr) (n c : Nat) (ot : Bool) (R : List Rl) (hn : R.length = n) (hr : RulesAt W ao R) (ok : ∀ r ∈ R, r.Ok) (hmax : (n : Int) ≤ 9223372036854775807) :
    Calls Tryd.prog 48 #[.agg (polC ao n c ot).toArray] W fun e W' => ∃ er, e = .returned er ∧ (okP R = true → er = .nilIface) ∧ (okP R = false → CkE E er) ∧ Below W.heap.size W W' := by
  have hz : ∀ w, (zeroValue 42).run Tryd.prog w = .ok (.agg #[.bool false, .string ⟨#[]⟩, .int .u32 0, .int .u32 0, .int .u32 0, .int .u32 0, .int .u32 0, .int .u32 0, .int .u32 0, .int .u32 0]) w := fun w => by rw [Tryd.zeroValue42]
  obtain ⟨X, hX⟩ : ∃ X, X = W.alloc (Obj.cells #[.slice ao n c, .bool ot] 36) := ⟨_, rfl⟩
  have Y0 : Hid (KD W ao n c ot R X) := hid (by rw [hX]; exact KD.start hr)
  have c0 : X.cell? ⟨W.heap.size, 0, none⟩ = some (.slice ao n c) := Y0.out.p.cell 0
  have HE := hid hE
  have hb134 : ∀ (x : Int) (a : Addr) w, (Instr.build 134 #[(0, .int .i64 x), (1, .iface 235 (.pointer (some a)))]).run Tryd.prog w = .ok (.agg #[.int .i64 x, .iface 235 (.pointer (some a))]) w := fun x a w => run_build w 134 _ _ (built134 x a)
  clear hr hE
  unfold polC
  by_cases hbig : 256 < n
  · have HF := hid (okP_long (R := R) (by omega))
    have i1 : (256 : Int) < (n : Int) := by omega
    have c6 : X.cell? ⟨6, 0, none⟩ = some (.iface 235 (.pointer (some (E 6)))) := (HE.out.on Y0.out.bl).cell 6 (by decide) (by decide)
    go_enter Tryd.func48, Tryd.ntmps48
    go_upto_region 1 with fail
    rw [← hX]
    clear hX
    go_wp2_with fail
    go_ret
    exact ⟨_, rfl, fun h => absurd (h.symm.trans HF.out) (by decide), fun _ => .inl rfl, Y0.out.bl⟩
  · have i1 : (n : Int) ≤ 256 := by omega
    go_enter Tryd.func48, Tryd.ntmps48
    go_upto_region 1 with fail
    rw [← hX]
    clear hX
    go_wp2_with fail
    clear c0
    go_loopw [13] (fun i wr => ∃ k : Nat, k ≤ n ∧ i = .int .i64 k ∧ KD W ao n c ot R wr ∧ ∀ r ∈ R.take k, L.T.name r.nm.data.toList = true) (fun i _ => n - (intOf i).toNat)
    case atStart => exact ⟨0, Nat.zero_le _, rfl, Y0.out, by simp⟩
    case round =>
      clear Y0
      obtain ⟨k, hk, rfl, hkd, hall⟩ := hrel
      have Y1 := hid hkd
      have HA := hid hall
      clear hkd hall
      by_cases hlt : k < n
      · have hkR : k < R.length := by omega
        obtain ⟨b, off, rfl, hra⟩ := Y1.out.rule hkR
        have hmem : R[k] ∈ R := List.getElem_mem hkR
        have htk : R.take (k + 1) = R.take k ++ [R[k]] := List.take_succ_eq_append_getElem hkR
        have ro := ok _ hmem
        generalize R[k] = r at *
        have hlr := r.len ro.ml
        have HR := hid hra
        have i3 : (k : Int) < (n : Int) := by omega
        have HN := hid (show k + 1 ≤ n by omega)
        have HY := hid (fun (h : L.T.name r.nm.data.toList = true) w => name_yes w r.nm ro.nl h)
        have HNo := hid (fun (h : L.T.name r.nm.data.toList = false) w => name_not w r.nm ro.nl h)
        clear hra
        go_upto_region 6 with (first | (refine wpList_load_mid rfl 42 _ rfl b (off + k * 10) rfl r.cs _ HR.out Tryd.underlying42 rfl (by rw [hlr]; exact size42) ?_) | (refine wpList_store_st rfl 42 _ _ rfl wr.heap.size r.cs rfl rfl (heap_alloc_new wr zrule) (by rw [hlr]; exact size42) (by rw [hlr]; rfl) r.one ?_; intro w2 hc2 hb2 hs2; have Y2 : Hid (KD W (some ⟨b, off, none⟩) n c ot R w2 ∧ Cel w2 wr.heap.size 42 r.cs) := hid ⟨Y1.out.on (but_box hb2), hc2⟩; clear hc2 hb2 hs2))
        generalize wr.heap.size = g4 at *
        have cn : w2.cell? ⟨g4, 1, none⟩ = some (.string r.nm) := Y2.out.2.cell 1
        clear Y1 HR
        cases hnm : L.T.name r.nm.data.toList
        · have HC := hid (HNo.out hnm)
          have HF := hid (okP_name hmem hnm)
          have c6 : w2.cell? ⟨6, 0, none⟩ = some (.iface 235 (.pointer (some (E 6)))) := (HE.out.on Y2.out.1.bl).cell 6 (by decide) (by decide)
          clear hmem htk ro hnm HY HNo
          go_wp2_with (first | (go_at_call 52; refine (HC.out _).mono ?_; rintro e w3 ⟨rfl, hw⟩; subst w3))
          go_ret
          exact ⟨_, rfl, fun h => absurd (h.symm.trans HF.out) (by decide), fun _ => .inr ⟨_, rfl⟩, Y2.out.1.bl⟩
        · have HC := hid (HY.out hnm)
          have HA2 : Hid (∀ x ∈ R.take (k + 1), L.T.name x.nm.data.toList = true) := hid fun x hx => by
            rw [htk] at hx
            rcases List.mem_append.1 hx with hx | hx
            · exact HA.out x hx
            · rw [List.mem_singleton.1 hx]; exact hnm
          clear hmem htk ro hnm HY HNo HA
          go_wp2_with (first | (go_at_call 52; refine (HC.out _).mono ?_; rintro e w3 ⟨rfl, hw⟩; subst w3))
          go_roundw
          case rel => exact ⟨k + 1, HN.out, by go_num, Y2.out.1, HA2.out⟩
          case measure => have := HN.out; simp [intOf]; omega
      · obtain rfl : k = n := by omega
        have HT : Hid (okP R = true) := hid (okP_all (by omega) (by have := HA.out; rwa [List.take_of_length_le (by omega)] at this))
        clear HA
        go_wp2_with fail
        go_ret
        exact ⟨_, rfl, fun _ => rfl, fun h => absurd (h.symm.trans HT.out) (by decide), Y1.out.bl⟩
end Go.Proofs.YtbpdmkohihgnjaaDoor
