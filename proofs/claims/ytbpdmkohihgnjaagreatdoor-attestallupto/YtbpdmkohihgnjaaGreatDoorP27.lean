import Derived.Test.YtbpdmkohihgnjaaGreatDoorP26
import Derived.Test.YtbpdmkohihgnjaaGreatDoorP20
import Derived.Test.YtbpdmkohihgnjaaGreatDoorP21
import Derived.Test.YtbpdmkohihgnjaaGreatDoorP24
import Derived.Test.YtbpdmkohihgnjaaGreatDoorP25
namespace Go.Proofs.YtbpdmkohihgnjaaGreatDoor
open Go.RowKit
set_option maxHeartbeats 8000000
set_option maxRecDepth 100000
def sfx : Nat → Code → Code
  | n + 1, .seq _ b => sfx n b
  | _, c => c
def hdx (n : Nat) (c : Code) : Code := match sfx n c with
  | .seq x _ => x
  | c => c
theorem num_any (W : World) (x : Int) : Calls Tryz.prog 7 #[.int .i64 x] W fun e w' => e = .returned (.int .i64 x) ∧ w' = W := by
  go_enter Tryz.func7, Tryz.ntmps7
  go_wp2
  go_ret
  exact ⟨rfl, rfl⟩
def claC (s o q : List Int) (ri sa : Bool) : List Value := (s ++ (o ++ q)).map (Value.int .u32) ++ [.bool ri, .bool sa]
theorem size40 : (Tryz.prog.info? 30).map (·.size) = some 42 := by kernel_rfl
theorem range_app {w : World} {g o : Nat} {a b : List Value} (h : w.rangeAt g o (a ++ b)) : w.rangeAt g o a := fun j v hv => h j v (by rw [List.getElem?_append_left (List.getElem?_eq_some_iff.1 hv).1]; exact hv)
theorem cla0 {w : World} {g : Nat} {s o q : List Int} {ri sa : Bool} (h : Cel w g 30 (claC s o q ri sa)) : w.rangeAt g 0 (s.map (Value.int .u32)) := range_left (range_app (cel_range h))
theorem cla8 {w : World} {g : Nat} {s o q : List Int} {ri sa : Bool} (h : Cel w g 30 (claC s o q ri sa)) (hs : s.length = 8) : w.rangeAt g 8 (o.map (Value.int .u32)) := by
  have := range_left (range_right (range_app (cel_range h)) hs)
  rwa [Nat.zero_add] at this
theorem cla16 {w : World} {g : Nat} {s o q : List Int} {ri sa : Bool} (h : Cel w g 30 (claC s o q ri sa)) (hs : s.length = 8) (ho : o.length = 8) : w.rangeAt g 16 (q.map (Value.int .u32)) := by
  have := range_right (range_right (range_app (cel_range h)) hs) ho
  rwa [Nat.zero_add] at this
theorem cla40 {w : World} {g : Nat} {s o q : List Int} {ri sa : Bool} (h : Cel w g 30 (claC s o q ri sa)) (hs : s.length = 8) (ho : o.length = 8) (hq : q.length = 24) : w.cell? ⟨g, 40, none⟩ = some (.bool ri) ∧ w.cell? ⟨g, 41, none⟩ = some (.bool sa) := by
  have hl : ((s ++ (o ++ q)).map (Value.int .u32)).length = 40 := by simp [hs, ho, hq]
  rw [h.cell 40, h.cell 41, claC, List.getElem?_append_right (by omega), List.getElem?_append_right (by omega), hl]
  exact ⟨rfl, rfl⟩
structure JL (W : World) (E : Nat → Addr) (g4 g7 g8 : Nat) (ao : Option Addr) (n c : Nat) (ot : Bool) (R : List Rl) (s o q : List Int) (ri sa : Bool) (k m d t : List Int) (w : World) : Prop where
  bl : Below W.heap.size W w
  tb : Tabs w
  es : ErrS w E
  p3 : Cel w W.heap.size 24 (polC ao n c ot)
  c4 : Cel w g4 30 (claC s o q ri sa)
  b7 : Blk w g7 .u32 26 k
  b8 : Blk w g8 .u32 28 (quoL m d t)
  ru : RulesAt w ao R
  l4 : W.heap.size < g4
  l7 : g4 < g7
  l8 : g7 < g8
  w13 : 12 < W.heap.size
  rw : ∀ b off, ao = some ⟨b, off, none⟩ → R ≠ [] → b < W.heap.size
theorem JL.on {W : World} {E : Nat → Addr} {g4 g7 g8 : Nat} {ao : Option Addr} {n c : Nat} {ot : Bool} {R : List Rl} {s o q : List Int} {ri sa : Bool} {k m d t : List Int} {w w' : World} (h : JL W E g4 g7 g8 ao n c ot R s o q ri sa k m d t w) (hb : Below w.heap.size w w') : JL W E g4 g7 g8 ao n c ot R s o q ri sa k m d t w' :=
  ⟨below_on h.bl hb, h.tb.on hb, h.es.on hb, h.p3.on hb, h.c4.on hb, h.b7.on hb, h.b8.on hb, h.ru.on hb, h.l4, h.l7, h.l8, h.w13, h.rw⟩
structure JF (W : World) (ao : Option Addr) (n : Nat) (R : List Rl) (s o q k m d t : List Int) : Prop where
  hs : s.length = 8
  ho : o.length = 8
  hq : q.length = 24
  hk : k.length = 8
  hm : m.length = 8
  hd : d.length = 8
  ht : t.length = 8
  wo : Wds o
  wk : Wds k
  wm : Wds m
  wd : Wds d
  wt : Wds t
  hn : R.length = n
  ok : ∀ r ∈ R, r.Ok
  hmax : (n : Int) ≤ 9223372036854775807
structure JR (W : World) (g8 b off n c : Nat) (ot : Bool) (m d t : List Int) (r : Rl) (j : Nat) (w : World) : Prop where
  p3 : Cel w W.heap.size 24 (polC (some ⟨b, off, none⟩) n c ot)
  b8 : Blk w g8 .u32 28 (quoL m d t)
  rr : w.rangeAt b (off + j * 10) r.cs
end Go.Proofs.YtbpdmkohihgnjaaGreatDoor
namespace Go.Proofs.YtbpdmkohihgnjaaGreatDoor
open Go.RowKit
set_option maxHeartbeats 4000000
set_option maxRecDepth 100000
structure KD (W : World) (ao : Option Addr) (n c : Nat) (ot : Bool) (R : List Rl) (w : World) : Prop where
  bl : Below W.heap.size W w
  p : Cel w W.heap.size 24 (polC ao n c ot)
  ru : RulesAt w ao R
theorem KD.on {W : World} {ao : Option Addr} {n c : Nat} {ot : Bool} {R : List Rl} {w w' : World} (h : KD W ao n c ot R w) (hb : Below w.heap.size w w') : KD W ao n c ot R w' := ⟨below_on h.bl hb, h.p.on hb, h.ru.on hb⟩
theorem KD.start {W : World} {ao : Option Addr} {n c : Nat} {ot : Bool} {R : List Rl} (hr : RulesAt W ao R) : KD W ao n c ot R (W.alloc (Obj.cells #[.slice ao n c, .bool ot] 24)) := ⟨below_one _ _, heap_alloc_new _ _, hr.on (below_one _ _)⟩
theorem KD.rule {W : World} {ao : Option Addr} {n c : Nat} {ot : Bool} {R : List Rl} {w : World} (h : KD W ao n c ot R w) {k : Nat} (hk : k < R.length) : ∃ b off, ao = some ⟨b, off, none⟩ ∧ w.rangeAt b (off + k * 10) (R[k]).cs := by
  rcases h.ru with h0 | ⟨b, off, e, _, hra⟩
  · rw [h0] at hk; simp at hk
  · exact ⟨b, off, e, hra k _ (List.getElem?_eq_getElem hk)⟩
def CkE (E : Nat → Addr) (er : Value) : Prop := er = .iface 245 (.pointer (some (E 6))) ∨ ∃ k : Int, er = .iface 71 (.agg #[.int .i64 k, .iface 245 (.pointer (some (E 6)))])
attribute [-simp] Tryz.isAgg63 Tryz.zeroValue63
theorem checked_any (W : World) (E : Nat → Addr) (hE : ErrS W E) (ao : Option Addr) (n c : Nat) (ot : Bool) (R : List Rl) (hn : R.length = n) (hr : RulesAt W ao R) (ok : ∀ r ∈ R, r.Ok) (hmax : (n : Int) ≤ 9223372036854775807) :
    Calls Tryz.prog 56 #[.agg (polC ao n c ot).toArray] W fun e W' => ∃ er, e = .returned er ∧ (okP R = true → er = .nilIface) ∧ (okP R = false → CkE E er) ∧ Below W.heap.size W W' := by
  have hz : ∀ w, (zeroValue 63).run Tryz.prog w = .ok (.agg #[.bool false, .string ⟨#[]⟩, .int .u32 0, .int .u32 0, .int .u32 0, .int .u32 0, .int .u32 0, .int .u32 0, .int .u32 0, .int .u32 0]) w := fun w => by rw [Tryz.zeroValue63]
  obtain ⟨X, hX⟩ : ∃ X, X = W.alloc (Obj.cells #[.slice ao n c, .bool ot] 24) := ⟨_, rfl⟩
  have Y0 : Hid (KD W ao n c ot R X) := hid (by rw [hX]; exact KD.start hr)
  have c0 : X.cell? ⟨W.heap.size, 0, none⟩ = some (.slice ao n c) := Y0.out.p.cell 0
  have HE := hid hE
  have hb134 : ∀ (x : Int) (a : Addr) w, (Instr.build 71 #[(0, .int .i64 x), (1, .iface 245 (.pointer (some a)))]).run Tryz.prog w = .ok (.agg #[.int .i64 x, .iface 245 (.pointer (some a))]) w := fun x a w => run_build w 71 _ _ (built134 x a)
  clear hr hE
  unfold polC
  by_cases hbig : 256 < n
  · have HF := hid (okP_long (R := R) (by omega))
    have i1 : (256 : Int) < (n : Int) := by omega
    have c6 : X.cell? ⟨1, 0, none⟩ = some (.iface 245 (.pointer (some (E 6)))) := (HE.out.on Y0.out.bl).k6
    go_enter Tryz.func56, Tryz.ntmps56
    go_upto_region 1 with fail
    rw [← hX]
    clear hX
    go_wp2_with fail
    go_ret
    exact ⟨_, rfl, fun h => absurd (h.symm.trans HF.out) (by decide), fun _ => .inl rfl, Y0.out.bl⟩
  · have i1 : (n : Int) ≤ 256 := by omega
    go_enter Tryz.func56, Tryz.ntmps56
    go_upto_region 1 with fail
    rw [← hX]
    clear hX
    go_wp2_with fail
    clear c0
    go_loopw [13] (fun i wr => ∃ k : Nat, k ≤ n ∧ i = .int .i64 k ∧ KD W ao n c ot R wr ∧ ∀ r ∈ R.take k, L.T.name r.nm.data.toList = true) (fun i _ => n - (intOf i).toNat)
    case atStart => exact ⟨0, Nat.zero_le _, rfl, Y0.out, by simp⟩
    case round =>
      clear Y0
      obtain ⟨k, hk, rfl, hkd, hall⟩ := hrel
      have Y1 := hid hkd
      have HA := hid hall
      clear hkd hall
      by_cases hlt : k < n
      · have hkR : k < R.length := by omega
        obtain ⟨b, off, rfl, hra⟩ := Y1.out.rule hkR
        have hmem : R[k] ∈ R := List.getElem_mem hkR
        have htk : R.take (k + 1) = R.take k ++ [R[k]] := List.take_succ_eq_append_getElem hkR
        have ro := ok _ hmem
        generalize R[k] = r at *
        have hlr := r.len ro.ml
        have HR := hid hra
        have i3 : (k : Int) < (n : Int) := by omega
        have HN := hid (show k + 1 ≤ n by omega)
        have HY := hid (fun (h : L.T.name r.nm.data.toList = true) w => name_yes w r.nm ro.nl h)
        have HNo := hid (fun (h : L.T.name r.nm.data.toList = false) w => name_not w r.nm ro.nl h)
        clear hra
        go_upto_region 6 with (first | (refine wpList_load_mid rfl 63 _ rfl b (off + k * 10) rfl r.cs _ HR.out Tryz.underlying63 rfl (by rw [hlr]; exact size42) ?_) | (refine wpList_store_st rfl 63 _ _ rfl wr.heap.size r.cs rfl rfl (heap_alloc_new wr zrule) (by rw [hlr]; exact size42) (by rw [hlr]; rfl) r.one ?_; intro w2 hc2 hb2 hs2; have Y2 : Hid (KD W (some ⟨b, off, none⟩) n c ot R w2 ∧ Cel w2 wr.heap.size 63 r.cs) := hid ⟨Y1.out.on (but_box hb2), hc2⟩; clear hc2 hb2 hs2))
        generalize wr.heap.size = g4 at *
        have cn : w2.cell? ⟨g4, 1, none⟩ = some (.string r.nm) := Y2.out.2.cell 1
        clear Y1 HR
        cases hnm : L.T.name r.nm.data.toList
        · have HC := hid (HNo.out hnm)
          have HF := hid (okP_name hmem hnm)
          have c6 : w2.cell? ⟨1, 0, none⟩ = some (.iface 245 (.pointer (some (E 6)))) := (HE.out.on Y2.out.1.bl).k6
          clear hmem htk ro hnm HY HNo
          go_wp2_with (first | (go_at_call 75; refine (HC.out _).mono ?_; rintro e w3 ⟨rfl, hw⟩; subst w3))
          go_ret
          exact ⟨_, rfl, fun h => absurd (h.symm.trans HF.out) (by decide), fun _ => .inr ⟨_, rfl⟩, Y2.out.1.bl⟩
        · have HC := hid (HY.out hnm)
          have HA2 : Hid (∀ x ∈ R.take (k + 1), L.T.name x.nm.data.toList = true) := hid fun x hx => by
            rw [htk] at hx
            rcases List.mem_append.1 hx with hx | hx
            · exact HA.out x hx
            · rw [List.mem_singleton.1 hx]; exact hnm
          clear hmem htk ro hnm HY HNo HA
          go_wp2_with (first | (go_at_call 75; refine (HC.out _).mono ?_; rintro e w3 ⟨rfl, hw⟩; subst w3))
          go_roundw
          case rel => exact ⟨k + 1, HN.out, by go_num, Y2.out.1, HA2.out⟩
          case measure => have := HN.out; simp [intOf]; omega
      · obtain rfl : k = n := by omega
        have HT : Hid (okP R = true) := hid (okP_all (by omega) (by have := HA.out; rwa [List.take_of_length_le (by omega)] at this))
        clear HA
        go_wp2_with fail
        go_ret
        exact ⟨_, rfl, fun _ => rfl, fun h => absurd (h.symm.trans HT.out) (by decide), Y1.out.bl⟩
end Go.Proofs.YtbpdmkohihgnjaaGreatDoor
