import Derived.Shelf.Strconv.Clone
import Derived.Test.YtbpdmkohihgnjaaGreatDoorP14
import Derived.Test.YtbpdmkohihgnjaaGreatDoorP01
namespace Go.Proofs.YtbpdmkohihgnjaaGreatDoor
def Tryz.laysM316_ren : Go.Shelf.Ren := ⟨fun | 316 => 69 | n => n, fun | 9 => 9 | 3 => 3 | 4 => 4 | 37 => 124 | 0 => 0 | 127 => 170 | 5 => 5 | n => n, fun | n => n⟩
theorem Tryz.laysM316 : Go.Proofs.LaysM.n316 Tryz.prog Tryz.laysM316_ren := {
  mixed := by kernel_rfl
  f316 := Tryz.func69.trans (congrArg some (by kernel_rfl))
  t0 := Tryz.underlying0
  a0 := Tryz.isAgg0
  z0 := Tryz.sizeOf0
  v0 := Tryz.zeroValue0
  t3 := Tryz.underlying3
  a3 := Tryz.isAgg3
  z3 := Tryz.sizeOf3
  v3 := Tryz.zeroValue3
  t4 := Tryz.underlying4
  a4 := Tryz.isAgg4
  z4 := Tryz.sizeOf4
  v4 := Tryz.zeroValue4
  t9 := Tryz.underlying9
  a9 := Tryz.isAgg9
  z9 := Tryz.sizeOf9
  v9 := Tryz.zeroValue9
  t37 := Tryz.underlying124
  a37 := Tryz.isAgg124
  z37 := Tryz.sizeOf124
  v37 := Tryz.zeroValue124
  t127 := Tryz.underlying170
  a127 := Tryz.isAgg170
  z127 := Tryz.sizeOf170
  v127 := Tryz.zeroValue170
  t5 := Tryz.underlying5
  a5 := Tryz.isAgg5
  z5 := Tryz.sizeOf5
  v5 := Tryz.zeroValue5
  i0 := by kernel_rfl
  i3 := by kernel_rfl
  i4 := by kernel_rfl
  i5 := by kernel_rfl
  i9 := by kernel_rfl
  i37 := by kernel_rfl
  i127 := by kernel_rfl }
open Go.RowKit in
theorem clone70 (s : ByteArray) (w : World) (hlim : s.size ≤ 281474976710656) :
    Calls Tryz.prog 69 #[.string s] w fun e w' => e = .returned (.string s) ∧ Below w.heap.size w w' := Any.stringslite_Clone Tryz.laysM316 s w hlim
open Go.RowKit
theorem clone_any (s : ByteArray) (w : World) (hlim : s.size ≤ 281474976710656) :
    Calls Tryz.prog 42 #[.string s] w fun e w' => e = .returned (.string s) ∧ Below w.heap.size w w' := by
  have HC := hid (clone70 s w hlim)
  go_enter Tryz.func42, Tryz.ntmps42
  go_wp2_with (first | (go_at_call 69; refine HC.out.mono ?_; rintro e w1 ⟨rfl, hb⟩; have HB := hid hb; clear hb))
  go_ret
  exact ⟨rfl, HB.out⟩
end Go.Proofs.YtbpdmkohihgnjaaGreatDoor
namespace Go.Proofs.YtbpdmkohihgnjaaGreatDoor
open Go.RowKit
set_option maxHeartbeats 4000000
set_option maxRecDepth 100000
structure Rl where
  al : Bool
  nm : ByteArray
  ms : List Int
def Rl.cs (r : Rl) : List Value := .bool r.al :: .string r.nm :: r.ms.map (Value.int .u32)
structure Rl.Ok (r : Rl) : Prop where
  ml : r.ms.length = 8
  mw : Wds r.ms
  nl : r.nm.size ≤ 140737488355328
theorem Rl.len (r : Rl) (h : r.ms.length = 8) : r.cs.length = 10 := by simp [Rl.cs, h]
def RulesAt (W : World) (ao : Option Addr) (R : List Rl) : Prop := R = [] ∨ ∃ b off, ao = some ⟨b, off, none⟩ ∧ b < W.heap.size ∧ ∀ t r, R[t]? = some r → W.rangeAt b (off + t * 10) r.cs
theorem range_below {W w : World} {b o : Nat} {cs : List Value} (h : W.rangeAt b o cs) (hb : Below W.heap.size W w) (hl : b < W.heap.size) : w.rangeAt b o cs := fun j v hv => (hb.cell (p := ⟨b, o + j, none⟩) hl).trans (h j v hv)
theorem RulesAt.on {W w : World} {ao : Option Addr} {R : List Rl} (h : RulesAt W ao R) (hb : Below W.heap.size W w) : RulesAt w ao R := by
  rcases h with h | ⟨b, off, h1, h2, h3⟩
  · exact .inl h
  · exact .inr ⟨b, off, h1, by have := hb.size; omega, fun t r hr => range_below (h3 t r hr) hb h2⟩
def dec : List Rl → Bool → List Int → Bool × ByteArray
  | [], o, _ => (o, ⟨#[]⟩)
  | r :: R, o, m => if r.ms = m then (r.al, r.nm) else dec R o m
def polC (ao : Option Addr) (n c : Nat) (ot : Bool) : List Value := [.slice ao n c, .bool ot]
theorem size42 : (Tryz.prog.info? 63).map (·.size) = some 10 := by kernel_rfl
theorem size36 : (Tryz.prog.info? 24).map (·.size) = some 2 := by kernel_rfl
def zrule : Obj := .cells #[.bool false, .string ⟨#[]⟩, .int .u32 0, .int .u32 0, .int .u32 0, .int .u32 0, .int .u32 0, .int .u32 0, .int .u32 0, .int .u32 0] 63
theorem wpList_store_st {P : Program} {ops : Array Oper} {rest : List Oper} {o : Oper} {a : Act} {w : World} {Q : Exit → Act → World → Prop} (hgd : o.guard = none) (ty : TypeId) (x y : Operand) (ho : o.op = .store ty x y)
    (g : Nat) (vs : List Value) (hx : a.eval x = .pointer (some ⟨g, 0, none⟩)) (hy : a.eval y = .agg vs.toArray) {e : TypeId} {cs : List Value} (hg : Cel w g e cs) (hi : (P.info? ty).map (·.size) = some vs.length) (hl : cs.length = vs.length) (h1 : vs.all (·.oneCell') = true)
    (h : ∀ w', Cel w' g e vs → But g w w' → w'.heap.size = w.heap.size → wpList P ops Q rest (a.put o.dst undef) w') : wpList P ops Q (o :: rest) a w :=
  wpList_store_row hgd ty x y ho g _ hx hy e _ hg (by rw [hi]; simp) (by simp [hl]) (by simpa using h1) (h _ (Cel.setr hg _) (but_setRow _ _ _) (by simp))
theorem Rl.one (r : Rl) : r.cs.all (·.oneCell') = true := by
  simp only [Rl.cs, List.all_cons, Bool.and_eq_true]
  exact ⟨rfl, rfl, List.all_eq_true.2 (ints_oneCell .u32 _)⟩
theorem Rl.atms {w : World} {b o : Nat} {r : Rl} (h : w.rangeAt b o r.cs) : w.rangeAt b (o + 2) (r.ms.map (Value.int .u32)) := fun j v hv => by
  have := h (j + 2) v (by simpa [Rl.cs] using hv)
  rwa [show o + (j + 2) = o + 2 + j by omega] at this
theorem but_box {w w' : World} {ob : Obj} (hb : But w.heap.size (w.alloc ob) w') : Below w.heap.size w w' := (below_one w ob).trans (hb.below (Nat.le_refl _) (by simp))
structure DE (W : World) (ao : Option Addr) (n c : Nat) (ot : Bool) (m : List Int) (R : List Rl) (w : World) : Prop where
  bl : Below W.heap.size W w
  p2 : Cel w W.heap.size 24 (polC ao n c ot)
  b3 : Blk w (W.heap.size + 1) .u32 26 m
  ru : RulesAt w ao R
theorem DE.on {W : World} {ao : Option Addr} {n c : Nat} {ot : Bool} {m : List Int} {R : List Rl} {w w' : World} (h : DE W ao n c ot m R w) (hb : Below w.heap.size w w') : DE W ao n c ot m R w' := ⟨below_on h.bl hb, h.p2.on hb, h.b3.on hb, h.ru.on hb⟩
attribute [-simp] Tryz.isAgg26 Tryz.zeroValue26 Tryz.isAgg63 Tryz.zeroValue63 Tryz.isAgg24 Tryz.zeroValue24
theorem decide_any (W : World) (ao : Option Addr) (n c : Nat) (ot : Bool) (m : List Int) (R : List Rl) (hm : m.length = 8) (hn : R.length = n) (hr : RulesAt W ao R) (ok : ∀ r ∈ R, r.Ok) (hmax : (n : Int) ≤ 9223372036854775807) :
    Calls Tryz.prog 35 #[.agg (polC ao n c ot).toArray, Ag m] W fun e W' => e = .returned (.tuple #[.bool (dec R ot m).1, .string (dec R ot m).2]) ∧ Below W.heap.size W W' := by
  have hz : ∀ w, (zeroValue 63).run Tryz.prog w = .ok (.agg #[.bool false, .string ⟨#[]⟩, .int .u32 0, .int .u32 0, .int .u32 0, .int .u32 0, .int .u32 0, .int .u32 0, .int .u32 0, .int .u32 0]) w := fun w => by rw [Tryz.zeroValue63]
  obtain ⟨X, hX⟩ : ∃ X, X = (W.alloc (Obj.cells #[.slice ao n c, .bool ot] 24)).alloc (Obj.cells (List.map (Value.int IntKind.u32) m).toArray 26) := ⟨_, rfl⟩
  have Y0 : Hid (DE W ao n c ot m R X) := hid (by
    have HB : Below W.heap.size W X := by rw [hX]; exact below_on (below_one W _) (below_one _ _)
    refine ⟨HB, ?_, ?_, hr.on HB⟩
    · rw [hX]; exact Cel.on (heap_alloc_new _ _) (below_one _ _)
    · rw [hX]; exact Blk.newAt (by simp) .u32 26 m)
  have HC := hid (fun s w h => clone_any s w h)
  have c0 : X.cell? ⟨W.heap.size, 0, none⟩ = some (.slice ao n c) := Y0.out.p2.cell 0
  clear hr
  unfold Ag polC
  go_enter Tryz.func35, Tryz.ntmps35
  go_upto_region 1 with fail
  rw [← hX]
  clear hX
  go_wp2_with fail
  clear c0
  go_loopw [11] (fun i wr => ∃ k : Nat, k ≤ n ∧ i = .int .i64 k ∧ DE W ao n c ot m R wr ∧ dec R ot m = dec (R.drop k) ot m) (fun i _ => n - (intOf i).toNat)
  case atStart => exact ⟨0, Nat.zero_le _, rfl, Y0.out, rfl⟩
  case round =>
    clear Y0
    obtain ⟨k, hk, rfl, hde, hdec⟩ := hrel
    have Y1 := hid hde
    have HD := hid hdec
    clear hde hdec
    by_cases hlt : k < n
    · obtain ⟨b, off, rfl, hb, hra⟩ : ∃ b off, ao = some ⟨b, off, none⟩ ∧ b < wr.heap.size ∧ ∀ t r, R[t]? = some r → wr.rangeAt b (off + t * 10) r.cs := by
        rcases Y1.out.ru with h | h
        · rw [h] at hn; simp at hn; omega
        · exact h
      have hRk : R[k]? = some (R[k]'(by omega)) := List.getElem?_eq_getElem (by omega)
      obtain ⟨r, hrk⟩ : ∃ r, R[k]'(by omega) = r := ⟨_, rfl⟩
      rw [hrk] at hRk
      have HR := hid (hra k r hRk)
      have ro := ok r (by rw [← hrk]; exact List.getElem_mem _)
      have hdr : R.drop k = r :: R.drop (k + 1) := by rw [List.drop_eq_getElem_cons (by omega), hrk]
      have hlr := r.len ro.ml
      have HO := hid ro
      have HN := hid (show k + 1 ≤ n by omega)
      have i3 : (k : Int) < (n : Int) := by omega
      rw [hdr] at HD
      have hEM := eq26 r.ms m ro.ml hm
      have nl := ro.nl
      have HNL := hid (show r.nm.size ≤ 281474976710656 by omega)
      clear hra hRk hrk ok hdr ro hk hn hlt hb nl
      go_upto_region 4 with (first | (refine wpList_load_mid rfl 63 _ rfl b (off + k * 10) rfl r.cs _ HR.out Tryz.underlying63 rfl (by rw [hlr]; exact size42) ?_) | (refine wpList_store_st rfl 63 _ _ rfl wr.heap.size r.cs rfl rfl (heap_alloc_new wr zrule) (by rw [hlr]; exact size42) (by rw [hlr]; rfl) r.one ?_; intro w2 hc2 hb2 hs2; have Y2 : Hid (DE W (some ⟨b, off, none⟩) n c ot m R w2 ∧ Cel w2 wr.heap.size 63 r.cs) := hid ⟨Y1.out.on (but_box hb2), hc2⟩; clear hc2 hb2 hs2))
      generalize wr.heap.size = g7 at *
      simp only [Act.put]
      by_cases e : r.ms = m
      · subst e
        rw [decide_eq_true rfl] at hEM
        go_upto_region 5 with (first | (refine wpList_load_mid rfl 26 _ rfl g7 2 rfl (r.ms.map (Value.int .u32)) _ (by have := Rl.atms (cel_range Y2.out.2); rwa [Nat.zero_add] at this) Tryz.underlying26 rfl (by rw [List.length_map, HO.out.ml]; exact size26) ?_) | (refine wpList_load_mid rfl 26 _ rfl (W.heap.size + 1) 0 rfl _ _ (cel_range (blk_cel Y2.out.1.b3)) Tryz.underlying26 rfl (by rw [List.length_map, hm]; exact size26) ?_))
        have Y3 : Hid (Cel w2.drew g7 63 r.cs ∧ Below W.heap.size W w2.drew) := hid ⟨Y2.out.2.on (Below.refl _ _).drew, Y2.out.1.bl.drew⟩
        clear Y2 hEM
        refine wp_region_held_drew (S := fun w => Cel w g7 63 r.cs ∧ Below W.heap.size W w) (by kernel_rfl) Y3.out (fun hHeld => ?_)
        generalize World.drew _ = w3 at *
        refine tk 0 ⟨some 19, .fieldAddr 63 (.tmp 7) 0, 0, "policy.go:49", #[], none⟩ (.pointer (some ⟨g7, 0, none⟩)) ?_
        simp only [Act.put, List.setIfInBounds_toArray, List.set_cons_zero, List.set_cons_succ]
        refine tk 1 ⟨some 20, .load 4 (.tmp 19), 4, "policy.go:49", #[⟨0, .data⟩], none⟩ (.bool r.al) ?_ (hy := Or.inl ⟨by rfl, by intro w hSw; have hc := hSw.1.cell 0; simp only [Rl.cs, List.getElem?_cons_zero] at hc; go_simp⟩)
        simp only [Act.put, List.setIfInBounds_toArray, List.set_cons_zero, List.set_cons_succ]
        refine tk 2 ⟨some 21, .fieldAddr 63 (.tmp 7) 1, 0, "policy.go:49", #[], none⟩ (.pointer (some ⟨g7, 1, none⟩)) ?_
        simp only [Act.put, List.setIfInBounds_toArray, List.set_cons_zero, List.set_cons_succ]
        refine tk 3 ⟨some 22, .load 9 (.tmp 21), 9, "policy.go:49", #[⟨2, .data⟩], none⟩ (.string r.nm) ?_ (hy := Or.inl ⟨by rfl, by intro w hSw; have hc := hSw.1.cell 1; simp only [Rl.cs, List.getElem?_cons_zero, List.getElem?_cons_succ] at hc; go_simp⟩)
        simp only [Act.put, List.setIfInBounds_toArray, List.set_cons_zero, List.set_cons_succ]
        refine wpAnyH_ready (rs := [4]) (by kernel_rfl) (by simp) (AllReadyH.cons (o := ⟨some 23, .call { callee := .value (.func 42), args := #[.tmp 22], argTypes := #[9] }, 9, "policy.go:49", #[⟨3, .data⟩], none⟩) rfl (fun KQ hK => ?_) AllReadyH.nil)
        go_simp
        refine (HC.out _ _ HNL.out).mono ?_
        rintro e w4 ⟨rfl, h4⟩
        have Y4 : Hid (Cel w4 g7 63 r.cs ∧ Below W.heap.size W w4) := hid ⟨Y3.out.1.on h4, below_on Y3.out.2 h4⟩
        clear h4 Y3
        go_wp2_with fail
        refine hK.out _ _ Y4.out (fun hHeld => ?_)
        clear hK KQ
        try simp only [Act.put, List.setIfInBounds_toArray, List.set_cons_zero, List.set_cons_succ]
        refine wpAnyH_ready (rs := [5]) (by kernel_rfl) (by simp) (AllReadyH.cons (o := ⟨some 4, .assign (.tmp 20), 4, "policy.go:49", #[⟨1, .data⟩, ⟨4, .chain⟩, ⟨0, .phase⟩, ⟨1, .phase⟩, { on := 2, ground := .textOnly Departure.lateStores }, { on := 3, ground := .textOnly Departure.lateStores }, { on := 4, ground := .textOnly Departure.lateStoresUnsure }], none⟩) rfl (fun KQ hK => ?_) AllReadyH.nil)
        go_simp
        refine hK.out _ _ Y4.out (fun hHeld => ?_)
        clear hK KQ
        try simp only [Act.put, List.setIfInBounds_toArray, List.set_cons_zero, List.set_cons_succ]
        refine wpAnyH_ready (rs := [6]) (by kernel_rfl) (by simp) (AllReadyH.cons (o := ⟨some 5, .assign (.tmp 23), 9, "policy.go:49", #[⟨4, .data⟩, ⟨5, .chain⟩, ⟨0, .phase⟩, ⟨1, .phase⟩, ⟨2, .phase⟩, ⟨3, .phase⟩, ⟨4, .phase⟩, ⟨5, .phase⟩], none⟩) rfl (fun KQ hK => ?_) AllReadyH.nil)
        go_simp
        refine hK.out _ _ Y4.out (fun hHeld => ?_)
        clear hK KQ
        try simp only [Act.put, List.setIfInBounds_toArray, List.set_cons_zero, List.set_cons_succ]
        refine wpAnyH_done (by kernel_rfl) ?_ _
        have hd1 := hid (show dec R ot r.ms = (r.al, r.nm) by rw [HD.out, dec, if_pos rfl])
        clear HD
        go_wp2_with fail
        go_ret2
        exact ⟨by rw [hd1.out]; rfl, Y4.out.2⟩
      · rw [decide_eq_false e] at hEM
        have HD2 : Hid (dec R ot m = dec (R.drop (k + 1)) ot m) := hid (by rw [HD.out, dec, if_neg e])
        clear HD
        go_wp2_with (first | (refine wpList_load_mid rfl 26 _ rfl g7 2 rfl (r.ms.map (Value.int .u32)) _ (by have := Rl.atms (cel_range Y2.out.2); rwa [Nat.zero_add] at this) Tryz.underlying26 rfl (by rw [List.length_map, HO.out.ml]; exact size26) ?_) | (refine wpList_load_mid rfl 26 _ rfl (W.heap.size + 1) 0 rfl _ _ (cel_range (blk_cel Y2.out.1.b3)) Tryz.underlying26 rfl (by rw [List.length_map, hm]; exact size26) ?_))
        go_roundw
        case rel => exact ⟨k + 1, HN.out, by go_num, Y2.out.1, HD2.out⟩
        case measure => have := HN.out; simp [intOf]; omega
    · obtain rfl : k = n := by omega
      have hd0 := hid (show dec R ot m = (ot, ⟨#[]⟩) by rw [HD.out, List.drop_of_length_le (by omega)]; rfl)
      have c1 : wr.cell? ⟨W.heap.size, 1, none⟩ = some (.bool ot) := Y1.out.p2.cell 1
      clear HD
      go_wp2_with fail
      go_ret2
      exact ⟨by rw [hd0.out]; rfl, Y1.out.bl⟩
end Go.Proofs.YtbpdmkohihgnjaaGreatDoor
