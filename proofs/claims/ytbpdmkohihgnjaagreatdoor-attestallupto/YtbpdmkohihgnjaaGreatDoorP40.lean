import Derived.Test.YtbpdmkohihgnjaaGreatDoorP39
import Derived.Test.YtbpdmkohihgnjaaGreatDoorP01
import Derived.Test.YtbpdmkohihgnjaaGreatDoorP26
namespace Go.Proofs.YtbpdmkohihgnjaaGreatDoor
open Go.RowKit
set_option maxHeartbeats 4000000
set_option maxRecDepth 100000
structure D36 (W : World) (ad : Option Addr) (n cd : Nat) (ot : Bool) (m : List Int) (w : World) : Prop where
  bl : Below W.heap.size W w
  p2 : Cel w W.heap.size 36 [.slice ad n cd, .bool ot]
  b3 : Cel w (W.heap.size + 1) 26 (m.map (Value.int .u32))
theorem D36.on {W : World} {ad : Option Addr} {n cd : Nat} {ot : Bool} {m : List Int} {w w' : World} (h : D36 W ad n cd ot m w) (hb : Below w.heap.size w w') : D36 W ad n cd ot m w' := ⟨below_on h.bl hb, h.p2.on hb, h.b3.on hb⟩
attribute [-simp] Tryz.isAgg26 Tryz.zeroValue26 Tryz.isAgg36 Tryz.zeroValue36 Tryz.isAgg60 Tryz.zeroValue60 Tryz.isAgg95 Tryz.zeroValue95
theorem decD_any (W : World) (ad : Option Addr) (n cd : Nat) (ot : Bool) (m : List Int) (R : List Rl) (hm : m.length = 8) (hn : R.length = n) (hr : RulesAt W ad R) (ml : ∀ r ∈ R, r.ms.length = 8) (hmax : n ≤ 2000000) :
    Calls Tryz.prog 36 #[.agg #[.slice ad n cd, .bool ot], .agg (m.map (Value.int .u32)).toArray] W fun e W' => e = .returned (.tuple #[.bool (dec R ot m).1, .string (dec R ot m).2]) ∧ Below W.heap.size W W' := by
  obtain ⟨X, hX⟩ : ∃ X, X = (W.alloc (Obj.cells #[.slice ad n cd, .bool ot] 36)).alloc (Obj.cells (List.map (Value.int IntKind.u32) m).toArray 26) := ⟨_, rfl⟩
  have Y0 : Hid (D36 W ad n cd ot m X) := hid (by
    refine ⟨by rw [hX]; exact below_on (below_one W _) (below_one _ _), ?_, ?_⟩
    · rw [hX]; exact Cel.on (heap_alloc_new _ _) (below_one _ _)
    · rw [hX]; exact heap_alloc_new' (by simp) _)
  have HRu := hid hr
  have HM := hid ml
  have hsz : ((m.map (Value.int .u32)).length : Nat) = 8 := by rw [List.length_map]; exact hm
  obtain ⟨D, hD⟩ : ∃ D, D = dec R ot m := ⟨_, rfl⟩
  rw [← hD]
  have HD0 := hid hD
  clear hr ml hD
  go_enter Tryz.func36, Tryz.ntmps36
  go_upto_region 2 with fail
  rw [← hX]
  clear hX
  go_loopw [6] (fun i wr => ∃ (k : Nat), k ≤ n ∧ i = .int .i64 k ∧ D36 W ad n cd ot m wr ∧ D = dec (R.drop k) ot m) (fun i _ => n - (intOf i).toNat)
  case atStart => exact ⟨0, Nat.zero_le _, rfl, Y0.out, HD0.out⟩
  case round =>
    clear Y0 HD0
    obtain ⟨k, hk, rfl, hs, hd⟩ := hrel
    have Y1 := hid hs
    have HD := hid hd
    clear hs hd
    have d0 : wr.cell? ⟨W.heap.size, 0, none⟩ = some (.slice ad n cd) := Y1.out.p2.cell 0
    by_cases hlt : k < n
    · obtain ⟨b1, o1, rfl⟩ := rules_row HRu.out (k := k) (by omega)
      have hRk : R[k]? = some (R[k]'(by omega)) := List.getElem?_eq_getElem (by omega)
      have hdr : R.drop k = R[k]'(by omega) :: R.drop (k + 1) := List.drop_eq_getElem_cons (by omega)
      have hml := HM.out _ (List.getElem_mem (l := R) (n := k) (by omega))
      rw [hdr] at HD
      generalize R[k]'(by omega) = r at *
      have HC := hid (fun (w : World) (h : Below W.heap.size W w) => rules_one (HRu.out.on h) hRk)
      obtain ⟨al, nm, M⟩ := r
      have hML : M.length = 8 := hml
      have HN := hid (show k + 1 ≤ n by omega)
      have i3 : (k : Int) < (n : Int) := by omega
      have i4 : (k : Int) ≤ 2000000 := by omega
      have hE := eq26 M m hML hm
      clear hRk hml hk hlt hdr
      go_upto_region 4 with fail
      clear d0
      have Y3 := hid (Y1.out.on (Below.refl _ _).drew)
      clear Y1
      by_cases hrm : M = m
      · have HD2 : Hid (D = (al, nm)) := hid (by rw [HD.out]; unfold dec; rw [if_pos hrm])
        rw [decide_eq_true hrm] at hE
        clear HD hrm
        refine wp_region_held_drew (S := fun w => D36 W (some ⟨b1, o1, none⟩) n cd ot m w) (by kernel_rfl) Y3.out (fun hHeld => ?_)
        generalize World.drew _ = wz at *
        refine tk 0 ⟨some 14, .fieldAddr 36 (.tmp 2) 0, 0, "ref.go:188", #[], none⟩ (.pointer (some ⟨W.heap.size, 0, none⟩)) ?_
        simp only [Act.put, List.setIfInBounds_toArray, List.set_cons_zero, List.set_cons_succ]
        refine tk 1 ⟨some 15, .load 34 (.tmp 14), 34, "ref.go:188", #[⟨0, .data⟩], none⟩ (.slice (some ⟨b1, o1, none⟩) n cd) ?_ (hy := Or.inl ⟨by rfl, by intro w hSw; have y0 : w.cell? ⟨W.heap.size, 0, none⟩ = some (.slice (some ⟨b1, o1, none⟩) n cd) := hSw.p2.cell 0; go_simp⟩)
        simp only [Act.put, List.setIfInBounds_toArray, List.set_cons_zero, List.set_cons_succ]
        refine tk 2 ⟨some 16, .move (.tmp 6), 3, "ref.go:188", #[], none⟩ (.int .i64 (k : Int)) ?_
        simp only [Act.put, List.setIfInBounds_toArray, List.set_cons_zero, List.set_cons_succ]
        refine tk 3 ⟨some 17, .indexAddr 34 (.tmp 15) (.tmp 16), 0, "ref.go:188", #[⟨1, .data⟩, ⟨2, .data⟩], none⟩ (.pointer (some ⟨b1, o1 + k * 10, none⟩)) ?_
        simp only [Act.put, List.setIfInBounds_toArray, List.set_cons_zero, List.set_cons_succ]
        refine tk 4 ⟨some 18, .fieldAddr 60 (.tmp 17) 2, 0, "ref.go:188", #[⟨3, .data⟩], none⟩ (.pointer (some ⟨b1, o1 + k * 10 + 2, none⟩)) ?_
        simp only [Act.put, List.setIfInBounds_toArray, List.set_cons_zero, List.set_cons_succ]
        refine tk 5 ⟨some 19, .load 26 (.tmp 18), 26, "ref.go:188", #[⟨4, .data⟩], none⟩ (.agg (M.map (Value.int .u32)).toArray) ?_ (hy := yieldsIf_load_mid (by rfl) _ _ rfl _ _ rfl _ _ (fun w hSw => (HC.out w hSw.bl).2.2) Tryz.underlying26 rfl (by rw [List.length_map, hML]; exact size26))
        simp only [Act.put, List.setIfInBounds_toArray, List.set_cons_zero, List.set_cons_succ]
        refine tk 6 ⟨some 20, .load 26 (.tmp 3), 26, "ref.go:188", #[], none⟩ (.agg (m.map (Value.int .u32)).toArray) ?_ (hy := yieldsIf_load_mid (by rfl) _ _ rfl _ _ rfl _ _ (fun w hSw => cel_range hSw.b3) Tryz.underlying26 rfl (by rw [hsz]; exact size26))
        simp only [Act.put, List.setIfInBounds_toArray, List.set_cons_zero, List.set_cons_succ]
        refine tk 7 ⟨some 21, .binOp .eql 26 (.tmp 19) (.tmp 20) 26, 4, "ref.go:188", #[⟨5, .data⟩, ⟨6, .data⟩], none⟩ (.bool true) ?_
        simp only [Act.put, List.setIfInBounds_toArray, List.set_cons_zero, List.set_cons_succ]
        refine wpAnyH_done (by kernel_rfl) ?_ _
        go_upto_region 5 with fail
        have Y5 := hid (Y3.out.on (Below.refl _ _).drew)
        clear Y3
        refine wp_region_held_drew (S := fun w => D36 W (some ⟨b1, o1, none⟩) n cd ot m w) (by kernel_rfl) Y5.out (fun hHeld => ?_)
        generalize World.drew _ = wy at *
        refine tk 0 ⟨some 22, .fieldAddr 36 (.tmp 2) 0, 0, "ref.go:189", #[], none⟩ (.pointer (some ⟨W.heap.size, 0, none⟩)) ?_
        simp only [Act.put, List.setIfInBounds_toArray, List.set_cons_zero, List.set_cons_succ]
        refine tk 1 ⟨some 23, .load 34 (.tmp 22), 34, "ref.go:189", #[⟨0, .data⟩], none⟩ (.slice (some ⟨b1, o1, none⟩) n cd) ?_ (hy := Or.inl ⟨by rfl, by intro w hSw; have y0 : w.cell? ⟨W.heap.size, 0, none⟩ = some (.slice (some ⟨b1, o1, none⟩) n cd) := hSw.p2.cell 0; go_simp⟩)
        simp only [Act.put, List.setIfInBounds_toArray, List.set_cons_zero, List.set_cons_succ]
        refine tk 2 ⟨some 24, .move (.tmp 6), 3, "ref.go:189", #[], none⟩ (.int .i64 (k : Int)) ?_
        simp only [Act.put, List.setIfInBounds_toArray, List.set_cons_zero, List.set_cons_succ]
        refine tk 3 ⟨some 25, .indexAddr 34 (.tmp 23) (.tmp 24), 0, "ref.go:189", #[⟨1, .data⟩, ⟨2, .data⟩], none⟩ (.pointer (some ⟨b1, o1 + k * 10, none⟩)) ?_
        simp only [Act.put, List.setIfInBounds_toArray, List.set_cons_zero, List.set_cons_succ]
        refine tk 4 ⟨some 26, .fieldAddr 60 (.tmp 25) 0, 0, "ref.go:189", #[⟨3, .data⟩], none⟩ (.pointer (some ⟨b1, o1 + k * 10, none⟩)) ?_
        simp only [Act.put, List.setIfInBounds_toArray, List.set_cons_zero, List.set_cons_succ]
        refine tk 5 ⟨some 27, .load 4 (.tmp 26), 4, "ref.go:189", #[⟨4, .data⟩], none⟩ (.bool al) ?_ (hy := Or.inl ⟨by rfl, by intro w hSw; have y0 := (HC.out w hSw.bl).1; go_simp⟩)
        simp only [Act.put, List.setIfInBounds_toArray, List.set_cons_zero, List.set_cons_succ]
        refine tk 6 ⟨some 28, .fieldAddr 36 (.tmp 2) 0, 0, "ref.go:189", #[{ on := 12, ground := .gcOnly Departure.lateStores }], none⟩ (.pointer (some ⟨W.heap.size, 0, none⟩)) ?_
        simp only [Act.put, List.setIfInBounds_toArray, List.set_cons_zero, List.set_cons_succ]
        refine tk 7 ⟨some 29, .load 34 (.tmp 28), 34, "ref.go:189", #[⟨6, .data⟩, { on := 12, ground := .gcOnly Departure.lateStores }], none⟩ (.slice (some ⟨b1, o1, none⟩) n cd) ?_ (hy := Or.inl ⟨by rfl, by intro w hSw; have y0 : w.cell? ⟨W.heap.size, 0, none⟩ = some (.slice (some ⟨b1, o1, none⟩) n cd) := hSw.p2.cell 0; go_simp⟩)
        simp only [Act.put, List.setIfInBounds_toArray, List.set_cons_zero, List.set_cons_succ]
        refine tk 8 ⟨some 30, .move (.tmp 6), 3, "ref.go:189", #[{ on := 12, ground := .gcOnly Departure.lateStores }], none⟩ (.int .i64 (k : Int)) ?_
        simp only [Act.put, List.setIfInBounds_toArray, List.set_cons_zero, List.set_cons_succ]
        refine tk 9 ⟨some 31, .indexAddr 34 (.tmp 29) (.tmp 30), 0, "ref.go:189", #[⟨7, .data⟩, ⟨8, .data⟩, { on := 12, ground := .gcOnly Departure.lateStores }], none⟩ (.pointer (some ⟨b1, o1 + k * 10, none⟩)) ?_
        simp only [Act.put, List.setIfInBounds_toArray, List.set_cons_zero, List.set_cons_succ]
        refine tk 10 ⟨some 32, .fieldAddr 60 (.tmp 31) 1, 0, "ref.go:189", #[⟨9, .data⟩, { on := 12, ground := .gcOnly Departure.lateStores }], none⟩ (.pointer (some ⟨b1, o1 + k * 10 + 1, none⟩)) ?_
        simp only [Act.put, List.setIfInBounds_toArray, List.set_cons_zero, List.set_cons_succ]
        refine tk 11 ⟨some 33, .load 9 (.tmp 32), 9, "ref.go:189", #[⟨10, .data⟩, { on := 12, ground := .gcOnly Departure.lateStores }], none⟩ (.string nm) ?_ (hy := Or.inl ⟨by rfl, by intro w hSw; have y0 := (HC.out w hSw.bl).2.1; go_simp⟩)
        simp only [Act.put, List.setIfInBounds_toArray, List.set_cons_zero, List.set_cons_succ]
        refine wpAnyH_ready (rs := [12]) (by kernel_rfl) (by simp) (AllReadyH.cons (o := ⟨some 4, .assign (.tmp 27), 4, "ref.go:189", #[⟨5, .data⟩, ⟨0, .phase⟩, ⟨1, .phase⟩, ⟨2, .phase⟩, ⟨3, .phase⟩, ⟨4, .phase⟩, ⟨5, .phase⟩, { on := 6, ground := .textOnly Departure.lateStores }, { on := 7, ground := .textOnly Departure.lateStores }, { on := 8, ground := .textOnly Departure.lateStores }, { on := 9, ground := .textOnly Departure.lateStores }, { on := 10, ground := .textOnly Departure.lateStores }, { on := 11, ground := .textOnly Departure.lateStores }], none⟩) rfl (fun KQ hK => ?_) AllReadyH.nil)
        go_simp
        refine hK.out _ _ Y5.out (fun hHeld => ?_)
        clear hK KQ
        try simp only [Act.put, List.setIfInBounds_toArray, List.set_cons_zero, List.set_cons_succ]
        refine wpAnyH_ready (rs := [13]) (by kernel_rfl) (by simp) (AllReadyH.cons (o := ⟨some 5, .assign (.tmp 33), 9, "ref.go:189", #[⟨11, .data⟩, ⟨12, .chain⟩, ⟨0, .phase⟩, ⟨1, .phase⟩, ⟨2, .phase⟩, ⟨3, .phase⟩, ⟨4, .phase⟩, ⟨5, .phase⟩, ⟨6, .phase⟩, ⟨7, .phase⟩, ⟨8, .phase⟩, ⟨9, .phase⟩, ⟨10, .phase⟩, ⟨11, .phase⟩, ⟨12, .phase⟩], none⟩) rfl (fun KQ hK => ?_) AllReadyH.nil)
        go_simp
        refine hK.out _ _ Y5.out (fun hHeld => ?_)
        clear hK KQ
        try simp only [Act.put, List.setIfInBounds_toArray, List.set_cons_zero, List.set_cons_succ]
        refine wpAnyH_done (by kernel_rfl) ?_ _
        go_wp2_with fail
        go_returns
        rw [HD2.out]
        exact ⟨rfl, Y5.out.bl⟩
      · have HD2 : Hid (D = dec (R.drop (k + 1)) ot m) := hid (by rw [HD.out]; conv => lhs; unfold dec; rw [if_neg hrm])
        rw [decide_eq_false hrm] at hE
        clear HD hrm
        refine wp_region_held_drew (S := fun w => D36 W (some ⟨b1, o1, none⟩) n cd ot m w) (by kernel_rfl) Y3.out (fun hHeld => ?_)
        generalize World.drew _ = wz at *
        refine tk 0 ⟨some 14, .fieldAddr 36 (.tmp 2) 0, 0, "ref.go:188", #[], none⟩ (.pointer (some ⟨W.heap.size, 0, none⟩)) ?_
        simp only [Act.put, List.setIfInBounds_toArray, List.set_cons_zero, List.set_cons_succ]
        refine tk 1 ⟨some 15, .load 34 (.tmp 14), 34, "ref.go:188", #[⟨0, .data⟩], none⟩ (.slice (some ⟨b1, o1, none⟩) n cd) ?_ (hy := Or.inl ⟨by rfl, by intro w hSw; have y0 : w.cell? ⟨W.heap.size, 0, none⟩ = some (.slice (some ⟨b1, o1, none⟩) n cd) := hSw.p2.cell 0; go_simp⟩)
        simp only [Act.put, List.setIfInBounds_toArray, List.set_cons_zero, List.set_cons_succ]
        refine tk 2 ⟨some 16, .move (.tmp 6), 3, "ref.go:188", #[], none⟩ (.int .i64 (k : Int)) ?_
        simp only [Act.put, List.setIfInBounds_toArray, List.set_cons_zero, List.set_cons_succ]
        refine tk 3 ⟨some 17, .indexAddr 34 (.tmp 15) (.tmp 16), 0, "ref.go:188", #[⟨1, .data⟩, ⟨2, .data⟩], none⟩ (.pointer (some ⟨b1, o1 + k * 10, none⟩)) ?_
        simp only [Act.put, List.setIfInBounds_toArray, List.set_cons_zero, List.set_cons_succ]
        refine tk 4 ⟨some 18, .fieldAddr 60 (.tmp 17) 2, 0, "ref.go:188", #[⟨3, .data⟩], none⟩ (.pointer (some ⟨b1, o1 + k * 10 + 2, none⟩)) ?_
        simp only [Act.put, List.setIfInBounds_toArray, List.set_cons_zero, List.set_cons_succ]
        refine tk 5 ⟨some 19, .load 26 (.tmp 18), 26, "ref.go:188", #[⟨4, .data⟩], none⟩ (.agg (M.map (Value.int .u32)).toArray) ?_ (hy := yieldsIf_load_mid (by rfl) _ _ rfl _ _ rfl _ _ (fun w hSw => (HC.out w hSw.bl).2.2) Tryz.underlying26 rfl (by rw [List.length_map, hML]; exact size26))
        simp only [Act.put, List.setIfInBounds_toArray, List.set_cons_zero, List.set_cons_succ]
        refine tk 6 ⟨some 20, .load 26 (.tmp 3), 26, "ref.go:188", #[], none⟩ (.agg (m.map (Value.int .u32)).toArray) ?_ (hy := yieldsIf_load_mid (by rfl) _ _ rfl _ _ rfl _ _ (fun w hSw => cel_range hSw.b3) Tryz.underlying26 rfl (by rw [hsz]; exact size26))
        simp only [Act.put, List.setIfInBounds_toArray, List.set_cons_zero, List.set_cons_succ]
        refine tk 7 ⟨some 21, .binOp .eql 26 (.tmp 19) (.tmp 20) 26, 4, "ref.go:188", #[⟨5, .data⟩, ⟨6, .data⟩], none⟩ (.bool false) ?_
        simp only [Act.put, List.setIfInBounds_toArray, List.set_cons_zero, List.set_cons_succ]
        refine wpAnyH_done (by kernel_rfl) ?_ _
        have y0 : wz.cell? ⟨W.heap.size, 0, none⟩ = some (.slice (some ⟨b1, o1, none⟩) n cd) := Y3.out.p2.cell 0
        go_wp2_with fail
        go_roundw
        case rel => exact ⟨k + 1, HN.out, by go_num, Y3.out, HD2.out⟩
        case measure => have := HN.out; simp [intOf]; omega
    · obtain rfl : k = n := by omega
      have HDe : Hid (D = (ot, ⟨#[]⟩)) := hid (by rw [HD.out, List.drop_of_length_le (by omega)]; rfl)
      have d1 : wr.cell? ⟨W.heap.size, 1, none⟩ = some (.bool ot) := Y1.out.p2.cell 1
      clear HD hk hlt
      go_wp2_with fail
      go_returns
      rw [HDe.out]
      exact ⟨rfl, Y1.out.bl⟩
structure JQ (W : World) (g5 g6 g7 : Nat) (k : List Int) (ad : Option Addr) (n cd : Nat) (ot : Bool) (m d t o : List Int) (R : List Rl) (w : World) : Prop where
  bl : Below W.heap.size W w
  tr : TR w
  b4 : Blk w W.heap.size .u32 26 k
  p5 : Cel w g5 36 [.slice ad n cd, .bool ot]
  q6 : Blk w g6 .u32 95 (quoL m d t)
  b7 : Blk w g7 .u32 26 o
  ru : RulesAt w ad R
theorem JQ.on {W : World} {g5 g6 g7 : Nat} {k : List Int} {ad : Option Addr} {n cd : Nat} {ot : Bool} {m d t o : List Int} {R : List Rl} {w w' : World} (h : JQ W g5 g6 g7 k ad n cd ot m d t o R w) (hb : Below w.heap.size w w') : JQ W g5 g6 g7 k ad n cd ot m d t o R w' :=
  ⟨below_on h.bl hb, h.tr.on hb, h.b4.on hb, h.p5.on hb, h.q6.on hb, h.b7.on hb, h.ru.on hb⟩
theorem judgeD_any (W : World) (hT : TR W) (k : List Int) (ad : Option Addr) (n cd : Nat) (ot : Bool) (m d t o : List Int) (R : List Rl) (hk : k.length = 8) (hm : m.length = 8) (hd : d.length = 8) (ht : t.length = 8) (ho : o.length = 8) (wk : Wds k) (wm : Wds m) (wd : Wds d)
    (hn : R.length = n) (hr : RulesAt W ad R) (ml : ∀ r ∈ R, r.ms.length = 8) (hmax : n ≤ 2000000) :
    Calls Tryz.prog 38 #[Ag k, .agg #[.slice ad n cd, .bool ot], Ag (quoL m d t), Ag o] W fun e W' => e = .returned (.tuple #[.string (jname (jcode (tagOf k m d) t d o (dec R ot m).1) (dec R ot m).2), .int .i64 (errN (jcode (tagOf k m d) t d o (dec R ot m).1))]) ∧ Below W.heap.size W W' := by
  obtain ⟨X, hX⟩ : ∃ X, X = (((W.alloc (Obj.cells (List.map (Value.int IntKind.u32) k).toArray 26)).alloc (Obj.cells #[.slice ad n cd, .bool ot] 36)).alloc (Obj.cells (List.map (Value.int IntKind.u32) (quoL m d t)).toArray 95)).alloc (Obj.cells (List.map (Value.int IntKind.u32) o).toArray 26) := ⟨_, rfl⟩
  have Y0 : Hid (JQ W (W.heap.size + 1) (W.heap.size + 1 + 1) (W.heap.size + 1 + 1 + 1) k ad n cd ot m d t o R X) := hid (by
    have HB : Below W.heap.size W X := by rw [hX]; exact below_on (below_on (below_on (below_one W _) (below_one _ _)) (below_one _ _)) (below_one _ _)
    refine ⟨HB, hT.on HB, ?_, ?_, ?_, ?_, hr.on HB⟩
    · rw [hX]; exact (((Blk.new W .u32 26 k).alloc _).alloc _).alloc _
    · rw [hX]; exact Cel.on (Cel.on (heap_alloc_new' (by simp) _) (below_one _ _)) (below_one _ _)
    · rw [hX]; exact (Blk.newAt (by simp) .u32 95 (quoL m d t)).alloc _
    · rw [hX]; exact Blk.newAt (by simp) .u32 26 o)
  have HV : Hid (∀ w, TR w → Calls Tryz.prog 67 #[.agg (k.map (Value.int .u32)).toArray, .agg (m.map (Value.int .u32)).toArray, .agg (d.map (Value.int .u32)).toArray, .agg (t.map (Value.int .u32)).toArray] w fun e W' => e = .returned (.bool (decide (tagOf k m d = t))) ∧ Below w.heap.size w W') := hid fun w hw => rverify_any w hw k m d t hk hm hd ht wk wm wd
  have HD : Hid (∀ w, RulesAt w ad R → Calls Tryz.prog 36 #[.agg #[.slice ad n cd, .bool ot], .agg (m.map (Value.int .u32)).toArray] w fun e W' => e = .returned (.tuple #[.bool (dec R ot m).1, .string (dec R ot m).2]) ∧ Below w.heap.size w W') := hid fun w hw => decD_any w ad n cd ot m R hm hn hw ml hmax
  have hQl := quoL_length hm hd ht
  have HM := hid (And.intro hm hd)
  generalize dec R ot m = D at *
  obtain ⟨da, dn⟩ := D
  generalize tagOf k m d = T at *
  clear hT wk wm wd ml hr hn
  unfold Ag
  go_enter Tryz.func38, Tryz.ntmps38
  go_upto_region 1 with fail
  rw [← hX]
  clear hX
  generalize W.heap.size + 1 + 1 + 1 = g7 at *
  generalize W.heap.size + 1 + 1 = g6 at *
  generalize W.heap.size + 1 = g5 at *
  by_cases e1 : T = t
  rotate_left
  · rw [decide_eq_false e1] at HV
    have HJ := hid (show jcode T t d o da = 1 from if_neg e1)
    clear e1
    go_wp2_with (first | (refine wpList_load_mid rfl 26 _ rfl W.heap.size 0 rfl _ _ (cel_range (blk_cel Y0.out.b4)) Tryz.underlying26 rfl (by rw [List.length_map, hk]; exact size26) ?_) | (refine wpList_load_mid rfl 26 _ rfl g6 0 rfl _ _ (quo0 (cel_range (blk_cel Y0.out.q6))) Tryz.underlying26 rfl (by rw [List.length_map, hm]; exact size26) ?_) | (refine wpList_load_mid rfl 26 _ rfl g6 8 rfl _ _ (by have := quo8 (cel_range (blk_cel Y0.out.q6)) HM.out.1; rwa [Nat.zero_add] at this) Tryz.underlying26 rfl (by rw [List.length_map, hd]; exact size26) ?_) | (refine wpList_load_mid rfl 26 _ rfl g6 16 rfl _ _ (by have := quo16 (cel_range (blk_cel Y0.out.q6)) HM.out.1 HM.out.2; rwa [Nat.zero_add] at this) Tryz.underlying26 rfl (by rw [List.length_map, ht]; exact size26) ?_) | (go_at_call 67; refine (HV.out _ Y0.out.tr).mono ?_; rintro e w1 ⟨rfl, hb⟩; have Y1 := hid (Y0.out.on hb); clear hb Y0))
    go_returns
    rw [HJ.out]
    exact ⟨rfl, Y1.out.bl⟩
  · rw [decide_eq_true e1] at HV
    have HJ1 := hid e1
    clear e1
    go_upto_region 3 with (first | (refine wpList_load_mid rfl 26 _ rfl W.heap.size 0 rfl _ _ (cel_range (blk_cel Y0.out.b4)) Tryz.underlying26 rfl (by rw [List.length_map, hk]; exact size26) ?_) | (refine wpList_load_mid rfl 26 _ rfl g6 0 rfl _ _ (quo0 (cel_range (blk_cel Y0.out.q6))) Tryz.underlying26 rfl (by rw [List.length_map, hm]; exact size26) ?_) | (refine wpList_load_mid rfl 26 _ rfl g6 8 rfl _ _ (by have := quo8 (cel_range (blk_cel Y0.out.q6)) HM.out.1; rwa [Nat.zero_add] at this) Tryz.underlying26 rfl (by rw [List.length_map, hd]; exact size26) ?_) | (refine wpList_load_mid rfl 26 _ rfl g6 16 rfl _ _ (by have := quo16 (cel_range (blk_cel Y0.out.q6)) HM.out.1 HM.out.2; rwa [Nat.zero_add] at this) Tryz.underlying26 rfl (by rw [List.length_map, ht]; exact size26) ?_) | (go_at_call 67; refine (HV.out _ Y0.out.tr).mono ?_; rintro e w1 ⟨rfl, hb⟩; have Y1 := hid (Y0.out.on hb); clear hb Y0))
    have hEN := eq26 d o hd ho
    by_cases e2 : d = o
    rotate_left
    · rw [decide_eq_false e2] at hEN
      have HJ := hid (show jcode T t d o da = 2 by rw [jcode, if_pos HJ1.out, if_neg e2])
      clear e2 HJ1
      go_wp2_with (first | (refine wpList_load_mid rfl 26 _ rfl g6 8 rfl _ _ (by have := quo8 (cel_range (blk_cel Y1.out.q6)) HM.out.1; rwa [Nat.zero_add] at this) Tryz.underlying26 rfl (by rw [List.length_map, hd]; exact size26) ?_) | (refine wpList_load_mid rfl 26 _ rfl g7 0 rfl _ _ (cel_range (blk_cel Y1.out.b7)) Tryz.underlying26 rfl (by rw [List.length_map, ho]; exact size26) ?_))
      go_returns
      rw [HJ.out]
      exact ⟨rfl, Y1.out.bl⟩
    · rw [decide_eq_true e2] at hEN
      have HJ2 : Hid (∀ x, jcode T t d o x = if x = true then 0 else 3) := hid (fun x => by rw [jcode, if_pos HJ1.out, if_pos e2])
      clear e2 HJ1
      go_upto_region 5 with (first | (refine wpList_load_mid rfl 26 _ rfl g6 8 rfl _ _ (by have := quo8 (cel_range (blk_cel Y1.out.q6)) HM.out.1; rwa [Nat.zero_add] at this) Tryz.underlying26 rfl (by rw [List.length_map, hd]; exact size26) ?_) | (refine wpList_load_mid rfl 26 _ rfl g7 0 rfl _ _ (cel_range (blk_cel Y1.out.b7)) Tryz.underlying26 rfl (by rw [List.length_map, ho]; exact size26) ?_))
      go_upto_region 6 with (first | (refine wpList_load_mid rfl 36 _ rfl g5 0 rfl _ _ (cel_range Y1.out.p5) Tryz.underlying36 rfl size36d ?_) | (refine wpList_load_mid rfl 26 _ rfl g6 0 rfl _ _ (quo0 (cel_range (blk_cel Y1.out.q6))) Tryz.underlying26 rfl (by rw [List.length_map, hm]; exact size26) ?_) | (go_at_call 36; refine (HD.out _ Y1.out.ru).mono ?_; rintro e w2 ⟨rfl, hb⟩; have Y2 := hid (Y1.out.on hb); clear hb Y1))
      cases da
      · have HJ := hid (show jcode T t d o false = 3 from HJ2.out false)
        clear HJ2
        go_wp2_with fail
        go_returns
        rw [HJ.out]
        exact ⟨rfl, Y2.out.bl⟩
      · have HJ := hid (show jcode T t d o true = 0 from HJ2.out true)
        clear HJ2
        go_wp2_with fail
        go_returns
        rw [HJ.out]
        exact ⟨rfl, Y2.out.bl⟩
end Go.Proofs.YtbpdmkohihgnjaaGreatDoor
