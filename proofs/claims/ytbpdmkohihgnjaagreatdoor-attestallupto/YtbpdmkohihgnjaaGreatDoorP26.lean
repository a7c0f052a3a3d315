import Derived.Test.YtbpdmkohihgnjaaGreatDoorP18
namespace Go.Proofs.YtbpdmkohihgnjaaGreatDoor
open Go.RowKit
set_option maxHeartbeats 4000000
set_option maxRecDepth 100000
theorem numberOf_any (W : World) (E : Nat → Addr) (h : ErrS W E) (c : Nat) (hc : c ≤ 3) : Calls Tryz.prog 15 #[errV E c] W fun e w' => e = .returned (.int .i64 (errN c)) ∧ w' = W := by
  match c, hc with
  | 0, _ => exact number_0 W E h
  | 1, _ => exact number_1 W E h
  | 2, _ => exact number_2 W E h
  | 3, _ => exact number_3 W E h
theorem jcode_le (T t d o : List Int) (a : Bool) : jcode T t d o a ≤ 3 := by unfold jcode; split <;> (try split) <;> (try split) <;> decide
attribute [-simp] Tryz.isAgg26 Tryz.zeroValue26 Tryz.isAgg28 Tryz.zeroValue28 Tryz.isAgg24 Tryz.zeroValue24
theorem judge_any (W : World) (hT : Tabs W) (E : Nat → Addr) (hE : ErrS W E) (k : List Int) (ao : Option Addr) (n c : Nat) (ot : Bool) (m d t o : List Int) (R : List Rl) (hk : k.length = 8) (hm : m.length = 8) (hd : d.length = 8) (ht : t.length = 8) (ho : o.length = 8) (wk : Wds k) (wm : Wds m) (wd : Wds d) (wt : Wds t)
    (hn : R.length = n) (hr : RulesAt W ao R) (ok : ∀ r ∈ R, r.Ok) (hmax : (n : Int) ≤ 9223372036854775807) :
    Calls Tryz.prog 37 #[Ag k, .agg (polC ao n c ot).toArray, Ag (quoL m d t), Ag o] W fun e W' => e = .returned (.tuple #[.string (jname (jcode (tagOf k m d) t d o (dec R ot m).1) (dec R ot m).2), .int .i64 (errN (jcode (tagOf k m d) t d o (dec R ot m).1))]) ∧ Below W.heap.size W W' := by
  obtain ⟨X, hX⟩ : ∃ X, X = (((W.alloc (Obj.cells (List.map (Value.int IntKind.u32) k).toArray 26)).alloc (Obj.cells #[.slice ao n c, .bool ot] 24)).alloc (Obj.cells (List.map (Value.int IntKind.u32) (quoL m d t)).toArray 28)).alloc (Obj.cells (List.map (Value.int IntKind.u32) o).toArray 26) := ⟨_, rfl⟩
  have Y0 : Hid (JD W E (W.heap.size + 1) (W.heap.size + 1 + 1) (W.heap.size + 1 + 1 + 1) k ao n c ot m d t o R X) := hid (by
    have HB : Below W.heap.size W X := by rw [hX]; exact below_on (below_on (below_on (below_one W _) (below_one _ _)) (below_one _ _)) (below_one _ _)
    refine ⟨HB, hT.on HB, hE.on HB, ?_, ?_, ?_, ?_, hr.on HB⟩
    · rw [hX]; exact (((Blk.new W .u32 26 k).alloc _).alloc _).alloc _
    · rw [hX]; exact Cel.on (Cel.on (heap_alloc_new' (by simp) _) (below_one _ _)) (below_one _ _)
    · rw [hX]; exact (Blk.newAt (by simp) .u32 28 (quoL m d t)).alloc _
    · rw [hX]; exact Blk.newAt (by simp) .u32 26 o)
  have HJ : Hid (∀ w, Tabs w → ErrS w E → RulesAt w ao R → Calls Tryz.prog 66 #[.agg (k.map (Value.int .u32)).toArray, .agg #[.slice ao n c, .bool ot], .agg ((quoL m d t).map (Value.int .u32)).toArray, .agg (o.map (Value.int .u32)).toArray] w fun e W' => e = .returned (.tuple #[.string (jname (jcode (tagOf k m d) t d o (dec R ot m).1) (dec R ot m).2), errV E (jcode (tagOf k m d) t d o (dec R ot m).1)]) ∧ Below w.heap.size w W') := hid fun w h1 h2 h3 => judged_any w h1 E h2 k ao n c ot m d t o R hk hm hd ht ho wk wm wd wt hn h3 ok hmax
  have hc := jcode_le (tagOf k m d) t d o (dec R ot m).1
  have HN := hid (fun w (h : ErrS w E) => numberOf_any w E h (jcode (tagOf k m d) t d o (dec R ot m).1) hc)
  have hQl := quoL_length hm hd ht
  generalize jcode (tagOf k m d) t d o (dec R ot m).1 = J at *
  generalize jname J (dec R ot m).2 = nm at *
  generalize errV E J = ev at *
  generalize errN J = en at *
  clear hT hE wk wm wd wt ok hr hn hc hm hd ht
  unfold Ag polC
  go_enter Tryz.func37, Tryz.ntmps37
  go_upto_region 1 with fail
  rw [← hX]
  clear hX
  generalize W.heap.size + 1 + 1 + 1 = g7 at *
  generalize W.heap.size + 1 + 1 = g6 at *
  generalize W.heap.size + 1 = g5 at *
  generalize hQ : quoL m d t = Q at *
  go_wp2_with (first | (revert Y0; intro Y0; refine wpList_load_mid rfl 26 _ rfl W.heap.size 0 rfl _ _ (cel_range (blk_cel Y0.out.b4)) Tryz.underlying26 rfl (by rw [List.length_map, hk]; exact size26) ?_) | (revert Y0; intro Y0; refine wpList_load_mid rfl 24 _ rfl g5 0 rfl _ _ (cel_range Y0.out.p5) Tryz.underlying24 rfl size36 ?_) | (revert Y0; intro Y0; refine wpList_load_mid rfl 28 _ rfl g6 0 rfl (Q.map (Value.int .u32)) _ (by rw [← hQ]; exact cel_range (blk_cel Y0.out.q6)) Tryz.underlying28 rfl (by rw [List.length_map, hQl]; exact size38) ?_) | (revert Y0; intro Y0; refine wpList_load_mid rfl 26 _ rfl g7 0 rfl _ _ (cel_range (blk_cel Y0.out.b7)) Tryz.underlying26 rfl (by rw [List.length_map, ho]; exact size26) ?_) | (go_at_call 66; refine (HJ.out _ Y0.out.tb Y0.out.es Y0.out.ru).mono ?_; rintro e w1 ⟨rfl, hb⟩; have Y1 := hid (Y0.out.on hb); clear hb Y0) | (go_at_call 15; refine (HN.out _ Y1.out.es).mono ?_; rintro e w2 ⟨rfl, rfl⟩))
  go_ret2
  exact ⟨rfl, Y1.out.bl⟩
end Go.Proofs.YtbpdmkohihgnjaaGreatDoor
