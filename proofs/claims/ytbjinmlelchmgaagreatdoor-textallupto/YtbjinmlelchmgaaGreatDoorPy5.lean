/- The law's plays (11): kinds 5 (Quote), 7 (Columns). -/
import Derived.Test.YtbjinmlelchmgaaGreatDoorLw2
import Derived.Test.YtbjinmlelchmgaaGreatDoorCol3
import Derived.Test.YtbjinmlelchmgaaGreatDoorQuo
namespace Go.Proofs.YtbjinmlelchmgaaGreatDoor
open Go.RowKit
theorem AtB.on {W w : World} {ao : Option Addr} {l : List UInt8} (h : AtB W ao l) (hb : Below W.heap.size W w) : AtB w ao l := by
  rcases h with h0 | ⟨b, o, e, hlt, hc⟩
  · exact .inl h0
  · exact .inr ⟨b, o, e, Nat.lt_of_lt_of_le hlt hb.size, fun i hi => by rw [hb.cell (p := ⟨b, o + i, none⟩) hlt]; exact hc i hi⟩
/-- The piece that was laid into a block stays there. -/
theorem box_cell {W w1 : World} {C : Array Value} (hb : Below (W.alloc (.cells C 34)).heap.size (W.alloc (.cells C 34)) w1) (k : Nat) (v : Value) (hk : C[k]? = some v) : w1.cell? ⟨W.heap.size, k, none⟩ = some v := by
  rw [hb.cell (p := ⟨W.heap.size, k, none⟩) (by simp), World.cell?_alloc_new]
  exact hk
theorem box_below (W : World) (C : Array Value) : Below W.heap.size W (W.alloc (.cells C 34)) := (Below.refl _ _).alloc (Nat.le_refl _) _
theorem box_up {W w1 : World} {C : Array Value} (hb : Below (W.alloc (.cells C 34)).heap.size (W.alloc (.cells C 34)) w1) : Below W.heap.size W w1 := (box_below W C).trans (hb.mono (box_below W C).size)
set_option maxRecDepth 40000 in
set_option maxHeartbeats 2000000 in
theorem plays5 (W : World) (s : ByteArray) (p u i : Int) (ab ar : Option Addr) (nb cb nr cr : Nat) (l : List UInt8) (hl : l.length = nb) (hn : nb ≤ 100000000) (hat : AtB W ab l) :
    Calls Tryz.prog 11 #[.agg #[.int .i64 5, .string s, .int .i64 p, .slice ab nb cb, .int .u32 u, .int .i32 i, .slice ar nr cr]] W fun e w' => e = .returned (.bool true) ∧ Below W.heap.size W w' := by
  have H1 : Hid (∀ w, Below W.heap.size W w → Calls Tryz.prog 23 #[.slice ab nb cb] w fun e w' => e = .returned (.string (⟨(T.quote l).toArray⟩ : ByteArray)) ∧ Below w.heap.size w w') := hid (fun w hw => rquote_any w ab nb cb l hl hn (hat.on hw))
  have H2 : Hid (∀ w, Below W.heap.size W w → Calls Tryz.prog 15 #[.slice ab nb cb] w fun e w' => e = .returned (.string (⟨(T.quote l).toArray⟩ : ByteArray)) ∧ Below w.heap.size w w') := hid (fun w hw => quote_any w ab nb cb l hl hn (hat.on hw))
  generalize (⟨(T.quote l).toArray⟩ : ByteArray) = q at *
  go_enter Tryz.func11, Tryz.ntmps11
  go_wp2_with fail
  refine (H1.out _ (box_below W _)).mono ?_
  rintro e w1 ⟨rfl, hb1⟩
  have hc := box_cell hb1 3 (.slice ab nb cb) rfl
  go_wp2_with fail
  refine (H2.out _ (box_up hb1)).mono ?_
  rintro e w2 ⟨rfl, hb2⟩
  have HB1 : Hid (Below W.heap.size W w2) := hid ((box_up hb1).trans (hb2.mono (box_up hb1).size))
  clear hb1 hb2 hc
  go_wp2_with fail
  go_ret
  exact ⟨rfl, HB1.out⟩
set_option maxRecDepth 40000 in
set_option maxHeartbeats 2000000 in
theorem plays7 (W : World) (s : ByteArray) (p u i : Int) (ab ar : Option Addr) (nb cb nr cr : Nat) (rows : List (List (List UInt8))) (hl : rows.length = nr) (hn : nr ≤ 1000000000) (hr : ∀ r ∈ rows, r.length ≤ 1000000000 ∧ ∀ x ∈ r, x.length ≤ 1000000000) (hat : RowsAt W ar rows) (hF : ∀ r ∈ rows, (T.fills (T.widths rows) r r.length).length ≤ 1000000000000) (hT : (T.columns rows).length ≤ 1000000000000) :
    Calls Tryz.prog 11 #[.agg #[.int .i64 7, .string s, .int .i64 p, .slice ab nb cb, .int .u32 u, .int .i32 i, .slice ar nr cr]] W fun e w' => e = .returned (.bool true) ∧ Below W.heap.size W w' := by
  have H1 : Hid (∀ w, Below W.heap.size W w → Calls Tryz.prog 24 #[.slice ar nr cr] w fun e w' => e = .returned (.string (⟨(T.columns rows).toArray⟩ : ByteArray)) ∧ Below w.heap.size w w') := hid (fun w hw => rcolumns_any w ar nr cr rows hl hn hr (hat.on hw) hF hT)
  have H2 : Hid (∀ w, Below W.heap.size W w → Calls Tryz.prog 22 #[.slice ar nr cr] w fun e w' => e = .returned (.string (⟨(T.columns rows).toArray⟩ : ByteArray)) ∧ Below w.heap.size w w') := hid (fun w hw => columns_any w ar nr cr rows hl hn hr (hat.on hw) (by omega))
  generalize (⟨(T.columns rows).toArray⟩ : ByteArray) = q at *
  go_enter Tryz.func11, Tryz.ntmps11
  go_wp2_with fail
  refine (H1.out _ (box_below W _)).mono ?_
  rintro e w1 ⟨rfl, hb1⟩
  have hc := box_cell hb1 6 (.slice ar nr cr) rfl
  go_wp2_with fail
  refine (H2.out _ (box_up hb1)).mono ?_
  rintro e w2 ⟨rfl, hb2⟩
  have HB1 : Hid (Below W.heap.size W w2) := hid ((box_up hb1).trans (hb2.mono (box_up hb1).size))
  clear hb1 hb2 hc
  go_wp2_with fail
  go_ret
  exact ⟨rfl, HB1.out⟩
end Go.Proofs.YtbjinmlelchmgaaGreatDoor
