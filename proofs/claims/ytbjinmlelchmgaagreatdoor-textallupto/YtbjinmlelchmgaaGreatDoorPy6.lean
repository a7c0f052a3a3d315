/- The law's plays (11): kind 6 (Unquote). -/
import Derived.Test.YtbjinmlelchmgaaGreatDoorPy5
import Derived.Test.YtbjinmlelchmgaaGreatDoorRfB
import Derived.Test.YtbjinmlelchmgaaGreatDoorUnqUnquote
namespace Go.Proofs.YtbjinmlelchmgaaGreatDoor
open Go.RowKit
theorem conv_nil (w : World) : (convert 26 9 (.slice none 0 0)).run Tryz.prog w = .ok (.string ⟨#[]⟩) w := by
  rw [run_convert_bytes_string (P := Tryz.prog) w 26 9 5 none 0 0 Tryz.underlying26 Tryz.underlying5 Tryz.underlying9]
  rfl
set_option maxRecDepth 40000 in
set_option maxHeartbeats 2000000 in
theorem plays6 (W : World) (s : ByteArray) (p u i : Int) (ab ar : Option Addr) (nb cb nr cr : Nat) (hs : s.size ≤ 1000000000) :
    Calls Tryz.prog 11 #[.agg #[.int .i64 6, .string s, .int .i64 p, .slice ab nb cb, .int .u32 u, .int .i32 i, .slice ar nr cr]] W fun e w' => e = .returned (.bool true) ∧ Below W.heap.size W w' := by
  have H1 : Hid (∀ w, Calls Tryz.prog 42 #[.string s] w fun e w' => UqPost w (T.unquote s.data.toList) e w') := hid (fun w => runquote_any w s hs)
  have H2 : Hid (∀ w, Calls Tryz.prog 14 #[.string s] w fun e w' => UqPost w (T.unquote s.data.toList) e w') := hid (fun w => unquote_any w s hs)
  generalize T.unquote s.data.toList = r at *
  clear hs
  cases r with
  | none =>
    go_enter Tryz.func11, Tryz.ntmps11
    go_wp2_with fail
    refine (H1.out _).mono ?_
    rintro e w1 ⟨rfl, hb1⟩
    have hc := box_cell hb1 1 (.string s) rfl
    have x1 : Hid (Below W.heap.size W w1) := hid (box_up hb1)
    clear hb1
    go_wp2_with fail
    refine (H2.out _).mono ?_
    rintro e w2 ⟨rfl, hb2⟩
    have x2 : Hid (Below W.heap.size W w2) := hid (x1.out.trans (hb2.mono x1.out.size))
    have hcv := conv_nil w2
    clear hb2 hc
    go_wp2_with fail
    go_ret
    exact ⟨rfl, x2.out⟩
  | some b =>
    go_enter Tryz.func11, Tryz.ntmps11
    go_wp2_with fail
    refine (H1.out _).mono ?_
    rintro e w1 ⟨v1, rfl, F1⟩
    have hc := box_cell F1.below 1 (.string s) rfl
    have x1 : Hid (Below W.heap.size W w1) := hid (box_up F1.below)
    have HF1 := hid F1
    clear F1
    go_wp2_with fail
    refine (H2.out _).mono ?_
    rintro e w2 ⟨v2, rfl, F2⟩
    have x2 : Hid (Below W.heap.size W w2) := hid (x1.out.trans (F2.below.mono x1.out.size))
    obtain ⟨a1, c1, rfl, hcv1⟩ := (HF1.out.on F2.below).conv
    obtain ⟨a2, c2, rfl, hcv2⟩ := F2.conv
    clear HF1 F2 hc
    generalize b.length = n at *
    go_wp2_with fail
    go_ret
    exact ⟨rfl, x2.out⟩
end Go.Proofs.YtbjinmlelchmgaaGreatDoor
