/- known: the chapter's example. -/
import Derived.Test.YtmomidkodjihjaaDoorMi
namespace Go.Proofs.YtmomidkodjihjaaDoor
open Go.RowKit
open H
set_option maxHeartbeats 4000000
set_option maxRecDepth 100000
def kl : List Ov := [⟨⟨2, 0, []⟩, none, 0⟩, ⟨⟨1, 4096, []⟩, none, 0⟩, ⟨⟨4, 8195, []⟩, none, 0⟩]
theorem kl_enc : enc (kl.map Ov.o) = [2, 0, 1, 4096, 4, 8195] := rfl
theorem kl_sum : sumW [2, 0, 1, 4096, 4, 8195] = [2695067093, 1055369375, 3670750559, 290707688, 3787623333, 1020522477, 3831721539, 3008966724] := by decide +kernel
theorem kl_ok : ∀ o ∈ kl.map Ov.o, o.Ok := by decide
theorem kl_at (W : World) : OL (W.alloc (.cells #[.int .i64 2, .int .u32 0, .slice none 0 0, .int .i64 1, .int .u32 4096, .slice none 0 0, .int .i64 4, .int .u32 8195, .slice none 0 0] 43)) (some ⟨W.heap.size, 0, none⟩) kl := by
  have hc : Cel (W.alloc (.cells #[.int .i64 2, .int .u32 0, .slice none 0 0, .int .i64 1, .int .u32 4096, .slice none 0 0, .int .i64 4, .int .u32 8195, .slice none 0 0] 43)) W.heap.size 43 [.int .i64 2, .int .u32 0, .slice none 0 0, .int .i64 1, .int .u32 4096, .slice none 0 0, .int .i64 4, .int .u32 8195, .slice none 0 0] := heap_alloc_new _ _
  refine ⟨.inr ⟨W.heap.size, 0, rfl, by simp, fun i x hx => ?_⟩, fun x hx => ?_⟩
  · have hi : i < 3 := (List.getElem?_eq_some_iff.1 hx).1
    rw [hc.cell, hc.cell, hc.cell]
    match i, hi, hx with
    | 0, _, hx | 1, _, hx | 2, _, hx => cases hx; exact ⟨rfl, rfl, rfl⟩
  · simp only [kl, List.mem_cons, List.not_mem_nil, or_false] at hx
    rcases hx with rfl | rfl | rfl <;> exact .inl rfl
theorem known_any (W : World) (hT : Tab W) (h2 : 1 < W.heap.size) : Calls Tryd.prog 9 #[] W fun e W' => e = .returned (.bool true) ∧ Below W.heap.size W W' := by
  have heq := eq27 [2695067093, 1055369375, 3670750559, 290707688, 3787623333, 1020522477, 3831721539, 3008966724] [2695067093, 1055369375, 3670750559, 290707688, 3787623333, 1020522477, 3831721539, 3008966724] rfl rfl
  rw [decide_eq_true rfl] at heq
  have heq' : ∀ w, (Op.equalIn 10000 44 (.agg #[.int .u32 2695067093, .int .u32 1055369375, .int .u32 3670750559, .int .u32 290707688, .int .u32 3787623333, .int .u32 1020522477, .int .u32 3831721539, .int .u32 3008966724]) (.agg #[.int .u32 2695067093, .int .u32 1055369375, .int .u32 3670750559, .int .u32 290707688, .int .u32 3787623333, .int .u32 1020522477, .int .u32 3831721539, .int .u32 3008966724])).run Tryd.prog w = .ok true w := heq
  have B1 := hid (below_one W (.cells #[.int .i64 2, .int .u32 0, .slice none 0 0, .int .i64 1, .int .u32 4096, .slice none 0 0, .int .i64 4, .int .u32 8195, .slice none 0 0] 43))
  have HE := hid (fun w (hw : Below (W.alloc (.cells #[.int .i64 2, .int .u32 0, .slice none 0 0, .int .i64 1, .int .u32 4096, .slice none 0 0, .int .i64 4, .int .u32 8195, .slice none 0 0] 43)).heap.size (W.alloc (.cells #[.int .i64 2, .int .u32 0, .slice none 0 0, .int .i64 1, .int .u32 4096, .slice none 0 0, .int .i64 4, .int .u32 8195, .slice none 0 0] 43)) w) => encode_ok w (some ⟨W.heap.size, 0, none⟩) 3 3 kl rfl ((kl_at W).on hw) (by decide) kl_ok (by rw [kl_enc]; decide))
  have HM := hid (fun w (hw : Below (W.alloc (.cells #[.int .i64 2, .int .u32 0, .slice none 0 0, .int .i64 1, .int .u32 4096, .slice none 0 0, .int .i64 4, .int .u32 8195, .slice none 0 0] 43)).heap.size (W.alloc (.cells #[.int .i64 2, .int .u32 0, .slice none 0 0, .int .i64 1, .int .u32 4096, .slice none 0 0, .int .i64 4, .int .u32 8195, .slice none 0 0] 43)) w) => measure_ok w (hT.below (below_on (below_one _ _) hw) h2) (by have := hw.size; simp at this; omega) (some ⟨W.heap.size, 0, none⟩) 3 3 kl rfl ((kl_at W).on hw) (by decide) kl_ok (by rw [kl_enc]; decide))
  rw [kl_enc] at HE HM
  rw [kl_sum] at HM
  simp only [Ag, List.map_cons, List.map_nil, List.length_cons, List.length_nil] at HE HM
  have HS := hid (fun w p cp g (hp : At w .u32 p [2, 0, 1, 4096, 4, 8195]) (hg : Blk w g .u32 24 [2, 0, 1, 4096, 4, 8195]) => same_any w p (some ⟨g, 0, none⟩) 6 6 cp 6 _ _ rfl rfl hp hg.at (by decide))
  rw [decide_eq_true rfl] at HS
  clear heq hT h2
  go_enter Tryd.func9, Tryd.ntmps9
  go_wp2_with (first | (go_at_call 10; refine (HE.out _ (Below.refl _ _)).mono ?_; rintro e w1 ⟨p, cp, rfl, hh⟩; have HA : Hid (At w1 .u32 p [2, 0, 1, 4096, 4, 8195]) := hid (by obtain ⟨p', cp', e, _, ha, _⟩ := hh.at'; injection e with e1; rw [e1]; exact ha); have B2 := hid hh.below; clear hh) | (go_at_call 17; refine (HM.out _ B2.out).mono ?_; rintro e w2 ⟨rfl, hb⟩; have B3 := hid (below_on B2.out hb); have HA2 := hid (HA.out.below hb); clear hb) | (go_at_call 11; refine (HS.out _ p cp _ ((HA2.out.below (below_one _ _)).below (below_one _ _)) (Blk.newAt (by simp) .u32 24 [2, 0, 1, 4096, 4, 8195])).mono ?_; rintro e w3 ⟨rfl, hb⟩; have B4 := hid (below_on (below_on (below_on B3.out (below_one _ _)) (below_one _ _)) hb); have HC : Cel w3 w2.heap.size 44 [.int .u32 2695067093, .int .u32 1055369375, .int .u32 3670750559, .int .u32 290707688, .int .u32 3787623333, .int .u32 1020522477, .int .u32 3831721539, .int .u32 3008966724] := (H.Cel.on (H.Cel.on (show Cel (w2.alloc (.cells #[.int .u32 2695067093, .int .u32 1055369375, .int .u32 3670750559, .int .u32 290707688, .int .u32 3787623333, .int .u32 1020522477, .int .u32 3831721539, .int .u32 3008966724] 44)) w2.heap.size 44 [.int .u32 2695067093, .int .u32 1055369375, .int .u32 3670750559, .int .u32 290707688, .int .u32 3787623333, .int .u32 1020522477, .int .u32 3831721539, .int .u32 3008966724] from heap_alloc_new _ _) (below_one _ _)) hb); have c0 := HC.cell 0; have c1 := HC.cell 1; have c2 := HC.cell 2; have c3 := HC.cell 3; have c4 := HC.cell 4; have c5 := HC.cell 5; have c6 := HC.cell 6; have c7 := HC.cell 7; simp only [List.getElem?_cons_zero, List.getElem?_cons_succ] at c0 c1 c2 c3 c4 c5 c6 c7; clear hb HC))
  go_ret
  exact ⟨rfl, below_on B1.out B4.out⟩
end Go.Proofs.YtmomidkodjihjaaDoor
