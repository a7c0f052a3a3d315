/- Quotes compared; a quote's text and back. -/
import Derived.Test.YtbpdmkohihgnjaaDoorFp
namespace Go.Proofs.YtbpdmkohihgnjaaDoor
open Go.RowKit
set_option maxHeartbeats 4000000
set_option maxRecDepth 100000
theorem part0x (a0 a1 a2 a3 a4 a5 a6 a7 b0 b1 b2 b3 b4 b5 b6 b7 c0 c1 c2 c3 c4 c5 c6 c7 : Int) (w : World) : (part 23 ((quoL [a0, a1, a2, a3, a4, a5, a6, a7] [b0, b1, b2, b3, b4, b5, b6, b7] [c0, c1, c2, c3, c4, c5, c6, c7]).map (Value.int .u32)).toArray 0).run Tryd.prog w = .ok (.agg ([a0, a1, a2, a3, a4, a5, a6, a7].map (Value.int .u32)).toArray) w := by kernel_rfl
theorem part8x (a0 a1 a2 a3 a4 a5 a6 a7 b0 b1 b2 b3 b4 b5 b6 b7 c0 c1 c2 c3 c4 c5 c6 c7 : Int) (w : World) : (part 23 ((quoL [a0, a1, a2, a3, a4, a5, a6, a7] [b0, b1, b2, b3, b4, b5, b6, b7] [c0, c1, c2, c3, c4, c5, c6, c7]).map (Value.int .u32)).toArray 8).run Tryd.prog w = .ok (.agg ([b0, b1, b2, b3, b4, b5, b6, b7].map (Value.int .u32)).toArray) w := by kernel_rfl
theorem part16x (a0 a1 a2 a3 a4 a5 a6 a7 b0 b1 b2 b3 b4 b5 b6 b7 c0 c1 c2 c3 c4 c5 c6 c7 : Int) (w : World) : (part 23 ((quoL [a0, a1, a2, a3, a4, a5, a6, a7] [b0, b1, b2, b3, b4, b5, b6, b7] [c0, c1, c2, c3, c4, c5, c6, c7]).map (Value.int .u32)).toArray 16).run Tryd.prog w = .ok (.agg ([c0, c1, c2, c3, c4, c5, c6, c7].map (Value.int .u32)).toArray) w := by kernel_rfl
theorem part0 (w : World) (a b c : List Int) (ha : a.length = 8) (hb : b.length = 8) (hc : c.length = 8) : (part 23 ((quoL a b c).map (Value.int .u32)).toArray 0).run Tryd.prog w = .ok (.agg (a.map (Value.int .u32)).toArray) w :=
  match a, ha with
  | [a0, a1, a2, a3, a4, a5, a6, a7], _ =>
    match b, hb with
    | [b0, b1, b2, b3, b4, b5, b6, b7], _ =>
      match c, hc with
      | [c0, c1, c2, c3, c4, c5, c6, c7], _ => part0x a0 a1 a2 a3 a4 a5 a6 a7 b0 b1 b2 b3 b4 b5 b6 b7 c0 c1 c2 c3 c4 c5 c6 c7 w
theorem part8 (w : World) (a b c : List Int) (ha : a.length = 8) (hb : b.length = 8) (hc : c.length = 8) : (part 23 ((quoL a b c).map (Value.int .u32)).toArray 8).run Tryd.prog w = .ok (.agg (b.map (Value.int .u32)).toArray) w :=
  match a, ha with
  | [a0, a1, a2, a3, a4, a5, a6, a7], _ =>
    match b, hb with
    | [b0, b1, b2, b3, b4, b5, b6, b7], _ =>
      match c, hc with
      | [c0, c1, c2, c3, c4, c5, c6, c7], _ => part8x a0 a1 a2 a3 a4 a5 a6 a7 b0 b1 b2 b3 b4 b5 b6 b7 c0 c1 c2 c3 c4 c5 c6 c7 w
theorem part16 (w : World) (a b c : List Int) (ha : a.length = 8) (hb : b.length = 8) (hc : c.length = 8) : (part 23 ((quoL a b c).map (Value.int .u32)).toArray 16).run Tryd.prog w = .ok (.agg (c.map (Value.int .u32)).toArray) w :=
  match a, ha with
  | [a0, a1, a2, a3, a4, a5, a6, a7], _ =>
    match b, hb with
    | [b0, b1, b2, b3, b4, b5, b6, b7], _ =>
      match c, hc with
      | [c0, c1, c2, c3, c4, c5, c6, c7], _ => part16x a0 a1 a2 a3 a4 a5 a6 a7 b0 b1 b2 b3 b4 b5 b6 b7 c0 c1 c2 c3 c4 c5 c6 c7 w
theorem fields38 : (Tryd.prog.fieldsOf 38).toList.map (fun f => (f.name, f.type, f.offset)) = [("Measurement", 23, 0), ("Data", 23, 8), ("Tag", 23, 16)] := by kernel_rfl
theorem under38 : Tryd.prog.underlying 38 = some (.struct (Tryd.prog.fieldsOf 38)) := by kernel_rfl
theorem stood38 : Tryd.prog.stoodInHeld 38 = false := by kernel_rfl
theorem eq38 (w : World) (a b c x y z : List Int) (ha : a.length = 8) (hb : b.length = 8) (hc : c.length = 8) (hx : x.length = 8) (hy : y.length = 8) (hz : z.length = 8) :
    (Op.equalIn 10000 38 (.agg ((quoL a b c).map (Value.int .u32)).toArray) (.agg ((quoL x y z).map (Value.int .u32)).toArray)).run Tryd.prog w = .ok (decide (a = x) && (decide (b = y) && decide (c = z))) w := by
  rw [run_equalIn_struct w 9999 38 _ _ under38 stood38]
  have h := fields38
  generalize (Tryd.prog.fieldsOf 38).toList = L at h ⊢
  have hl : L.length = 3 := by have := congrArg List.length h; simpa using this
  match L, hl with
  | [f1, f2, f3], _ =>
    simp only [List.map_cons, List.map_nil, List.cons.injEq, Prod.mk.injEq, and_true] at h
    obtain ⟨⟨a1, a2, a3⟩, ⟨b1, b2, b3⟩, c1, c2, c3⟩ := h
    have e0 := run_equalIn_words (P := Tryd.prog) w 9997 23 22 8 Tryd.underlying23 Tryd.underlying22 Tryd.sizeOf22
    simp only [Op.eqFields, a1, a2, a3, b1, b2, b3, c1, c2, c3, Sem.run_bind, part0 w a b c ha hb hc, part8 w a b c ha hb hc, part16 w a b c ha hb hc, part0 w x y z hx hy hz, part8 w x y z hx hy hz, part16 w x y z hx hy hz, Result.andThen_ok, e0 a x ha hx, e0 b y hb hy, e0 c z hc hz, Sem.run_ite, Sem.run_pure]
    cases decide (a = x) <;> cases decide (b = y) <;> cases decide (c = z) <;> rfl
/-- A quote's text, byte by byte. -/
def hl (m : List Int) : List UInt8 := (hexB m).data.toList
theorem hl_length {m : List Int} (h : m.length = 8) : (hl m).length = 64 := by unfold hl; rw [lenD, hexB_size h]
theorem data_app (a b : ByteArray) : (a ++ b).data.toList = a.data.toList ++ b.data.toList := by
  rw [ByteArray.data_append, Array.toList_append]
theorem lineD (a b : ByteArray) : (lineB [a, b]).data.toList = a.data.toList ++ ([32] ++ (b.data.toList ++ [10])) := by
  unfold lineB
  rw [data_app, line2]
  simp
theorem fmt_list (m d t : List Int) : (fmtQ m d t).data.toList = [113, 117, 111, 116, 101, 32, 49, 10, 109, 101, 97, 115, 117, 114, 101, 109, 101, 110, 116, 32] ++ (hl m ++ ([10, 100, 97, 116, 97, 32] ++ (hl d ++ ([10, 116, 97, 103, 32] ++ (hl t ++ [10]))))) := by
  unfold fmtQ qB1 qB2 qB3 hl
  rw [data_app, data_app, data_app, lineD, lineD, lineD, show qB0.data.toList = [113, 117, 111, 116, 101, 32, 49, 10] from by unfold qB0 lineB; rw [data_app, List.map_cons, List.map_nil, Lib.join_one]; rfl]
  simp only [List.cons_append, List.nil_append, List.append_assoc]
theorem ext_list (s : ByteArray) (a b : Nat) : (s.extract a b).data.toList = (s.data.toList.drop a).take (b - a) := by
  rw [ByteArray.data_extract, Array.toList_extract, List.extract_eq_take_drop]
theorem mid_list {α : Type} (p x r : List α) (a k : Nat) (ha : p.length = a) (hk : x.length = k) : ((p ++ (x ++ r)).drop a).take (a + k - a) = x := by
  subst ha hk
  rw [List.drop_left, Nat.add_sub_cancel_left, List.take_left]
theorem bytes_ext {s t : ByteArray} (h : s.data.toList = t.data.toList) : s = t := by
  cases s; cases t; congr; exact Array.toList_inj.1 h
theorem at20 {m d t : List Int} (hm : m.length = 8) : at8 (fmtQ m d t) 20 = hexB m := by
  refine bytes_ext ?_
  unfold at8
  rw [ext_list, fmt_list]
  exact mid_list [113, 117, 111, 116, 101, 32, 49, 10, 109, 101, 97, 115, 117, 114, 101, 109, 101, 110, 116, 32] (hl m) _ 20 64 rfl (hl_length hm)
theorem at90 {m d t : List Int} (hm : m.length = 8) (hd : d.length = 8) : at8 (fmtQ m d t) 90 = hexB d := by
  refine bytes_ext ?_
  unfold at8
  rw [ext_list, fmt_list, ← List.append_assoc, ← List.append_assoc]
  exact mid_list (([113, 117, 111, 116, 101, 32, 49, 10, 109, 101, 97, 115, 117, 114, 101, 109, 101, 110, 116, 32] ++ hl m) ++ [10, 100, 97, 116, 97, 32]) (hl d) _ 90 64 (by rw [List.length_append, List.length_append, hl_length hm]; rfl) (hl_length hd)
theorem at159 {m d t : List Int} (hm : m.length = 8) (hd : d.length = 8) (ht : t.length = 8) : at8 (fmtQ m d t) 159 = hexB t := by
  refine bytes_ext ?_
  unfold at8
  rw [ext_list, fmt_list, ← List.append_assoc, ← List.append_assoc, ← List.append_assoc, ← List.append_assoc]
  exact mid_list (((([113, 117, 111, 116, 101, 32, 49, 10, 109, 101, 97, 115, 117, 114, 101, 109, 101, 110, 116, 32] ++ hl m) ++ [10, 100, 97, 116, 97, 32]) ++ hl d) ++ [10, 116, 97, 103, 32]) (hl t) _ 159 64 (by rw [List.length_append, List.length_append, List.length_append, List.length_append, hl_length hm, hl_length hd]; rfl) (hl_length ht)
theorem ok8_hex {m : List Int} (hm : m.length = 8) (wm : Wds m) : ok8 (hexB m) := by
  refine ⟨hexB_size hm, fun i hi => ?_⟩
  unfold hexB
  rw [V.strL_strOfNums _ (V.hexD_bts m), V.pv_hexD m wm i (by omega)]
  exact fun h => by cases h
theorem w8_hex {m : List Int} (hm : m.length = 8) (wm : Wds m) : w8 (hexB m) = m := by
  unfold w8
  rw [if_pos (ok8_hex hm wm)]
  unfold hexB
  rw [V.strL_strOfNums _ (V.hexD_bts m)]
  have := V.hexWs_hexD m wm
  rwa [hm] at this
/-- A quote's text is taken, and is that quote's. -/
theorem qok_fmt {m d t : List Int} (hm : m.length = 8) (hd : d.length = 8) (ht : t.length = 8) (wm : Wds m) (wd : Wds d) (wt : Wds t) : qok (fmtQ m d t) := by
  refine ⟨fmtQ_size hm hd ht, ?_, ?_, ?_, ?_⟩
  · rw [at20 hm]; exact ok8_hex hm wm
  · rw [at90 hm hd]; exact ok8_hex hd wd
  · rw [at159 hm hd ht]; exact ok8_hex ht wt
  · rw [at20 hm, at90 hm hd, at159 hm hd ht, w8_hex hm wm, w8_hex hd wd, w8_hex ht wt]
theorem pq_fmt {m d t : List Int} (hm : m.length = 8) (hd : d.length = 8) (ht : t.length = 8) (wm : Wds m) (wd : Wds d) (wt : Wds t) : pq (fmtQ m d t) = quoL m d t := by
  unfold pq
  rw [if_pos (qok_fmt hm hd ht wm wd wt), at20 hm, at90 hm hd, at159 hm hd ht, w8_hex hm wm, w8_hex hd wd, w8_hex ht wt]
theorem pq_parts {s : ByteArray} (h : qok s) : ∃ a b c, a.length = 8 ∧ b.length = 8 ∧ c.length = 8 ∧ Wds a ∧ Wds b ∧ Wds c ∧ pq s = quoL a b c ∧ fmtQ a b c = s :=
  ⟨_, _, _, w8_length _, w8_length _, w8_length _, w8_wds _, w8_wds _, w8_wds _, by unfold pq; rw [if_pos h], h.2.2.2.2⟩
/-- Two taken texts are one just if their quotes are. -/
theorem same_quote {m d t a b c : List Int} (hm : m.length = 8) (hd : d.length = 8) (ht : t.length = 8) (wm : Wds m) (wd : Wds d) (wt : Wds t) (ha : a.length = 8) (hb : b.length = 8) (hc : c.length = 8) (wa : Wds a) (wb : Wds b) (wc : Wds c) (e : fmtQ a b c = fmtQ m d t) : a = m ∧ b = d ∧ c = t := by
  have h1 : at8 (fmtQ a b c) 20 = at8 (fmtQ m d t) 20 := by rw [e]
  have h2 : at8 (fmtQ a b c) 90 = at8 (fmtQ m d t) 90 := by rw [e]
  have h3 : at8 (fmtQ a b c) 159 = at8 (fmtQ m d t) 159 := by rw [e]
  rw [at20 ha, at20 hm] at h1
  rw [at90 ha hb, at90 hm hd] at h2
  rw [at159 ha hb hc, at159 hm hd ht] at h3
  exact ⟨by rw [← w8_hex ha wa, h1, w8_hex hm wm], by rw [← w8_hex hb wb, h2, w8_hex hd wd], by rw [← w8_hex hc wc, h3, w8_hex ht wt]⟩
end Go.Proofs.YtbpdmkohihgnjaaDoor
