import Derived.Test.YtbpdmkohihgnjaaGreatDoorP20
import Derived.Test.YtbpdmkohihgnjaaGreatDoorP16
import Derived.Test.YtbpdmkohihgnjaaGreatDoorP27
import Derived.Test.YtbpdmkohihgnjaaGreatDoorP19
import Derived.Test.YtbpdmkohihgnjaaGreatDoorP03
namespace Go.Proofs.YtbpdmkohihgnjaaGreatDoor
open Go.RowKit
set_option maxHeartbeats 4000000
set_option maxRecDepth 100000
theorem fields42 : (Tryz.prog.fieldsOf 63).toList.map (fun f => (f.name, f.type, f.offset)) = [("Allow", 4, 0), ("Name", 9, 1), ("Measurement", 26, 2)] := by kernel_rfl
theorem under42 : Tryz.prog.underlying 63 = some (.struct (Tryz.prog.fieldsOf 63)) := by kernel_rfl
theorem stood42 : Tryz.prog.stoodInHeld 63 = false := by kernel_rfl
theorem rpart0 (al : Bool) (nm : ByteArray) (a0 a1 a2 a3 a4 a5 a6 a7 : Int) (w : World) : (part 4 #[.bool al, .string nm, .int .u32 a0, .int .u32 a1, .int .u32 a2, .int .u32 a3, .int .u32 a4, .int .u32 a5, .int .u32 a6, .int .u32 a7] 0).run Tryz.prog w = .ok (.bool al) w := by kernel_rfl
theorem rpart1 (al : Bool) (nm : ByteArray) (a0 a1 a2 a3 a4 a5 a6 a7 : Int) (w : World) : (part 9 #[.bool al, .string nm, .int .u32 a0, .int .u32 a1, .int .u32 a2, .int .u32 a3, .int .u32 a4, .int .u32 a5, .int .u32 a6, .int .u32 a7] 1).run Tryz.prog w = .ok (.string nm) w := by kernel_rfl
theorem rpart2 (al : Bool) (nm : ByteArray) (a0 a1 a2 a3 a4 a5 a6 a7 : Int) (w : World) : (part 26 #[.bool al, .string nm, .int .u32 a0, .int .u32 a1, .int .u32 a2, .int .u32 a3, .int .u32 a4, .int .u32 a5, .int .u32 a6, .int .u32 a7] 2).run Tryz.prog w = .ok (.agg ([a0, a1, a2, a3, a4, a5, a6, a7].map (Value.int .u32)).toArray) w := by kernel_rfl
theorem eq42 (w : World) (r : Rl) (hr : r.ms.length = 8) : (Op.equalIn 10000 63 (.agg r.cs.toArray) (.agg r.cs.toArray)).run Tryz.prog w = .ok true w := by
  obtain ⟨al, nm, ms⟩ := r
  match ms, hr with
  | [a0, a1, a2, a3, a4, a5, a6, a7], _ =>
    show (Op.equalIn 10000 63 (.agg #[.bool al, .string nm, .int .u32 a0, .int .u32 a1, .int .u32 a2, .int .u32 a3, .int .u32 a4, .int .u32 a5, .int .u32 a6, .int .u32 a7]) (.agg #[.bool al, .string nm, .int .u32 a0, .int .u32 a1, .int .u32 a2, .int .u32 a3, .int .u32 a4, .int .u32 a5, .int .u32 a6, .int .u32 a7])).run Tryz.prog w = .ok true w
    rw [run_equalIn_struct w 9999 63 _ _ under42 stood42]
    have h := fields42
    generalize (Tryz.prog.fieldsOf 63).toList = L at h ⊢
    have hl : L.length = 3 := by have := congrArg List.length h; simpa using this
    match L, hl with
    | [f1, f2, f3], _ =>
      simp only [List.map_cons, List.map_nil, List.cons.injEq, Prod.mk.injEq, and_true] at h
      obtain ⟨⟨x1, x2, x3⟩, ⟨y1, y2, y3⟩, z1, z2, z3⟩ := h
      have e0 := run_equalIn_words (P := Tryz.prog) w 9997 26 25 8 Tryz.underlying26 Tryz.underlying25 Tryz.sizeOf25 [a0, a1, a2, a3, a4, a5, a6, a7] [a0, a1, a2, a3, a4, a5, a6, a7] rfl rfl
      have e1 := run_equalIn_bool' (P := Tryz.prog) w 9998 4 al al Tryz.underlying4
      have e2 := run_equalIn_string (P := Tryz.prog) w 9998 9 nm nm Tryz.underlying9
      simp only [Op.eqFields, x1, x2, x3, y1, y2, y3, z1, z2, z3, Sem.run_bind, rpart0, rpart1, rpart2, Result.andThen_ok, e0, e1, e2, Sem.run_ite, Sem.run_pure]
      simp
end Go.Proofs.YtbpdmkohihgnjaaGreatDoor
namespace Go.Proofs.YtbpdmkohihgnjaaGreatDoor
open Go.RowKit
set_option maxHeartbeats 4000000
set_option maxRecDepth 100000
attribute [-go_sem] run_equalIn_agg
theorem rcs_at : ∀ (R : List Rl), (∀ r ∈ R, r.ms.length = 8) → ∀ (t : Nat) (r : Rl), R[t]? = some r → ∀ (j : Nat) (v : Value), r.cs[j]? = some v → (rcs R)[t * 10 + j]? = some v
  | [], _, t, x, h, _, _, _ => by simp at h
  | y :: R, hm, 0, x, h, j, v, hv => by
    simp only [List.getElem?_cons_zero, Option.some.injEq] at h
    subst h
    have hj := (List.getElem?_eq_some_iff.1 hv).1
    show (y.cs ++ rcs R)[0 * 10 + j]? = some v
    rw [Nat.zero_mul, Nat.zero_add, List.getElem?_append_left hj]
    exact hv
  | y :: R, hm, t + 1, x, h, j, v, hv => by
    have ih := rcs_at R (fun r hr => hm r (List.mem_cons_of_mem _ hr)) t x (by simpa using h) j v hv
    show (y.cs ++ rcs R)[(t + 1) * 10 + j]? = some v
    have hl : y.cs.length = 10 := y.len (hm y List.mem_cons_self)
    rw [List.getElem?_append_right (by rw [hl]; omega), hl, show (t + 1) * 10 + j - 10 = t * 10 + j by omega]
    exact ih
structure KT (W : World) (a1 : Option Addr) (c1 : Nat) (a2 : Option Addr) (c2 n : Nat) (ot : Bool) (R : List Rl) (w : World) : Prop where
  bl : Below W.heap.size W w
  p1 : Cel w W.heap.size 24 [.slice a1 n c1, .bool ot]
  p2 : Cel w (W.heap.size + 1) 24 [.slice a2 n c2, .bool ot]
  r1 : RulesAt w a1 R
  r2 : RulesAt w a2 R
theorem KT.on {W : World} {a1 : Option Addr} {c1 : Nat} {a2 : Option Addr} {c2 n : Nat} {ot : Bool} {R : List Rl} {w w' : World} (h : KT W a1 c1 a2 c2 n ot R w) (hb : Below w.heap.size w w') : KT W a1 c1 a2 c2 n ot R w' := ⟨below_on h.bl hb, h.p1.on hb, h.p2.on hb, h.r1.on hb, h.r2.on hb⟩
theorem rules_row {w : World} {ao : Option Addr} {R : List Rl} (h : RulesAt w ao R) {k : Nat} (hk : k < R.length) : ∃ b off, ao = some ⟨b, off, none⟩ := by
  rcases h with h0 | ⟨b, off, e, _, _⟩
  · rw [h0] at hk; simp at hk
  · exact ⟨b, off, e⟩
theorem rules_at {w : World} {b off : Nat} {R : List Rl} (h : RulesAt w (some ⟨b, off, none⟩) R) {k : Nat} {r : Rl} (hr : R[k]? = some r) : w.rangeAt b (off + k * 10) r.cs := by
  rcases h with h0 | ⟨b', off', e, _, hra⟩
  · rw [h0] at hr; simp at hr
  · simp only [Option.some.injEq, Addr.mk.injEq] at e
    obtain ⟨rfl, rfl, _⟩ := e
    exact hra k r hr
end Go.Proofs.YtbpdmkohihgnjaaGreatDoor
namespace Go.Proofs.YtbpdmkohihgnjaaGreatDoor
open Go.RowKit
set_option maxHeartbeats 4000000
set_option maxRecDepth 100000
theorem holdsV_at {W wr : World} {k : IntKind} {e : TypeId} {v : Value} {L : List Int} (h : V.Holds W wr k e v L) : ∃ ao cap, v = .slice ao L.length cap ∧ L.length ≤ cap ∧ At wr k ao L := by
  obtain ⟨ao, cap, h1, h2, h3, _⟩ := Holds.at' (⟨h.own, h.below⟩ : Holds W wr k e v L)
  exact ⟨ao, cap, h1, h2, h3⟩
def cutB (s : ByteArray) (a : Nat) : ByteArray := if s.size < a + 64 then ⟨#[]⟩ else at8 s a
attribute [-simp] Tryz.isAgg26 Tryz.sizeOf26 Tryz.zeroValue26
theorem eight_any (W : World) (s : ByteArray) (hs : s.size ≤ 140737488355328) :
    Calls Tryz.prog 28 #[.string s] W fun e W' => e = .returned (.tuple #[Ag (w8 s), .bool (decide (ok8 s))]) ∧ Below W.heap.size W W' := by
  obtain ⟨Z, hZ⟩ : ∃ Z : List Int, Z = List.replicate 8 0 := ⟨_, rfl⟩
  have hZl : Z.length = 8 := by rw [hZ]; simp
  have hz : ∀ w, (zeroValue 26).run Tryz.prog w = .ok (.agg (Z.map (Value.int .u32)).toArray) w := fun w => by rw [Tryz.zeroValue26, hZ]; rfl
  have hbu : ∀ w, (Instr.build 26 #[]).run Tryz.prog w = .ok (.agg (Z.map (Value.int .u32)).toArray) w := fun w => by rw [hZ]; kernel_rfl
  obtain ⟨X, hX⟩ : ∃ X, X = W.alloc (Obj.cells (List.map (Value.int IntKind.u32) Z).toArray 26) := ⟨_, rfl⟩
  have HB : Hid (Below W.heap.size W X) := hid (by rw [hX]; exact below_one _ _)
  have bz : Hid (Blk X W.heap.size .u32 26 Z) := hid (by rw [hX]; exact Blk.new W .u32 26 Z)
  by_cases h64 : s.size = 64
  · have HP := hid (V.rparseAll_any X s 8 h64 (by decide))
    clear hs
    by_cases hok : ∀ i, i < 8 → V.pv (V.strL s) (8 * i) 8 ≠ none
    · have h8 : ok8 s := ⟨h64, hok⟩
      have HR := hid (show Ag (w8 s) = Ag (V.hexWs (V.strL s) 8) by unfold w8; rw [if_pos h8])
      have HD := hid (show decide (ok8 s) = true from decide_eq_true h8)
      have hMl : (V.hexWs (V.strL s) 8).length = 8 := V.hexWs_length _ _
      have HP' : Hid (Calls Tryz.prog 55 #[.string s] X fun e W' => ∃ g off c, e = .returned (.tuple #[.slice (some ⟨g, off, none⟩) 8 c, .int .i64 0]) ∧ 8 ≤ c ∧ Row W' .u32 g off (V.hexWs (V.strL s) 8) ∧ Below X.heap.size X W') := hid (HP.out.mono (by
        rintro e w' (⟨_, v, rfl, ho⟩ | ⟨⟨i, hi, hn⟩, _⟩)
        · obtain ⟨p, c, rfl, hc, hat⟩ := holdsV_at ho
          rw [hMl] at hc ⊢
          rcases hat with h0 | ⟨g, off, rfl, _, hr⟩
          · rw [h0] at hMl; cases hMl
          · exact ⟨g, off, c, rfl, hc, hr, ho.below⟩
        · exact absurd hn (hok i hi)))
      generalize V.hexWs (V.strL s) 8 = M at *
      clear HP hok h64 h8 hZ hbu
      go_enter Tryz.func28, Tryz.ntmps28
      go_upto_region 1 with fail
      rw [← hX]
      clear hX
      go_upto_region 2 with (first | (go_at_call 55; refine HP'.out.mono ?_; rintro e w1 ⟨g1, o1, c1, rfl, hc1, hr, hb⟩; have Y1 : Hid (Row w1 .u32 g1 o1 M ∧ Below W.heap.size W w1 ∧ Blk w1 W.heap.size .u32 26 Z) := hid ⟨hr, below_on HB.out hb, bz.out.on hb⟩; clear hr hb))
      clear HP' bz HB
      have har : ∀ w, (Instr.arrayAt 26 (.slice (some ⟨g1, o1, none⟩) 8 c1)).run Tryz.prog w = .ok (.pointer (some ⟨g1, o1, none⟩)) w := fun w => run_arrayAt w 26 _ 8 _ 8 c1 Tryz.underlying26 (Nat.le_refl _)
      go_wp2_with (first | (refine wpList_load_mid rfl 26 _ rfl g1 o1 rfl _ _ Y1.out.1.range Tryz.underlying26 rfl (by rw [List.length_map, hMl]; exact size26) ?_) | (refine wpList_store_blk rfl 26 _ _ rfl W.heap.size M rfl rfl Y1.out.2.2 (by rw [hMl]; exact size26) (by rw [hZl, hMl]) ?_))
      refine ret_cell2 rfl rfl W.heap.size M rfl (Y1.out.2.2.setRow _) Tryz.underlying26 (by rw [hMl]; exact size26) ⟨by rw [HR.out, HD.out]; rfl, below_setRow Y1.out.2.1 (Nat.le_refl _) _⟩
    · have h8 : ¬ ok8 s := fun h => hok h.2
      have HR := hid (show Ag (w8 s) = Ag Z by unfold w8; rw [if_neg h8, hZ])
      have HD := hid (show decide (ok8 s) = false from decide_eq_false h8)
      have HP' : Hid (Calls Tryz.prog 55 #[.string s] X fun e W' => e = .returned (.tuple #[.slice none 0 0, .int .i64 10]) ∧ Below X.heap.size X W') := hid (HP.out.mono (by
        rintro e w' (⟨h, v, rfl, ho⟩ | ⟨_, rfl, hb⟩)
        · exact absurd h hok
        · exact ⟨rfl, hb⟩))
      clear HP hok h64 h8 hZ
      go_enter Tryz.func28, Tryz.ntmps28
      go_upto_region 1 with fail
      rw [← hX]
      clear hX
      go_wp2_with (first | (go_at_call 55; refine HP'.out.mono ?_; rintro e w1 ⟨rfl, hb⟩; have Y1 : Hid (Below W.heap.size W w1 ∧ Blk w1 W.heap.size .u32 26 Z) := hid ⟨below_on HB.out hb, bz.out.on hb⟩; clear hb) | (revert Y1; intro Y1; refine wpList_store_blk rfl 26 _ _ rfl W.heap.size Z rfl rfl Y1.out.2 (by rw [hZl]; exact size26) rfl ?_))
      refine ret_cell2 rfl rfl W.heap.size Z rfl (Y1.out.2.setRow _) Tryz.underlying26 (by rw [hZl]; exact size26) ⟨by rw [HR.out, HD.out]; rfl, below_setRow Y1.out.1 (Nat.le_refl _) _⟩
  · have h8 : ¬ ok8 s := fun h => h64 h.1
    have HR := hid (show Ag (w8 s) = Ag Z by unfold w8; rw [if_neg h8, hZ])
    have HD := hid (show decide (ok8 s) = false from decide_eq_false h8)
    obtain ⟨c, er, HP', hne⟩ : ∃ (n : Nat) (er : Int), Hid (Calls Tryz.prog 55 #[.string s] X fun e W' => ∃ p ao, e = .returned (.tuple #[.slice p n ao, .int .i64 er]) ∧ Below X.heap.size X W') ∧ (er = 0 → n ≠ 8) := by
      by_cases hl : 2097152 < s.size
      · exact ⟨0, 2, hid ((V.rparseAll_long X s hl (by omega)).mono (by rintro e w' ⟨rfl, rfl⟩; exact ⟨none, 0, rfl, Below.refl _ _⟩)), fun h => by cases h⟩
      · by_cases hm : s.size % 8 = 0
        · refine ⟨if (∀ i, i < s.size / 8 → V.pv (V.strL s) (8 * i) 8 ≠ none) then s.size / 8 else 0, if (∀ i, i < s.size / 8 → V.pv (V.strL s) (8 * i) 8 ≠ none) then 0 else 10, hid ((V.rparseAll_any X s (s.size / 8) (by omega) (by omega)).mono ?_), fun h => ?_⟩
          · rintro e w' (⟨h, v, rfl, ho⟩ | ⟨⟨i, hi, hn⟩, rfl, hb⟩)
            · rw [if_pos h, if_pos h]
              obtain ⟨p, c, rfl, _, _⟩ := holdsV_at ho
              rw [V.hexWs_length]
              exact ⟨_, _, rfl, ho.below⟩
            · have : ¬ (∀ i, i < s.size / 8 → V.pv (V.strL s) (8 * i) 8 ≠ none) := fun h => h i hi hn
              rw [if_neg this, if_neg this]; exact ⟨none, 0, rfl, hb⟩
          · split at h
            · rename_i hh; rw [if_pos hh]; omega
            · cases h
        · exact ⟨0, 10, hid ((V.rparseAll_part X s (by omega) hm).mono (by rintro e w' ⟨rfl, rfl⟩; exact ⟨none, 0, rfl, Below.refl _ _⟩)), fun h => by cases h⟩
    clear h64 h8 hZ hs
    by_cases he : er = 0
    · subst he
      have hn8 : ((c : Int) != 8) = true := by have := hne rfl; simp; omega
      clear hne
      go_enter Tryz.func28, Tryz.ntmps28
      go_upto_region 1 with fail
      rw [← hX]
      clear hX
      go_wp2_with (first | (go_at_call 55; refine HP'.out.mono ?_; rintro e w1 ⟨p, pc, rfl, hb⟩; have Y1 : Hid (Below W.heap.size W w1 ∧ Blk w1 W.heap.size .u32 26 Z) := hid ⟨below_on HB.out hb, bz.out.on hb⟩; clear hb) | (revert Y1; intro Y1; refine wpList_store_blk rfl 26 _ _ rfl W.heap.size Z rfl rfl Y1.out.2 (by rw [hZl]; exact size26) rfl ?_))
      refine ret_cell2 rfl rfl W.heap.size Z rfl (Y1.out.2.setRow _) Tryz.underlying26 (by rw [hZl]; exact size26) ⟨by rw [HR.out, HD.out]; rfl, below_setRow Y1.out.1 (Nat.le_refl _) _⟩
    · have he' : (er != 0) = true := by simpa using he
      clear hne he
      go_enter Tryz.func28, Tryz.ntmps28
      go_upto_region 1 with fail
      rw [← hX]
      clear hX
      go_wp2_with (first | (go_at_call 55; refine HP'.out.mono ?_; rintro e w1 ⟨p, pc, rfl, hb⟩; have Y1 : Hid (Below W.heap.size W w1 ∧ Blk w1 W.heap.size .u32 26 Z) := hid ⟨below_on HB.out hb, bz.out.on hb⟩; clear hb) | (revert Y1; intro Y1; refine wpList_store_blk rfl 26 _ _ rfl W.heap.size Z rfl rfl Y1.out.2 (by rw [hZl]; exact size26) rfl ?_))
      refine ret_cell2 rfl rfl W.heap.size Z rfl (Y1.out.2.setRow _) Tryz.underlying26 (by rw [hZl]; exact size26) ⟨by rw [HR.out, HD.out]; rfl, below_setRow Y1.out.1 (Nat.le_refl _) _⟩
end Go.Proofs.YtbpdmkohihgnjaaGreatDoor
namespace Go.Proofs.YtbpdmkohihgnjaaGreatDoor
open Go.RowKit
set_option maxHeartbeats 4000000
set_option maxRecDepth 100000
def fmtD (x1 x2 x3 : ByteArray) : ByteArray := ((((((⟨#[113, 117, 111, 116, 101, 32, 49, 10, 109, 101, 97, 115, 117, 114, 101, 109, 101, 110, 116, 32]⟩ : ByteArray) ++ x1) ++ (⟨#[10, 100, 97, 116, 97, 32]⟩ : ByteArray)) ++ x2) ++ (⟨#[10, 116, 97, 103, 32]⟩ : ByteArray)) ++ x3) ++ (⟨#[10]⟩ : ByteArray)
structure F0 (W : World) (m d t : List Int) (w : World) : Prop where
  bl : Below W.heap.size W w
  q : Blk w W.heap.size .u32 95 (quoL m d t)
theorem F0.on {W : World} {m d t : List Int} {w w' : World} (h : F0 W m d t w) (hb : Below w.heap.size w w') : F0 W m d t w' := ⟨below_on h.bl hb, h.q.on hb⟩
theorem rhexAt {w : World} {g : Nat} (o : Nat) (xs : List Int) (hg : g < w.heap.size) (hx : xs.length = 8) (wx : Wds xs) (hr : w.rangeAt g o (xs.map (Value.int .u32))) :
    Calls Tryz.prog 63 #[.slice (some ⟨g, o, none⟩) 8 8] w fun e W' => e = .returned (.string (hexB xs)) ∧ Below w.heap.size w W' :=
  V.rhexAll_any w (some ⟨g, o, none⟩) 8 8 xs hx wx (.inr ⟨g, o, rfl, hg, range_row hr⟩) (by decide)
attribute [-simp] Tryz.isAgg26 Tryz.zeroValue26 Tryz.isAgg95 Tryz.zeroValue95
end Go.Proofs.YtbpdmkohihgnjaaGreatDoor
namespace Go.Proofs.YtbpdmkohihgnjaaGreatDoor
open Go.RowKit
set_option maxHeartbeats 8000000
set_option maxRecDepth 100000
theorem size61 : (Tryz.prog.info? 95).map (·.size) = some 24 := by kernel_rfl
theorem ag61x (a0 a1 a2 a3 a4 a5 a6 a7 b0 b1 b2 b3 b4 b5 b6 b7 c0 c1 c2 c3 c4 c5 c6 c7 : Int) : Tryz.prog.built 95 [(0, Ag [a0, a1, a2, a3, a4, a5, a6, a7]), (1, Ag [b0, b1, b2, b3, b4, b5, b6, b7]), (2, Ag [c0, c1, c2, c3, c4, c5, c6, c7])] = some ((quoL [a0, a1, a2, a3, a4, a5, a6, a7] [b0, b1, b2, b3, b4, b5, b6, b7] [c0, c1, c2, c3, c4, c5, c6, c7]).map (Value.int .u32)).toArray := by kernel_rfl
theorem ag61 (a b c : List Int) (ha : a.length = 8) (hb : b.length = 8) (hc : c.length = 8) : Tryz.prog.built 95 [(0, Ag a), (1, Ag b), (2, Ag c)] = some ((quoL a b c).map (Value.int .u32)).toArray :=
  match a, ha with
  | [a0, a1, a2, a3, a4, a5, a6, a7], _ =>
    match b, hb with
    | [b0, b1, b2, b3, b4, b5, b6, b7], _ =>
      match c, hc with
      | [c0, c1, c2, c3, c4, c5, c6, c7], _ => ag61x a0 a1 a2 a3 a4 a5 a6 a7 b0 b1 b2 b3 b4 b5 b6 b7 c0 c1 c2 c3 c4 c5 c6 c7
theorem wpList_build_r {ops : Array Oper} {rest : List Oper} {o : Oper} {a : Act} {w : World} {Q : Exit → Act → World → Prop} (hgd : o.guard = none) (x0 x1 x2 : Operand) (ho : o.op = .build 95 #[(0, x0), (1, x1), (2, x2)])
    (m d t : List Int) (hm : m.length = 8) (hd : d.length = 8) (ht : t.length = 8) (h0 : a.eval x0 = Ag m) (h1 : a.eval x1 = Ag d) (h2 : a.eval x2 = Ag t)
    (h : wpList Tryz.prog ops Q rest (a.put o.dst (.agg ((quoL m d t).map (Value.int .u32)).toArray)) w) : wpList Tryz.prog ops Q (o :: rest) a w :=
  wpList_build_f hgd 95 _ ho #[(0, Ag m), (1, Ag d), (2, Ag t)] (by simp only [List.map_toArray, List.map_cons, List.map_nil, h0, h1, h2]) _ (ag61 m d t hm hd ht) h
structure R0 (W : World) (Z : List Int) (w : World) : Prop where
  bl : Below W.heap.size W w
  b2 : Blk w W.heap.size .u32 95 Z
theorem R0.on {W : World} {Z : List Int} {w w' : World} (h : R0 W Z w) (hb : Below w.heap.size w w') : R0 W Z w' := ⟨below_on h.bl hb, h.b2.on hb⟩
attribute [-simp] Tryz.isAgg26 Tryz.zeroValue26 Tryz.isAgg95 Tryz.zeroValue95
end Go.Proofs.YtbpdmkohihgnjaaGreatDoor
