import Derived.Test.YtgbpbfnpeeciaaaGreatP33
import Derived.Test.YtgbpbfnpeeciaaaGreatP01
namespace Go.Proofs.YtgbpbfnpeeciaaaGreat
open Go.RowKit
set_option maxRecDepth 100000
set_option maxHeartbeats 8000000
theorem under31 : Tryz.prog.underlying 31 = some (.struct (Tryz.prog.fieldsOf 31)) := by kernel_rfl
theorem size31 : (Tryz.prog.info? 31).map (·.size) = some 4 := by kernel_rfl
theorem built_z31 : Tryz.prog.built 31 [] = some #[.bool false, .int .i64 0, .bool false, .bool false] := by kernel_rfl
theorem wpList_build_z31 {ops : Array Oper} {rest : List Oper} {o : Oper} {a : Act} {w : World} {Q : Exit → Act → World → Prop} (hgd : o.guard = none) (ho : o.op = .build 31 #[])
    (h : wpList Tryz.prog ops Q rest (a.put o.dst (.agg #[.bool false, .int .i64 0, .bool false, .bool false])) w) : wpList Tryz.prog ops Q (o :: rest) a w :=
  wpList_build_f hgd 31 _ ho #[] (by simp) _ built_z31 h
theorem psE_three (v : Int) : psE v = 0 ∨ psE v = 92 ∨ psE v = 90 := by
  unfold psE
  split
  · simp
  · split <;> simp
theorem rat_any (W : World) (p : Rp) (d : DS) (h : RDB W p d) (hU : d.m.U) (s va : Int) (v0 : 0 ≤ va) (v1 : va < 4294967296) :
    Calls Tryz.prog 41 #[ptr p.g, .int .i64 s, .int .u32 va] W fun x W' => x = .returned (.tuple #[(d.atM s va).v, .int .i64 (d.atE s va)]) ∧ Below W.heap.size W W' := by
  have HE := hid (fun (w : World) (hw : Below W.heap.size W w) => rplc_any w p d (h.on hw) hU s va v0 v1)
  have HP := hid (fun (w : World) (hw : Below W.heap.size W w) => rpeek_any w p.r d.m (h.on hw).mem true (pf (d.w1 s va)) (spJ va))
  have hw2 := hU.word true (pf (d.w1 s va)) (spJ va)
  have HPs := hid (fun (w : World) => rps_any w (d.w2 s va) hw2.1 hw2.2)
  have HH := hid (fun (w : World) (hw : Below W.heap.size W w) => rmhas_any w p.r d.m (h.on hw).mem (ps (d.w2 s va)).s (ps (d.w2 s va)).p)
  have HZ := hid (fun (w : World) (hw : Below W.heap.size W w) => (h.on hw).c0)
  have HF : Hid (d.atE s va = if d.fndE s va = 0 then (if psE (d.w2 s va) = 0 then (if (d.m.at (ps (d.w2 s va)).s (ps (d.w2 s va)).p).isSome then 0 else 90) else psE (d.w2 s va)) else d.fndE s va) := hid rfl
  have HFM : Hid (d.atM s va = if d.fndE s va = 0 then (if (if psE (d.w2 s va) = 0 then (if (d.m.at (ps (d.w2 s va)).s (ps (d.w2 s va)).p).isSome then 0 else 90) else psE (d.w2 s va)) = 0 then ps (d.w2 s va) else Mp.z) else Mp.z) := hid rfl
  have h3 := psE_three (d.w2 s va)
  have HW : Hid (d.m.word true (pf (d.w1 s va)) (spJ va) = d.w2 s va) := hid rfl
  rw [HW.out] at HP
  have HFX := HF.out
  have HMX := HFM.out
  have HB0 := hid (bag_one W 31 [.bool false, .int .i64 0, .bool false, .bool false])
  clear h hU HW v0 v1 HF HFM hw2
  generalize d.atE s va = F at *
  generalize d.atM s va = M at *
  generalize d.w2 s va = w9 at *
  generalize pf (d.w1 s va) = pg at *
  generalize spJ va = j at *
  generalize d.fndE s va = fo at *
  generalize psE w9 = pe at *
  have HPV : Hid ((ps w9).v = .agg #[.bool (ps w9).s, .int .i64 (ps w9).p, .bool (ps w9).wr, .bool (ps w9).ex]) := hid rfl
  rw [HPV.out] at HPs
  have HPC : Hid (ps w9 = ⟨(ps w9).s, (ps w9).p, (ps w9).wr, (ps w9).ex⟩) := hid rfl
  rw [HPC.out] at HMX
  clear HPV HPC
  generalize (ps w9).s = ms at *
  generalize (ps w9).p = mp at *
  generalize (ps w9).wr = mw at *
  generalize (ps w9).ex = mx at *
  generalize (d.m.at ms mp).isSome = hs at *
  have HC : Hid ((pe = 0 ∧ hs = true ∧ ((fo = 0 ∧ F = 0 ∧ M = ⟨ms, mp, mw, mx⟩) ∨ (fo ≠ 0 ∧ F = fo ∧ M = Mp.z))) ∨ (pe = 0 ∧ hs = false ∧ ((fo = 0 ∧ F = 90 ∧ M = Mp.z) ∨ (fo ≠ 0 ∧ F = fo ∧ M = Mp.z))) ∨ (pe = 92 ∧ ((fo = 0 ∧ F = 92 ∧ M = Mp.z) ∨ (fo ≠ 0 ∧ F = fo ∧ M = Mp.z))) ∨ (pe = 90 ∧ ((fo = 0 ∧ F = 90 ∧ M = Mp.z) ∨ (fo ≠ 0 ∧ F = fo ∧ M = Mp.z)))) := hid (by
    by_cases hfo : fo = 0
    · simp only [if_pos hfo] at HFX HMX
      rcases h3 with h | h | h
      · cases hs
        · right; left; simp [h] at HFX HMX; exact ⟨h, rfl, Or.inl ⟨hfo, HFX, HMX⟩⟩
        · left; simp [h] at HFX HMX; exact ⟨h, rfl, Or.inl ⟨hfo, HFX, HMX⟩⟩
      · right; right; left; simp [h] at HFX HMX; exact ⟨h, Or.inl ⟨hfo, HFX, HMX⟩⟩
      · right; right; right; simp [h] at HFX HMX; exact ⟨h, Or.inl ⟨hfo, HFX, HMX⟩⟩
    · simp only [if_neg hfo] at HFX HMX
      rcases h3 with h | h | h
      · cases hs
        · right; left; exact ⟨h, rfl, Or.inr ⟨hfo, HFX, HMX⟩⟩
        · left; exact ⟨h, rfl, Or.inr ⟨hfo, HFX, HMX⟩⟩
      · right; right; left; exact ⟨h, Or.inr ⟨hfo, HFX, HMX⟩⟩
      · right; right; right; exact ⟨h, Or.inr ⟨hfo, HFX, HMX⟩⟩)
  clear HFX HMX h3
  simp only [ptr] at *
  by_cases hfo : fo = 0
  · subst hfo
    rw [if_pos rfl, if_pos rfl] at HE
    go_enter Tryz.func41, Tryz.ntmps41
    go_upto_region 1 with fail
    generalize World.alloc W _ = w0 at *
    have HGE : Hid (W.heap.size ≤ W.heap.size) := hid (Nat.le_refl _)
    generalize hg6 : W.heap.size = g6 at HB0 HGE ⊢
    have HG6 : Hid (W.heap.size ≤ g6) := hid (Nat.le_of_eq hg6)
    clear hg6 HGE
    go_wp2_with fail
    refine (HE.out _ HB0.out.below).mono ?_
    rintro e w1 ⟨rfl, hb1⟩
    have HB1 := hid (HB0.out.on hb1)
    clear hb1 HE HB0
    go_upto_region 4 with fail
    refine wp_region_held_drew (S := fun w => Below W.heap.size W w) (by kernel_rfl) HB1.out.below.drew (fun hHeld => ?_)
    have HB2 := hid (HB1.out.on (Below.refl _ _).drew)
    clear HB1
    generalize World.drew _ = w2 at *
    refine tk 0 ⟨some 25, .move (.tmp 0), 45, "ref.go:170", #[], none⟩ (.pointer (some ⟨p.g, 0, none⟩)) ?_
    simp only [Act.put, List.setIfInBounds_toArray, List.set_cons_zero, List.set_cons_succ]
    refine tk 1 ⟨some 26, .nilCheck (.tmp 25), 0, "ref.go:170", #[⟨0, .data⟩], none⟩ (.pointer (some ⟨p.g, 0, none⟩)) ?_
    simp only [Act.put, List.setIfInBounds_toArray, List.set_cons_zero, List.set_cons_succ]
    refine tk 2 ⟨some 27, .fieldAddr 70 (.tmp 26) 0, 0, "ref.go:170", #[⟨1, .data⟩], none⟩ (.pointer (some ⟨p.g, 0, none⟩)) ?_
    simp only [Act.put, List.setIfInBounds_toArray, List.set_cons_zero, List.set_cons_succ]
    refine tk 3 ⟨some 28, .load 40 (.tmp 27), 40, "ref.go:170", #[⟨2, .data⟩], none⟩ (.pointer (some ⟨p.r.g, 0, none⟩)) ?_ (hy := Or.inl ⟨by rfl, by intro w hSw; have z := HZ.out w hSw; go_simp⟩)
    simp only [Act.put, List.setIfInBounds_toArray, List.set_cons_zero, List.set_cons_succ]
    refine tk 4 ⟨some 29, .move (.tmp 8), 3, "ref.go:170", #[], none⟩ (.int .i64 pg) ?_
    simp only [Act.put, List.setIfInBounds_toArray, List.set_cons_zero, List.set_cons_succ]
    refine tk 6 ⟨some 31, .move (.tmp 9), 3, "ref.go:170", #[], none⟩ (.int .i64 j) ?_
    simp only [Act.put, List.setIfInBounds_toArray, List.set_cons_zero, List.set_cons_succ]
    refine wpAnyH_ready (rs := [5, 12]) (by kernel_rfl) (by simp) (AllReadyH.cons (o := ⟨some 30, .call { callee := .value (.func 74), args := #[.tmp 29], argTypes := #[3] }, 72, "ref.go:170", #[⟨4, .data⟩], none⟩) rfl (fun KQ hK => ?_) (AllReadyH.cons (o := ⟨some 11, .alloc 31, 0, "ref.go:170", #[], none⟩) rfl (fun KQ hK => ?_) AllReadyH.nil))
    · go_simp
      refine (rsec_any _ pg).mono ?_
      rintro e w3 ⟨rfl, hb⟩
      have HB3 := hid (HB2.out.on hb)
      clear hb HB2
      go_wp2_with fail
      refine hK.out _ _ HB3.out.below (fun hHeld => ?_)
      clear hK KQ
      try simp only [Act.put, List.setIfInBounds_toArray, List.set_cons_zero, List.set_cons_succ]
      refine wpAnyH_ready (rs := [7, 12]) (by kernel_rfl) (by simp) (AllReadyH.cons (o := ⟨some 32, .call { callee := .value (.func 51), args := #[.tmp 28, .tmp 30, .tmp 31], argTypes := #[40, 72, 3] }, 29, "ref.go:170", #[⟨3, .data⟩, ⟨5, .data⟩, ⟨6, .data⟩, ⟨5, .chain⟩], none⟩) rfl (fun KQ hK => ?_) (AllReadyH.cons (o := ⟨some 11, .alloc 31, 0, "ref.go:170", #[], none⟩) rfl (fun KQ hK => ?_) AllReadyH.nil))
      · go_simp
        refine (HP.out _ HB3.out.below).mono ?_
        rintro e w4 ⟨rfl, hb⟩
        have HB4 := hid (HB3.out.on hb)
        clear hb HB3
        go_wp2_with fail
        refine hK.out _ _ HB4.out.below (fun hHeld => ?_)
        clear hK KQ
        try simp only [Act.put, List.setIfInBounds_toArray, List.set_cons_zero, List.set_cons_succ]
        refine wpAnyH_ready (rs := [8, 12]) (by kernel_rfl) (by simp) (AllReadyH.cons (o := ⟨some 33, .call { callee := .value (.func 93), args := #[.tmp 32], argTypes := #[29] }, 93, "ref.go:170", #[⟨7, .data⟩, ⟨7, .chain⟩], none⟩) rfl (fun KQ hK => ?_) (AllReadyH.cons (o := ⟨some 11, .alloc 31, 0, "ref.go:170", #[], none⟩) rfl (fun KQ hK => ?_) AllReadyH.nil))
        · go_simp
          refine (HPs.out _).mono ?_
          rintro e w5 ⟨rfl, hb⟩
          have HB5 := hid (HB4.out.on hb)
          clear hb HB4
          go_wp2_with fail
          refine hK.out _ _ HB5.out.below (fun hHeld => ?_)
          clear hK KQ
          try simp only [Act.put, List.setIfInBounds_toArray, List.set_cons_zero, List.set_cons_succ]
          refine tk 9 ⟨some 24, .move (.tmp 33), 93, "ref.go:170", #[⟨8, .data⟩], none⟩ (.tuple #[.agg #[.bool ms, .int .i64 mp, .bool mw, .bool mx], .int .i64 pe]) ?_
          simp only [Act.put, List.setIfInBounds_toArray, List.set_cons_zero, List.set_cons_succ]
          refine tk 10 ⟨some 34, .extract (.tmp 24) 0, 31, "ref.go:170", #[⟨9, .data⟩], none⟩ (.agg #[.bool ms, .int .i64 mp, .bool mw, .bool mx]) ?_
          simp only [Act.put, List.setIfInBounds_toArray, List.set_cons_zero, List.set_cons_succ]
          refine tk 11 ⟨some 35, .extract (.tmp 24) 1, 3, "ref.go:170", #[⟨9, .data⟩, { on := 13, ground := .gcOnly Departure.lateStores }], none⟩ (.int .i64 pe) ?_
          simp only [Act.put, List.setIfInBounds_toArray, List.set_cons_zero, List.set_cons_succ]
          refine wpAnyH_ready (rs := [12]) (by kernel_rfl) (by simp) (AllReadyH.cons (o := ⟨some 11, .alloc 31, 0, "ref.go:170", #[], none⟩) rfl (fun KQ hK => ?_) AllReadyH.nil)
          go_simp
          have HB6 : Hid (Bag W ((w5).alloc (.cells #[.bool false, .int .i64 0, .bool false, .bool false] 31)) [(w5.heap.size, 31, [.bool false, .int .i64 0, .bool false, .bool false]), (g6, 31, [.bool false, .int .i64 0, .bool false, .bool false])]) := hid (HB5.out.new 31 [.bool false, .int .i64 0, .bool false, .bool false])
          have HNE : Hid (w5.heap.size ≠ g6) := hid (by have := (HB5.out.get 0 rfl).lt; omega)
          have HG11 : Hid (W.heap.size ≤ w5.heap.size) := hid HB5.out.below.size
          clear HB5
          generalize World.alloc w5 _ = w6 at *
          generalize w5.heap.size = g11 at *
          refine hK.out _ _ HB6.out.below (fun hHeld => ?_)
          clear hK KQ
          try simp only [Act.put, List.setIfInBounds_toArray, List.set_cons_zero, List.set_cons_succ]
          refine wpAnyH_ready (rs := [13]) (by kernel_rfl) (by simp) (AllReadyH.cons (o := ⟨none, .store 31 (.tmp 11) (.tmp 34), 0, "ref.go:170", #[⟨12, .data⟩, ⟨10, .data⟩, ⟨8, .chain⟩, ⟨0, .phase⟩, ⟨1, .phase⟩, ⟨2, .phase⟩, ⟨3, .phase⟩, ⟨4, .phase⟩, ⟨5, .phase⟩, ⟨6, .phase⟩, ⟨7, .phase⟩, ⟨8, .phase⟩, ⟨9, .phase⟩, ⟨10, .phase⟩, { on := 11, ground := .textOnly Departure.lateStores }, ⟨12, .phase⟩], none⟩) rfl (fun KQ hK => ?_) AllReadyH.nil)
          rw [if_pos (by rfl)]
          refine wp_store_st 31 _ _ rfl g11 [.bool ms, .int .i64 mp, .bool mw, .bool mx] rfl rfl (HB6.out.get 0 rfl) size31 rfl rfl ?_
          intro w7 hc hb hs
          have HB7 : Hid (Bag W w7 [(g11, 31, [.bool ms, .int .i64 mp, .bool mw, .bool mx]), (g6, 31, [.bool false, .int .i64 0, .bool false, .bool false])]) := hid (HB6.out.put 0 rfl HG11.out (fun i q hq hn => by rcases i with _ | _ | i; exact absurd rfl hn; (simp only [List.getElem?_cons_succ, List.getElem?_cons_zero, Option.some.injEq] at hq; subst hq; exact fun e => HNE.out e.symm); (simp at hq)) hc hb)
          clear hc hb hs HB6
          refine hK.out _ _ HB7.out.below (fun hHeld => ?_)
          clear hK KQ
          try simp only [Act.put]
          refine wpAnyH_ready (rs := [14]) (by kernel_rfl) (by simp) (AllReadyH.cons (o := ⟨some 10, .assign (.tmp 35), 3, "ref.go:170", #[⟨11, .data⟩, ⟨13, .chain⟩, ⟨0, .phase⟩, ⟨1, .phase⟩, ⟨2, .phase⟩, ⟨3, .phase⟩, ⟨4, .phase⟩, ⟨5, .phase⟩, ⟨6, .phase⟩, ⟨7, .phase⟩, ⟨8, .phase⟩, ⟨9, .phase⟩, ⟨10, .phase⟩, ⟨11, .phase⟩, ⟨12, .phase⟩, ⟨13, .phase⟩], none⟩) rfl (fun KQ hK => ?_) AllReadyH.nil)
          go_simp
          refine hK.out _ _ HB7.out.below (fun hHeld => ?_)
          clear hK KQ
          try simp only [Act.put, List.setIfInBounds_toArray, List.set_cons_zero, List.set_cons_succ]
          refine wpAnyH_done (by kernel_rfl) ?_ _
          have HB9 := hid HB7.out
          clear HB7
          rcases HC.out with ⟨rfl, rfl, ⟨-, rfl, rfl⟩ | ⟨h, -⟩⟩ | ⟨rfl, rfl, ⟨-, rfl, rfl⟩ | ⟨h, -⟩⟩ | ⟨rfl, ⟨-, rfl, rfl⟩ | ⟨h, -⟩⟩ | ⟨rfl, ⟨-, rfl, rfl⟩ | ⟨h, -⟩⟩
          · clear HC
            try simp only [Mp.v]
            go_upto_region 7 with fail
            refine wp_region_held_drew (S := fun w => Bag W w [(g11, 31, [.bool ms, .int .i64 mp, .bool mw, .bool mx]), (g6, 31, [.bool false, .int .i64 0, .bool false, .bool false])]) (by kernel_rfl) (HB9.out.on (Below.refl _ _).drew) (fun hHeld => ?_)
            have HB9b := hid (HB9.out.on (Below.refl _ _).drew)
            clear HB9
            have HB9 := HB9b
            clear HB9b
            generalize World.drew _ = w7 at *
            refine tk 0 ⟨some 39, .move (.tmp 10), 3, "ref.go:174", #[], none⟩ (.int .i64 0) ?_
            simp only [Act.put, List.setIfInBounds_toArray, List.set_cons_zero, List.set_cons_succ]
            refine tk 1 ⟨some 40, .binOp .neq 3 (.tmp 39) (.const (.int .i64 0)) 3, 4, "ref.go:174", #[⟨0, .data⟩], none⟩ (.bool false) ?_
            simp only [Act.put, List.setIfInBounds_toArray, List.set_cons_zero, List.set_cons_succ]
            refine tk 2 ⟨some 41, .move (.tmp 40), 4, "ref.go:174", #[⟨1, .data⟩], none⟩ (.bool false) ?_
            simp only [Act.put, List.setIfInBounds_toArray, List.set_cons_zero, List.set_cons_succ]
            refine tk 3 ⟨some 42, .move (.tmp 0), 45, "ref.go:174", #[⟨2, .guard⟩], some (2, false)⟩ (.pointer (some ⟨p.g, 0, none⟩)) ?_
            simp only [Act.put, List.setIfInBounds_toArray, List.set_cons_zero, List.set_cons_succ]
            refine tk 4 ⟨some 43, .nilCheck (.tmp 42), 0, "ref.go:174", #[⟨3, .data⟩, ⟨2, .guard⟩], some (2, false)⟩ (.pointer (some ⟨p.g, 0, none⟩)) ?_
            simp only [Act.put, List.setIfInBounds_toArray, List.set_cons_zero, List.set_cons_succ]
            refine tk 5 ⟨some 44, .fieldAddr 70 (.tmp 43) 0, 0, "ref.go:174", #[⟨4, .data⟩, ⟨2, .guard⟩], some (2, false)⟩ (.pointer (some ⟨p.g, 0, none⟩)) ?_
            simp only [Act.put, List.setIfInBounds_toArray, List.set_cons_zero, List.set_cons_succ]
            refine tk 6 ⟨some 45, .load 40 (.tmp 44), 40, "ref.go:174", #[⟨5, .data⟩, ⟨2, .guard⟩], some (2, false)⟩ (.pointer (some ⟨p.r.g, 0, none⟩)) ?_ (hy := Or.inl ⟨by rfl, by intro w hSw; have z := HZ.out w hSw.below; go_simp⟩)
            simp only [Act.put, List.setIfInBounds_toArray, List.set_cons_zero, List.set_cons_succ]
            refine tk 7 ⟨some 46, .fieldAddr 31 (.tmp 11) 0, 0, "ref.go:174", #[⟨2, .guard⟩], some (2, false)⟩ (.pointer (some ⟨g11, 0, none⟩)) ?_
            simp only [Act.put, List.setIfInBounds_toArray, List.set_cons_zero, List.set_cons_succ]
            refine tk 8 ⟨some 47, .load 4 (.tmp 46), 4, "ref.go:174", #[⟨7, .data⟩, ⟨2, .guard⟩], some (2, false)⟩ (.bool ms) ?_ (hy := Or.inl ⟨by rfl, by intro w hSw; have z := (hSw.get 0 rfl).cell 0; simp only [List.getElem?_cons_zero] at z; go_simp⟩)
            simp only [Act.put, List.setIfInBounds_toArray, List.set_cons_zero, List.set_cons_succ]
            refine tk 9 ⟨some 48, .fieldAddr 31 (.tmp 11) 1, 0, "ref.go:174", #[⟨2, .guard⟩], some (2, false)⟩ (.pointer (some ⟨g11, 1, none⟩)) ?_
            simp only [Act.put, List.setIfInBounds_toArray, List.set_cons_zero, List.set_cons_succ]
            refine tk 10 ⟨some 49, .load 3 (.tmp 48), 3, "ref.go:174", #[⟨9, .data⟩, ⟨2, .guard⟩], some (2, false)⟩ (.int .i64 mp) ?_ (hy := Or.inl ⟨by rfl, by intro w hSw; have z := (hSw.get 0 rfl).cell 1; simp only [List.getElem?_cons_zero, List.getElem?_cons_succ] at z; go_simp⟩)
            simp only [Act.put, List.setIfInBounds_toArray, List.set_cons_zero, List.set_cons_succ]
            refine tk 11 ⟨some 50, .build 72 #[(0, .tmp 47), (1, .tmp 49)], 72, "ref.go:174", #[⟨8, .data⟩, ⟨10, .data⟩, ⟨2, .guard⟩], some (2, false)⟩ (.agg #[.bool ms, .int .i64 mp]) ?_
            simp only [Act.put, List.setIfInBounds_toArray, List.set_cons_zero, List.set_cons_succ]
            refine wpAnyH_ready (rs := [12]) (by kernel_rfl) (by simp) (AllReadyH.cons (o := ⟨some 51, .call { callee := .value (.func 94), args := #[.tmp 45, .tmp 50], argTypes := #[40, 72] }, 4, "ref.go:174", #[⟨6, .data⟩, ⟨11, .data⟩, ⟨2, .chain⟩, ⟨2, .guard⟩], some (2, false)⟩) rfl (fun KQ hK => ?_) AllReadyH.nil)
            go_simp
            refine (HH.out _ HB9.out.below).mono ?_
            rintro e w8 ⟨rfl, hb8⟩
            have HB8 := hid (HB9.out.on hb8)
            clear hb8 HB9
            go_wp2_with fail
            refine hK.out _ _ HB8.out (fun hHeld => ?_)
            clear hK KQ
            try simp only [Act.put, List.setIfInBounds_toArray, List.set_cons_zero, List.set_cons_succ]
            refine tk 13 ⟨some 52, .unOp .not 4 (.tmp 51), 4, "ref.go:174", #[⟨12, .data⟩, ⟨2, .guard⟩], some (2, false)⟩ (.bool false) ?_
            simp only [Act.put, List.setIfInBounds_toArray, List.set_cons_zero, List.set_cons_succ]
            refine tk 14 ⟨some 53, .pick (.tmp 41) (.const (.bool true)) (.tmp 52), 4, "ref.go:174", #[⟨2, .data⟩, ⟨13, .data⟩], none⟩ (.bool false) ?_
            simp only [Act.put, List.setIfInBounds_toArray, List.set_cons_zero, List.set_cons_succ]
            refine wpAnyH_done (by kernel_rfl) ?_ _
            go_wp2_with (first | (refine wpList_load_g rfl 31 _ rfl g11 rfl (HB8.out.get 0 rfl) rfl under31 size31 ?_) | (refine wpList_store_st rfl 31 _ _ rfl g6 [.bool ms, .int .i64 mp, .bool mw, .bool mx] rfl rfl (HB8.out.get 1 rfl) size31 rfl rfl ?_; intro w9 hc hb hs; have HX := hid (And.intro hc (HB8.out.below.trans (hb.below (by have := HG6.out; simp; omega) HB8.out.below.size))); clear hc hb hs))
            exact ret_st2 rfl rfl g6 _ rfl HX.out.1 under31 rfl size31 ⟨rfl, HX.out.2⟩
          · exact absurd rfl h
          · clear HC
            try simp only [Mp.v, Mp.z]
            go_upto_region 7 with fail
            refine wp_region_held_drew (S := fun w => Bag W w [(g11, 31, [.bool ms, .int .i64 mp, .bool mw, .bool mx]), (g6, 31, [.bool false, .int .i64 0, .bool false, .bool false])]) (by kernel_rfl) (HB9.out.on (Below.refl _ _).drew) (fun hHeld => ?_)
            have HB9b := hid (HB9.out.on (Below.refl _ _).drew)
            clear HB9
            have HB9 := HB9b
            clear HB9b
            generalize World.drew _ = w7 at *
            refine tk 0 ⟨some 39, .move (.tmp 10), 3, "ref.go:174", #[], none⟩ (.int .i64 0) ?_
            simp only [Act.put, List.setIfInBounds_toArray, List.set_cons_zero, List.set_cons_succ]
            refine tk 1 ⟨some 40, .binOp .neq 3 (.tmp 39) (.const (.int .i64 0)) 3, 4, "ref.go:174", #[⟨0, .data⟩], none⟩ (.bool false) ?_
            simp only [Act.put, List.setIfInBounds_toArray, List.set_cons_zero, List.set_cons_succ]
            refine tk 2 ⟨some 41, .move (.tmp 40), 4, "ref.go:174", #[⟨1, .data⟩], none⟩ (.bool false) ?_
            simp only [Act.put, List.setIfInBounds_toArray, List.set_cons_zero, List.set_cons_succ]
            refine tk 3 ⟨some 42, .move (.tmp 0), 45, "ref.go:174", #[⟨2, .guard⟩], some (2, false)⟩ (.pointer (some ⟨p.g, 0, none⟩)) ?_
            simp only [Act.put, List.setIfInBounds_toArray, List.set_cons_zero, List.set_cons_succ]
            refine tk 4 ⟨some 43, .nilCheck (.tmp 42), 0, "ref.go:174", #[⟨3, .data⟩, ⟨2, .guard⟩], some (2, false)⟩ (.pointer (some ⟨p.g, 0, none⟩)) ?_
            simp only [Act.put, List.setIfInBounds_toArray, List.set_cons_zero, List.set_cons_succ]
            refine tk 5 ⟨some 44, .fieldAddr 70 (.tmp 43) 0, 0, "ref.go:174", #[⟨4, .data⟩, ⟨2, .guard⟩], some (2, false)⟩ (.pointer (some ⟨p.g, 0, none⟩)) ?_
            simp only [Act.put, List.setIfInBounds_toArray, List.set_cons_zero, List.set_cons_succ]
            refine tk 6 ⟨some 45, .load 40 (.tmp 44), 40, "ref.go:174", #[⟨5, .data⟩, ⟨2, .guard⟩], some (2, false)⟩ (.pointer (some ⟨p.r.g, 0, none⟩)) ?_ (hy := Or.inl ⟨by rfl, by intro w hSw; have z := HZ.out w hSw.below; go_simp⟩)
            simp only [Act.put, List.setIfInBounds_toArray, List.set_cons_zero, List.set_cons_succ]
            refine tk 7 ⟨some 46, .fieldAddr 31 (.tmp 11) 0, 0, "ref.go:174", #[⟨2, .guard⟩], some (2, false)⟩ (.pointer (some ⟨g11, 0, none⟩)) ?_
            simp only [Act.put, List.setIfInBounds_toArray, List.set_cons_zero, List.set_cons_succ]
            refine tk 8 ⟨some 47, .load 4 (.tmp 46), 4, "ref.go:174", #[⟨7, .data⟩, ⟨2, .guard⟩], some (2, false)⟩ (.bool ms) ?_ (hy := Or.inl ⟨by rfl, by intro w hSw; have z := (hSw.get 0 rfl).cell 0; simp only [List.getElem?_cons_zero] at z; go_simp⟩)
            simp only [Act.put, List.setIfInBounds_toArray, List.set_cons_zero, List.set_cons_succ]
            refine tk 9 ⟨some 48, .fieldAddr 31 (.tmp 11) 1, 0, "ref.go:174", #[⟨2, .guard⟩], some (2, false)⟩ (.pointer (some ⟨g11, 1, none⟩)) ?_
            simp only [Act.put, List.setIfInBounds_toArray, List.set_cons_zero, List.set_cons_succ]
            refine tk 10 ⟨some 49, .load 3 (.tmp 48), 3, "ref.go:174", #[⟨9, .data⟩, ⟨2, .guard⟩], some (2, false)⟩ (.int .i64 mp) ?_ (hy := Or.inl ⟨by rfl, by intro w hSw; have z := (hSw.get 0 rfl).cell 1; simp only [List.getElem?_cons_zero, List.getElem?_cons_succ] at z; go_simp⟩)
            simp only [Act.put, List.setIfInBounds_toArray, List.set_cons_zero, List.set_cons_succ]
            refine tk 11 ⟨some 50, .build 72 #[(0, .tmp 47), (1, .tmp 49)], 72, "ref.go:174", #[⟨8, .data⟩, ⟨10, .data⟩, ⟨2, .guard⟩], some (2, false)⟩ (.agg #[.bool ms, .int .i64 mp]) ?_
            simp only [Act.put, List.setIfInBounds_toArray, List.set_cons_zero, List.set_cons_succ]
            refine wpAnyH_ready (rs := [12]) (by kernel_rfl) (by simp) (AllReadyH.cons (o := ⟨some 51, .call { callee := .value (.func 94), args := #[.tmp 45, .tmp 50], argTypes := #[40, 72] }, 4, "ref.go:174", #[⟨6, .data⟩, ⟨11, .data⟩, ⟨2, .chain⟩, ⟨2, .guard⟩], some (2, false)⟩) rfl (fun KQ hK => ?_) AllReadyH.nil)
            go_simp
            refine (HH.out _ HB9.out.below).mono ?_
            rintro e w8 ⟨rfl, hb8⟩
            have HB8 := hid (HB9.out.on hb8)
            clear hb8 HB9
            go_wp2_with fail
            refine hK.out _ _ HB8.out (fun hHeld => ?_)
            clear hK KQ
            try simp only [Act.put, List.setIfInBounds_toArray, List.set_cons_zero, List.set_cons_succ]
            refine tk 13 ⟨some 52, .unOp .not 4 (.tmp 51), 4, "ref.go:174", #[⟨12, .data⟩, ⟨2, .guard⟩], some (2, false)⟩ (.bool true) ?_
            simp only [Act.put, List.setIfInBounds_toArray, List.set_cons_zero, List.set_cons_succ]
            refine tk 14 ⟨some 53, .pick (.tmp 41) (.const (.bool true)) (.tmp 52), 4, "ref.go:174", #[⟨2, .data⟩, ⟨13, .data⟩], none⟩ (.bool true) ?_
            simp only [Act.put, List.setIfInBounds_toArray, List.set_cons_zero, List.set_cons_succ]
            refine wpAnyH_done (by kernel_rfl) ?_ _
            go_wp2_with (first | (refine wpList_build_z31 rfl rfl ?_) | (refine wpList_store_st rfl 31 _ _ rfl g6 [.bool false, .int .i64 0, .bool false, .bool false] rfl rfl (HB8.out.get 1 rfl) size31 rfl rfl ?_; intro w9 hc hb hs; have HX := hid (And.intro hc (HB8.out.below.trans (hb.below (by have := HG6.out; simp; omega) HB8.out.below.size))); clear hc hb hs))
            exact ret_st2 rfl rfl g6 _ rfl HX.out.1 under31 rfl size31 ⟨rfl, HX.out.2⟩
          · exact absurd rfl h
          · clear HC
            try simp only [Mp.v, Mp.z]
            go_wp2_with (first | (refine wpList_build_z31 rfl rfl ?_) | (refine wpList_store_st rfl 31 _ _ rfl g6 [.bool false, .int .i64 0, .bool false, .bool false] rfl rfl (HB9.out.get 1 rfl) size31 rfl rfl ?_; intro w9 hc hb hs; have HX := hid (And.intro hc (HB9.out.below.trans (hb.below (by have := HG6.out; simp; omega) HB9.out.below.size))); clear hc hb hs))
            exact ret_st2 rfl rfl g6 _ rfl HX.out.1 under31 rfl size31 ⟨rfl, HX.out.2⟩
          · exact absurd rfl h
          · clear HC
            try simp only [Mp.v, Mp.z]
            go_upto_region 7 with fail
            refine wp_region_held_drew (S := fun w => Bag W w [(g11, 31, [.bool ms, .int .i64 mp, .bool mw, .bool mx]), (g6, 31, [.bool false, .int .i64 0, .bool false, .bool false])]) (by kernel_rfl) (HB9.out.on (Below.refl _ _).drew) (fun hHeld => ?_)
            have HB9b := hid (HB9.out.on (Below.refl _ _).drew)
            clear HB9
            have HB9 := HB9b
            clear HB9b
            generalize World.drew _ = w7 at *
            refine tk 0 ⟨some 39, .move (.tmp 10), 3, "ref.go:174", #[], none⟩ (.int .i64 90) ?_
            simp only [Act.put, List.setIfInBounds_toArray, List.set_cons_zero, List.set_cons_succ]
            refine tk 1 ⟨some 40, .binOp .neq 3 (.tmp 39) (.const (.int .i64 0)) 3, 4, "ref.go:174", #[⟨0, .data⟩], none⟩ (.bool true) ?_
            simp only [Act.put, List.setIfInBounds_toArray, List.set_cons_zero, List.set_cons_succ]
            refine tk 2 ⟨some 41, .move (.tmp 40), 4, "ref.go:174", #[⟨1, .data⟩], none⟩ (.bool true) ?_
            simp only [Act.put, List.setIfInBounds_toArray, List.set_cons_zero, List.set_cons_succ]
            refine tk 3 ⟨some 42, .move (.tmp 0), 45, "ref.go:174", #[⟨2, .guard⟩], some (2, false)⟩ undef ?_ (hy := Or.inr ⟨by rfl, rfl⟩)
            simp only [Act.put, List.setIfInBounds_toArray, List.set_cons_zero, List.set_cons_succ]
            refine tk 4 ⟨some 43, .nilCheck (.tmp 42), 0, "ref.go:174", #[⟨3, .data⟩, ⟨2, .guard⟩], some (2, false)⟩ undef ?_ (hy := Or.inr ⟨by rfl, rfl⟩)
            simp only [Act.put, List.setIfInBounds_toArray, List.set_cons_zero, List.set_cons_succ]
            refine tk 5 ⟨some 44, .fieldAddr 70 (.tmp 43) 0, 0, "ref.go:174", #[⟨4, .data⟩, ⟨2, .guard⟩], some (2, false)⟩ undef ?_ (hy := Or.inr ⟨by rfl, rfl⟩)
            simp only [Act.put, List.setIfInBounds_toArray, List.set_cons_zero, List.set_cons_succ]
            refine tk 6 ⟨some 45, .load 40 (.tmp 44), 40, "ref.go:174", #[⟨5, .data⟩, ⟨2, .guard⟩], some (2, false)⟩ undef ?_ (hy := Or.inr ⟨by rfl, rfl⟩)
            simp only [Act.put, List.setIfInBounds_toArray, List.set_cons_zero, List.set_cons_succ]
            refine tk 7 ⟨some 46, .fieldAddr 31 (.tmp 11) 0, 0, "ref.go:174", #[⟨2, .guard⟩], some (2, false)⟩ undef ?_ (hy := Or.inr ⟨by rfl, rfl⟩)
            simp only [Act.put, List.setIfInBounds_toArray, List.set_cons_zero, List.set_cons_succ]
            refine tk 8 ⟨some 47, .load 4 (.tmp 46), 4, "ref.go:174", #[⟨7, .data⟩, ⟨2, .guard⟩], some (2, false)⟩ undef ?_ (hy := Or.inr ⟨by rfl, rfl⟩)
            simp only [Act.put, List.setIfInBounds_toArray, List.set_cons_zero, List.set_cons_succ]
            refine tk 9 ⟨some 48, .fieldAddr 31 (.tmp 11) 1, 0, "ref.go:174", #[⟨2, .guard⟩], some (2, false)⟩ undef ?_ (hy := Or.inr ⟨by rfl, rfl⟩)
            simp only [Act.put, List.setIfInBounds_toArray, List.set_cons_zero, List.set_cons_succ]
            refine tk 10 ⟨some 49, .load 3 (.tmp 48), 3, "ref.go:174", #[⟨9, .data⟩, ⟨2, .guard⟩], some (2, false)⟩ undef ?_ (hy := Or.inr ⟨by rfl, rfl⟩)
            simp only [Act.put, List.setIfInBounds_toArray, List.set_cons_zero, List.set_cons_succ]
            refine tk 11 ⟨some 50, .build 72 #[(0, .tmp 47), (1, .tmp 49)], 72, "ref.go:174", #[⟨8, .data⟩, ⟨10, .data⟩, ⟨2, .guard⟩], some (2, false)⟩ undef ?_ (hy := Or.inr ⟨by rfl, rfl⟩)
            simp only [Act.put, List.setIfInBounds_toArray, List.set_cons_zero, List.set_cons_succ]
            refine tk 12 ⟨some 51, .call { callee := .value (.func 94), args := #[.tmp 45, .tmp 50], argTypes := #[40, 72] }, 4, "ref.go:174", #[⟨6, .data⟩, ⟨11, .data⟩, ⟨2, .chain⟩, ⟨2, .guard⟩], some (2, false)⟩ undef ?_ (hy := Or.inr ⟨by rfl, rfl⟩)
            simp only [Act.put, List.setIfInBounds_toArray, List.set_cons_zero, List.set_cons_succ]
            refine tk 13 ⟨some 52, .unOp .not 4 (.tmp 51), 4, "ref.go:174", #[⟨12, .data⟩, ⟨2, .guard⟩], some (2, false)⟩ undef ?_ (hy := Or.inr ⟨by rfl, rfl⟩)
            simp only [Act.put, List.setIfInBounds_toArray, List.set_cons_zero, List.set_cons_succ]
            refine tk 14 ⟨some 53, .pick (.tmp 41) (.const (.bool true)) (.tmp 52), 4, "ref.go:174", #[⟨2, .data⟩, ⟨13, .data⟩], none⟩ (.bool true) ?_
            simp only [Act.put, List.setIfInBounds_toArray, List.set_cons_zero, List.set_cons_succ]
            refine wpAnyH_done (by kernel_rfl) ?_ _
            go_wp2_with (first | (refine wpList_build_z31 rfl rfl ?_) | (refine wpList_store_st rfl 31 _ _ rfl g6 [.bool false, .int .i64 0, .bool false, .bool false] rfl rfl (HB9.out.get 1 rfl) size31 rfl rfl ?_; intro w9 hc hb hs; have HX := hid (And.intro hc (HB9.out.below.trans (hb.below (by have := HG6.out; simp; omega) HB9.out.below.size))); clear hc hb hs))
            exact ret_st2 rfl rfl g6 _ rfl HX.out.1 under31 rfl size31 ⟨rfl, HX.out.2⟩
          · exact absurd rfl h
        · go_simp
          have HB5 : Hid (Bag W ((w4).alloc (.cells #[.bool false, .int .i64 0, .bool false, .bool false] 31)) [(w4.heap.size, 31, [.bool false, .int .i64 0, .bool false, .bool false]), (g6, 31, [.bool false, .int .i64 0, .bool false, .bool false])]) := hid (HB4.out.new 31 [.bool false, .int .i64 0, .bool false, .bool false])
          have HNE : Hid (w4.heap.size ≠ g6) := hid (by have := (HB4.out.get 0 rfl).lt; omega)
          have HG11 : Hid (W.heap.size ≤ w4.heap.size) := hid HB4.out.below.size
          clear HB4
          generalize World.alloc w4 _ = w5 at *
          generalize w4.heap.size = g11 at *
          refine hK.out _ _ HB5.out.below (fun hHeld => ?_)
          clear hK KQ
          try simp only [Act.put, List.setIfInBounds_toArray, List.set_cons_zero, List.set_cons_succ]
          refine wpAnyH_ready (rs := [8]) (by kernel_rfl) (by simp) (AllReadyH.cons (o := ⟨some 33, .call { callee := .value (.func 93), args := #[.tmp 32], argTypes := #[29] }, 93, "ref.go:170", #[⟨7, .data⟩, ⟨7, .chain⟩], none⟩) rfl (fun KQ hK => ?_) AllReadyH.nil)
          go_simp
          refine (HPs.out _).mono ?_
          rintro e w6 ⟨rfl, hb⟩
          have HB6 := hid (HB5.out.on hb)
          clear hb HB5
          go_wp2_with fail
          refine hK.out _ _ HB6.out.below (fun hHeld => ?_)
          clear hK KQ
          try simp only [Act.put, List.setIfInBounds_toArray, List.set_cons_zero, List.set_cons_succ]
          refine tk 9 ⟨some 24, .move (.tmp 33), 93, "ref.go:170", #[⟨8, .data⟩], none⟩ (.tuple #[.agg #[.bool ms, .int .i64 mp, .bool mw, .bool mx], .int .i64 pe]) ?_
          simp only [Act.put, List.setIfInBounds_toArray, List.set_cons_zero, List.set_cons_succ]
          refine tk 10 ⟨some 34, .extract (.tmp 24) 0, 31, "ref.go:170", #[⟨9, .data⟩], none⟩ (.agg #[.bool ms, .int .i64 mp, .bool mw, .bool mx]) ?_
          simp only [Act.put, List.setIfInBounds_toArray, List.set_cons_zero, List.set_cons_succ]
          refine tk 11 ⟨some 35, .extract (.tmp 24) 1, 3, "ref.go:170", #[⟨9, .data⟩, { on := 13, ground := .gcOnly Departure.lateStores }], none⟩ (.int .i64 pe) ?_
          simp only [Act.put, List.setIfInBounds_toArray, List.set_cons_zero, List.set_cons_succ]
          refine wpAnyH_ready (rs := [13]) (by kernel_rfl) (by simp) (AllReadyH.cons (o := ⟨none, .store 31 (.tmp 11) (.tmp 34), 0, "ref.go:170", #[⟨12, .data⟩, ⟨10, .data⟩, ⟨8, .chain⟩, ⟨0, .phase⟩, ⟨1, .phase⟩, ⟨2, .phase⟩, ⟨3, .phase⟩, ⟨4, .phase⟩, ⟨5, .phase⟩, ⟨6, .phase⟩, ⟨7, .phase⟩, ⟨8, .phase⟩, ⟨9, .phase⟩, ⟨10, .phase⟩, { on := 11, ground := .textOnly Departure.lateStores }, ⟨12, .phase⟩], none⟩) rfl (fun KQ hK => ?_) AllReadyH.nil)
          rw [if_pos (by rfl)]
          refine wp_store_st 31 _ _ rfl g11 [.bool ms, .int .i64 mp, .bool mw, .bool mx] rfl rfl (HB6.out.get 0 rfl) size31 rfl rfl ?_
          intro w7 hc hb hs
          have HB7 : Hid (Bag W w7 [(g11, 31, [.bool ms, .int .i64 mp, .bool mw, .bool mx]), (g6, 31, [.bool false, .int .i64 0, .bool false, .bool false])]) := hid (HB6.out.put 0 rfl HG11.out (fun i q hq hn => by rcases i with _ | _ | i; exact absurd rfl hn; (simp only [List.getElem?_cons_succ, List.getElem?_cons_zero, Option.some.injEq] at hq; subst hq; exact fun e => HNE.out e.symm); (simp at hq)) hc hb)
          clear hc hb hs HB6
          refine hK.out _ _ HB7.out.below (fun hHeld => ?_)
          clear hK KQ
          try simp only [Act.put]
          refine wpAnyH_ready (rs := [14]) (by kernel_rfl) (by simp) (AllReadyH.cons (o := ⟨some 10, .assign (.tmp 35), 3, "ref.go:170", #[⟨11, .data⟩, ⟨13, .chain⟩, ⟨0, .phase⟩, ⟨1, .phase⟩, ⟨2, .phase⟩, ⟨3, .phase⟩, ⟨4, .phase⟩, ⟨5, .phase⟩, ⟨6, .phase⟩, ⟨7, .phase⟩, ⟨8, .phase⟩, ⟨9, .phase⟩, ⟨10, .phase⟩, ⟨11, .phase⟩, ⟨12, .phase⟩, ⟨13, .phase⟩], none⟩) rfl (fun KQ hK => ?_) AllReadyH.nil)
          go_simp
          refine hK.out _ _ HB7.out.below (fun hHeld => ?_)
          clear hK KQ
          try simp only [Act.put, List.setIfInBounds_toArray, List.set_cons_zero, List.set_cons_succ]
          refine wpAnyH_done (by kernel_rfl) ?_ _
          have HB9 := hid HB7.out
          clear HB7
          rcases HC.out with ⟨rfl, rfl, ⟨-, rfl, rfl⟩ | ⟨h, -⟩⟩ | ⟨rfl, rfl, ⟨-, rfl, rfl⟩ | ⟨h, -⟩⟩ | ⟨rfl, ⟨-, rfl, rfl⟩ | ⟨h, -⟩⟩ | ⟨rfl, ⟨-, rfl, rfl⟩ | ⟨h, -⟩⟩
          · clear HC
            try simp only [Mp.v]
            go_upto_region 7 with fail
            refine wp_region_held_drew (S := fun w => Bag W w [(g11, 31, [.bool ms, .int .i64 mp, .bool mw, .bool mx]), (g6, 31, [.bool false, .int .i64 0, .bool false, .bool false])]) (by kernel_rfl) (HB9.out.on (Below.refl _ _).drew) (fun hHeld => ?_)
            have HB9b := hid (HB9.out.on (Below.refl _ _).drew)
            clear HB9
            have HB9 := HB9b
            clear HB9b
            generalize World.drew _ = w7 at *
            refine tk 0 ⟨some 39, .move (.tmp 10), 3, "ref.go:174", #[], none⟩ (.int .i64 0) ?_
            simp only [Act.put, List.setIfInBounds_toArray, List.set_cons_zero, List.set_cons_succ]
            refine tk 1 ⟨some 40, .binOp .neq 3 (.tmp 39) (.const (.int .i64 0)) 3, 4, "ref.go:174", #[⟨0, .data⟩], none⟩ (.bool false) ?_
            simp only [Act.put, List.setIfInBounds_toArray, List.set_cons_zero, List.set_cons_succ]
            refine tk 2 ⟨some 41, .move (.tmp 40), 4, "ref.go:174", #[⟨1, .data⟩], none⟩ (.bool false) ?_
            simp only [Act.put, List.setIfInBounds_toArray, List.set_cons_zero, List.set_cons_succ]
            refine tk 3 ⟨some 42, .move (.tmp 0), 45, "ref.go:174", #[⟨2, .guard⟩], some (2, false)⟩ (.pointer (some ⟨p.g, 0, none⟩)) ?_
            simp only [Act.put, List.setIfInBounds_toArray, List.set_cons_zero, List.set_cons_succ]
            refine tk 4 ⟨some 43, .nilCheck (.tmp 42), 0, "ref.go:174", #[⟨3, .data⟩, ⟨2, .guard⟩], some (2, false)⟩ (.pointer (some ⟨p.g, 0, none⟩)) ?_
            simp only [Act.put, List.setIfInBounds_toArray, List.set_cons_zero, List.set_cons_succ]
            refine tk 5 ⟨some 44, .fieldAddr 70 (.tmp 43) 0, 0, "ref.go:174", #[⟨4, .data⟩, ⟨2, .guard⟩], some (2, false)⟩ (.pointer (some ⟨p.g, 0, none⟩)) ?_
            simp only [Act.put, List.setIfInBounds_toArray, List.set_cons_zero, List.set_cons_succ]
            refine tk 6 ⟨some 45, .load 40 (.tmp 44), 40, "ref.go:174", #[⟨5, .data⟩, ⟨2, .guard⟩], some (2, false)⟩ (.pointer (some ⟨p.r.g, 0, none⟩)) ?_ (hy := Or.inl ⟨by rfl, by intro w hSw; have z := HZ.out w hSw.below; go_simp⟩)
            simp only [Act.put, List.setIfInBounds_toArray, List.set_cons_zero, List.set_cons_succ]
            refine tk 7 ⟨some 46, .fieldAddr 31 (.tmp 11) 0, 0, "ref.go:174", #[⟨2, .guard⟩], some (2, false)⟩ (.pointer (some ⟨g11, 0, none⟩)) ?_
            simp only [Act.put, List.setIfInBounds_toArray, List.set_cons_zero, List.set_cons_succ]
            refine tk 8 ⟨some 47, .load 4 (.tmp 46), 4, "ref.go:174", #[⟨7, .data⟩, ⟨2, .guard⟩], some (2, false)⟩ (.bool ms) ?_ (hy := Or.inl ⟨by rfl, by intro w hSw; have z := (hSw.get 0 rfl).cell 0; simp only [List.getElem?_cons_zero] at z; go_simp⟩)
            simp only [Act.put, List.setIfInBounds_toArray, List.set_cons_zero, List.set_cons_succ]
            refine tk 9 ⟨some 48, .fieldAddr 31 (.tmp 11) 1, 0, "ref.go:174", #[⟨2, .guard⟩], some (2, false)⟩ (.pointer (some ⟨g11, 1, none⟩)) ?_
            simp only [Act.put, List.setIfInBounds_toArray, List.set_cons_zero, List.set_cons_succ]
            refine tk 10 ⟨some 49, .load 3 (.tmp 48), 3, "ref.go:174", #[⟨9, .data⟩, ⟨2, .guard⟩], some (2, false)⟩ (.int .i64 mp) ?_ (hy := Or.inl ⟨by rfl, by intro w hSw; have z := (hSw.get 0 rfl).cell 1; simp only [List.getElem?_cons_zero, List.getElem?_cons_succ] at z; go_simp⟩)
            simp only [Act.put, List.setIfInBounds_toArray, List.set_cons_zero, List.set_cons_succ]
            refine tk 11 ⟨some 50, .build 72 #[(0, .tmp 47), (1, .tmp 49)], 72, "ref.go:174", #[⟨8, .data⟩, ⟨10, .data⟩, ⟨2, .guard⟩], some (2, false)⟩ (.agg #[.bool ms, .int .i64 mp]) ?_
            simp only [Act.put, List.setIfInBounds_toArray, List.set_cons_zero, List.set_cons_succ]
            refine wpAnyH_ready (rs := [12]) (by kernel_rfl) (by simp) (AllReadyH.cons (o := ⟨some 51, .call { callee := .value (.func 94), args := #[.tmp 45, .tmp 50], argTypes := #[40, 72] }, 4, "ref.go:174", #[⟨6, .data⟩, ⟨11, .data⟩, ⟨2, .chain⟩, ⟨2, .guard⟩], some (2, false)⟩) rfl (fun KQ hK => ?_) AllReadyH.nil)
            go_simp
            refine (HH.out _ HB9.out.below).mono ?_
            rintro e w8 ⟨rfl, hb8⟩
            have HB8 := hid (HB9.out.on hb8)
            clear hb8 HB9
            go_wp2_with fail
            refine hK.out _ _ HB8.out (fun hHeld => ?_)
            clear hK KQ
            try simp only [Act.put, List.setIfInBounds_toArray, List.set_cons_zero, List.set_cons_succ]
            refine tk 13 ⟨some 52, .unOp .not 4 (.tmp 51), 4, "ref.go:174", #[⟨12, .data⟩, ⟨2, .guard⟩], some (2, false)⟩ (.bool false) ?_
            simp only [Act.put, List.setIfInBounds_toArray, List.set_cons_zero, List.set_cons_succ]
            refine tk 14 ⟨some 53, .pick (.tmp 41) (.const (.bool true)) (.tmp 52), 4, "ref.go:174", #[⟨2, .data⟩, ⟨13, .data⟩], none⟩ (.bool false) ?_
            simp only [Act.put, List.setIfInBounds_toArray, List.set_cons_zero, List.set_cons_succ]
            refine wpAnyH_done (by kernel_rfl) ?_ _
            go_wp2_with (first | (refine wpList_load_g rfl 31 _ rfl g11 rfl (HB8.out.get 0 rfl) rfl under31 size31 ?_) | (refine wpList_store_st rfl 31 _ _ rfl g6 [.bool ms, .int .i64 mp, .bool mw, .bool mx] rfl rfl (HB8.out.get 1 rfl) size31 rfl rfl ?_; intro w9 hc hb hs; have HX := hid (And.intro hc (HB8.out.below.trans (hb.below (by have := HG6.out; simp; omega) HB8.out.below.size))); clear hc hb hs))
            exact ret_st2 rfl rfl g6 _ rfl HX.out.1 under31 rfl size31 ⟨rfl, HX.out.2⟩
          · exact absurd rfl h
          · clear HC
            try simp only [Mp.v, Mp.z]
            go_upto_region 7 with fail
            refine wp_region_held_drew (S := fun w => Bag W w [(g11, 31, [.bool ms, .int .i64 mp, .bool mw, .bool mx]), (g6, 31, [.bool false, .int .i64 0, .bool false, .bool false])]) (by kernel_rfl) (HB9.out.on (Below.refl _ _).drew) (fun hHeld => ?_)
            have HB9b := hid (HB9.out.on (Below.refl _ _).drew)
            clear HB9
            have HB9 := HB9b
            clear HB9b
            generalize World.drew _ = w7 at *
            refine tk 0 ⟨some 39, .move (.tmp 10), 3, "ref.go:174", #[], none⟩ (.int .i64 0) ?_
            simp only [Act.put, List.setIfInBounds_toArray, List.set_cons_zero, List.set_cons_succ]
            refine tk 1 ⟨some 40, .binOp .neq 3 (.tmp 39) (.const (.int .i64 0)) 3, 4, "ref.go:174", #[⟨0, .data⟩], none⟩ (.bool false) ?_
            simp only [Act.put, List.setIfInBounds_toArray, List.set_cons_zero, List.set_cons_succ]
            refine tk 2 ⟨some 41, .move (.tmp 40), 4, "ref.go:174", #[⟨1, .data⟩], none⟩ (.bool false) ?_
            simp only [Act.put, List.setIfInBounds_toArray, List.set_cons_zero, List.set_cons_succ]
            refine tk 3 ⟨some 42, .move (.tmp 0), 45, "ref.go:174", #[⟨2, .guard⟩], some (2, false)⟩ (.pointer (some ⟨p.g, 0, none⟩)) ?_
            simp only [Act.put, List.setIfInBounds_toArray, List.set_cons_zero, List.set_cons_succ]
            refine tk 4 ⟨some 43, .nilCheck (.tmp 42), 0, "ref.go:174", #[⟨3, .data⟩, ⟨2, .guard⟩], some (2, false)⟩ (.pointer (some ⟨p.g, 0, none⟩)) ?_
            simp only [Act.put, List.setIfInBounds_toArray, List.set_cons_zero, List.set_cons_succ]
            refine tk 5 ⟨some 44, .fieldAddr 70 (.tmp 43) 0, 0, "ref.go:174", #[⟨4, .data⟩, ⟨2, .guard⟩], some (2, false)⟩ (.pointer (some ⟨p.g, 0, none⟩)) ?_
            simp only [Act.put, List.setIfInBounds_toArray, List.set_cons_zero, List.set_cons_succ]
            refine tk 6 ⟨some 45, .load 40 (.tmp 44), 40, "ref.go:174", #[⟨5, .data⟩, ⟨2, .guard⟩], some (2, false)⟩ (.pointer (some ⟨p.r.g, 0, none⟩)) ?_ (hy := Or.inl ⟨by rfl, by intro w hSw; have z := HZ.out w hSw.below; go_simp⟩)
            simp only [Act.put, List.setIfInBounds_toArray, List.set_cons_zero, List.set_cons_succ]
            refine tk 7 ⟨some 46, .fieldAddr 31 (.tmp 11) 0, 0, "ref.go:174", #[⟨2, .guard⟩], some (2, false)⟩ (.pointer (some ⟨g11, 0, none⟩)) ?_
            simp only [Act.put, List.setIfInBounds_toArray, List.set_cons_zero, List.set_cons_succ]
            refine tk 8 ⟨some 47, .load 4 (.tmp 46), 4, "ref.go:174", #[⟨7, .data⟩, ⟨2, .guard⟩], some (2, false)⟩ (.bool ms) ?_ (hy := Or.inl ⟨by rfl, by intro w hSw; have z := (hSw.get 0 rfl).cell 0; simp only [List.getElem?_cons_zero] at z; go_simp⟩)
            simp only [Act.put, List.setIfInBounds_toArray, List.set_cons_zero, List.set_cons_succ]
            refine tk 9 ⟨some 48, .fieldAddr 31 (.tmp 11) 1, 0, "ref.go:174", #[⟨2, .guard⟩], some (2, false)⟩ (.pointer (some ⟨g11, 1, none⟩)) ?_
            simp only [Act.put, List.setIfInBounds_toArray, List.set_cons_zero, List.set_cons_succ]
            refine tk 10 ⟨some 49, .load 3 (.tmp 48), 3, "ref.go:174", #[⟨9, .data⟩, ⟨2, .guard⟩], some (2, false)⟩ (.int .i64 mp) ?_ (hy := Or.inl ⟨by rfl, by intro w hSw; have z := (hSw.get 0 rfl).cell 1; simp only [List.getElem?_cons_zero, List.getElem?_cons_succ] at z; go_simp⟩)
            simp only [Act.put, List.setIfInBounds_toArray, List.set_cons_zero, List.set_cons_succ]
            refine tk 11 ⟨some 50, .build 72 #[(0, .tmp 47), (1, .tmp 49)], 72, "ref.go:174", #[⟨8, .data⟩, ⟨10, .data⟩, ⟨2, .guard⟩], some (2, false)⟩ (.agg #[.bool ms, .int .i64 mp]) ?_
            simp only [Act.put, List.setIfInBounds_toArray, List.set_cons_zero, List.set_cons_succ]
            refine wpAnyH_ready (rs := [12]) (by kernel_rfl) (by simp) (AllReadyH.cons (o := ⟨some 51, .call { callee := .value (.func 94), args := #[.tmp 45, .tmp 50], argTypes := #[40, 72] }, 4, "ref.go:174", #[⟨6, .data⟩, ⟨11, .data⟩, ⟨2, .chain⟩, ⟨2, .guard⟩], some (2, false)⟩) rfl (fun KQ hK => ?_) AllReadyH.nil)
            go_simp
            refine (HH.out _ HB9.out.below).mono ?_
            rintro e w8 ⟨rfl, hb8⟩
            have HB8 := hid (HB9.out.on hb8)
            clear hb8 HB9
            go_wp2_with fail
            refine hK.out _ _ HB8.out (fun hHeld => ?_)
            clear hK KQ
            try simp only [Act.put, List.setIfInBounds_toArray, List.set_cons_zero, List.set_cons_succ]
            refine tk 13 ⟨some 52, .unOp .not 4 (.tmp 51), 4, "ref.go:174", #[⟨12, .data⟩, ⟨2, .guard⟩], some (2, false)⟩ (.bool true) ?_
            simp only [Act.put, List.setIfInBounds_toArray, List.set_cons_zero, List.set_cons_succ]
            refine tk 14 ⟨some 53, .pick (.tmp 41) (.const (.bool true)) (.tmp 52), 4, "ref.go:174", #[⟨2, .data⟩, ⟨13, .data⟩], none⟩ (.bool true) ?_
            simp only [Act.put, List.setIfInBounds_toArray, List.set_cons_zero, List.set_cons_succ]
            refine wpAnyH_done (by kernel_rfl) ?_ _
            go_wp2_with (first | (refine wpList_build_z31 rfl rfl ?_) | (refine wpList_store_st rfl 31 _ _ rfl g6 [.bool false, .int .i64 0, .bool false, .bool false] rfl rfl (HB8.out.get 1 rfl) size31 rfl rfl ?_; intro w9 hc hb hs; have HX := hid (And.intro hc (HB8.out.below.trans (hb.below (by have := HG6.out; simp; omega) HB8.out.below.size))); clear hc hb hs))
            exact ret_st2 rfl rfl g6 _ rfl HX.out.1 under31 rfl size31 ⟨rfl, HX.out.2⟩
          · exact absurd rfl h
          · clear HC
            try simp only [Mp.v, Mp.z]
            go_wp2_with (first | (refine wpList_build_z31 rfl rfl ?_) | (refine wpList_store_st rfl 31 _ _ rfl g6 [.bool false, .int .i64 0, .bool false, .bool false] rfl rfl (HB9.out.get 1 rfl) size31 rfl rfl ?_; intro w9 hc hb hs; have HX := hid (And.intro hc (HB9.out.below.trans (hb.below (by have := HG6.out; simp; omega) HB9.out.below.size))); clear hc hb hs))
            exact ret_st2 rfl rfl g6 _ rfl HX.out.1 under31 rfl size31 ⟨rfl, HX.out.2⟩
          · exact absurd rfl h
          · clear HC
            try simp only [Mp.v, Mp.z]
            go_upto_region 7 with fail
            refine wp_region_held_drew (S := fun w => Bag W w [(g11, 31, [.bool ms, .int .i64 mp, .bool mw, .bool mx]), (g6, 31, [.bool false, .int .i64 0, .bool false, .bool false])]) (by kernel_rfl) (HB9.out.on (Below.refl _ _).drew) (fun hHeld => ?_)
            have HB9b := hid (HB9.out.on (Below.refl _ _).drew)
            clear HB9
            have HB9 := HB9b
            clear HB9b
            generalize World.drew _ = w7 at *
            refine tk 0 ⟨some 39, .move (.tmp 10), 3, "ref.go:174", #[], none⟩ (.int .i64 90) ?_
            simp only [Act.put, List.setIfInBounds_toArray, List.set_cons_zero, List.set_cons_succ]
            refine tk 1 ⟨some 40, .binOp .neq 3 (.tmp 39) (.const (.int .i64 0)) 3, 4, "ref.go:174", #[⟨0, .data⟩], none⟩ (.bool true) ?_
            simp only [Act.put, List.setIfInBounds_toArray, List.set_cons_zero, List.set_cons_succ]
            refine tk 2 ⟨some 41, .move (.tmp 40), 4, "ref.go:174", #[⟨1, .data⟩], none⟩ (.bool true) ?_
            simp only [Act.put, List.setIfInBounds_toArray, List.set_cons_zero, List.set_cons_succ]
            refine tk 3 ⟨some 42, .move (.tmp 0), 45, "ref.go:174", #[⟨2, .guard⟩], some (2, false)⟩ undef ?_ (hy := Or.inr ⟨by rfl, rfl⟩)
            simp only [Act.put, List.setIfInBounds_toArray, List.set_cons_zero, List.set_cons_succ]
            refine tk 4 ⟨some 43, .nilCheck (.tmp 42), 0, "ref.go:174", #[⟨3, .data⟩, ⟨2, .guard⟩], some (2, false)⟩ undef ?_ (hy := Or.inr ⟨by rfl, rfl⟩)
            simp only [Act.put, List.setIfInBounds_toArray, List.set_cons_zero, List.set_cons_succ]
            refine tk 5 ⟨some 44, .fieldAddr 70 (.tmp 43) 0, 0, "ref.go:174", #[⟨4, .data⟩, ⟨2, .guard⟩], some (2, false)⟩ undef ?_ (hy := Or.inr ⟨by rfl, rfl⟩)
            simp only [Act.put, List.setIfInBounds_toArray, List.set_cons_zero, List.set_cons_succ]
            refine tk 6 ⟨some 45, .load 40 (.tmp 44), 40, "ref.go:174", #[⟨5, .data⟩, ⟨2, .guard⟩], some (2, false)⟩ undef ?_ (hy := Or.inr ⟨by rfl, rfl⟩)
            simp only [Act.put, List.setIfInBounds_toArray, List.set_cons_zero, List.set_cons_succ]
            refine tk 7 ⟨some 46, .fieldAddr 31 (.tmp 11) 0, 0, "ref.go:174", #[⟨2, .guard⟩], some (2, false)⟩ undef ?_ (hy := Or.inr ⟨by rfl, rfl⟩)
            simp only [Act.put, List.setIfInBounds_toArray, List.set_cons_zero, List.set_cons_succ]
            refine tk 8 ⟨some 47, .load 4 (.tmp 46), 4, "ref.go:174", #[⟨7, .data⟩, ⟨2, .guard⟩], some (2, false)⟩ undef ?_ (hy := Or.inr ⟨by rfl, rfl⟩)
            simp only [Act.put, List.setIfInBounds_toArray, List.set_cons_zero, List.set_cons_succ]
            refine tk 9 ⟨some 48, .fieldAddr 31 (.tmp 11) 1, 0, "ref.go:174", #[⟨2, .guard⟩], some (2, false)⟩ undef ?_ (hy := Or.inr ⟨by rfl, rfl⟩)
            simp only [Act.put, List.setIfInBounds_toArray, List.set_cons_zero, List.set_cons_succ]
            refine tk 10 ⟨some 49, .load 3 (.tmp 48), 3, "ref.go:174", #[⟨9, .data⟩, ⟨2, .guard⟩], some (2, false)⟩ undef ?_ (hy := Or.inr ⟨by rfl, rfl⟩)
            simp only [Act.put, List.setIfInBounds_toArray, List.set_cons_zero, List.set_cons_succ]
            refine tk 11 ⟨some 50, .build 72 #[(0, .tmp 47), (1, .tmp 49)], 72, "ref.go:174", #[⟨8, .data⟩, ⟨10, .data⟩, ⟨2, .guard⟩], some (2, false)⟩ undef ?_ (hy := Or.inr ⟨by rfl, rfl⟩)
            simp only [Act.put, List.setIfInBounds_toArray, List.set_cons_zero, List.set_cons_succ]
            refine tk 12 ⟨some 51, .call { callee := .value (.func 94), args := #[.tmp 45, .tmp 50], argTypes := #[40, 72] }, 4, "ref.go:174", #[⟨6, .data⟩, ⟨11, .data⟩, ⟨2, .chain⟩, ⟨2, .guard⟩], some (2, false)⟩ undef ?_ (hy := Or.inr ⟨by rfl, rfl⟩)
            simp only [Act.put, List.setIfInBounds_toArray, List.set_cons_zero, List.set_cons_succ]
            refine tk 13 ⟨some 52, .unOp .not 4 (.tmp 51), 4, "ref.go:174", #[⟨12, .data⟩, ⟨2, .guard⟩], some (2, false)⟩ undef ?_ (hy := Or.inr ⟨by rfl, rfl⟩)
            simp only [Act.put, List.setIfInBounds_toArray, List.set_cons_zero, List.set_cons_succ]
            refine tk 14 ⟨some 53, .pick (.tmp 41) (.const (.bool true)) (.tmp 52), 4, "ref.go:174", #[⟨2, .data⟩, ⟨13, .data⟩], none⟩ (.bool true) ?_
            simp only [Act.put, List.setIfInBounds_toArray, List.set_cons_zero, List.set_cons_succ]
            refine wpAnyH_done (by kernel_rfl) ?_ _
            go_wp2_with (first | (refine wpList_build_z31 rfl rfl ?_) | (refine wpList_store_st rfl 31 _ _ rfl g6 [.bool false, .int .i64 0, .bool false, .bool false] rfl rfl (HB9.out.get 1 rfl) size31 rfl rfl ?_; intro w9 hc hb hs; have HX := hid (And.intro hc (HB9.out.below.trans (hb.below (by have := HG6.out; simp; omega) HB9.out.below.size))); clear hc hb hs))
            exact ret_st2 rfl rfl g6 _ rfl HX.out.1 under31 rfl size31 ⟨rfl, HX.out.2⟩
          · exact absurd rfl h
      · go_simp
        have HB4 : Hid (Bag W ((w3).alloc (.cells #[.bool false, .int .i64 0, .bool false, .bool false] 31)) [(w3.heap.size, 31, [.bool false, .int .i64 0, .bool false, .bool false]), (g6, 31, [.bool false, .int .i64 0, .bool false, .bool false])]) := hid (HB3.out.new 31 [.bool false, .int .i64 0, .bool false, .bool false])
        have HNE : Hid (w3.heap.size ≠ g6) := hid (by have := (HB3.out.get 0 rfl).lt; omega)
        have HG11 : Hid (W.heap.size ≤ w3.heap.size) := hid HB3.out.below.size
        clear HB3
        generalize World.alloc w3 _ = w4 at *
        generalize w3.heap.size = g11 at *
        refine hK.out _ _ HB4.out.below (fun hHeld => ?_)
        clear hK KQ
        try simp only [Act.put, List.setIfInBounds_toArray, List.set_cons_zero, List.set_cons_succ]
        refine wpAnyH_ready (rs := [7]) (by kernel_rfl) (by simp) (AllReadyH.cons (o := ⟨some 32, .call { callee := .value (.func 51), args := #[.tmp 28, .tmp 30, .tmp 31], argTypes := #[40, 72, 3] }, 29, "ref.go:170", #[⟨3, .data⟩, ⟨5, .data⟩, ⟨6, .data⟩, ⟨5, .chain⟩], none⟩) rfl (fun KQ hK => ?_) AllReadyH.nil)
        go_simp
        refine (HP.out _ HB4.out.below).mono ?_
        rintro e w5 ⟨rfl, hb⟩
        have HB5 := hid (HB4.out.on hb)
        clear hb HB4
        go_wp2_with fail
        refine hK.out _ _ HB5.out.below (fun hHeld => ?_)
        clear hK KQ
        try simp only [Act.put, List.setIfInBounds_toArray, List.set_cons_zero, List.set_cons_succ]
        refine wpAnyH_ready (rs := [8]) (by kernel_rfl) (by simp) (AllReadyH.cons (o := ⟨some 33, .call { callee := .value (.func 93), args := #[.tmp 32], argTypes := #[29] }, 93, "ref.go:170", #[⟨7, .data⟩, ⟨7, .chain⟩], none⟩) rfl (fun KQ hK => ?_) AllReadyH.nil)
        go_simp
        refine (HPs.out _).mono ?_
        rintro e w6 ⟨rfl, hb⟩
        have HB6 := hid (HB5.out.on hb)
        clear hb HB5
        go_wp2_with fail
        refine hK.out _ _ HB6.out.below (fun hHeld => ?_)
        clear hK KQ
        try simp only [Act.put, List.setIfInBounds_toArray, List.set_cons_zero, List.set_cons_succ]
        refine tk 9 ⟨some 24, .move (.tmp 33), 93, "ref.go:170", #[⟨8, .data⟩], none⟩ (.tuple #[.agg #[.bool ms, .int .i64 mp, .bool mw, .bool mx], .int .i64 pe]) ?_
        simp only [Act.put, List.setIfInBounds_toArray, List.set_cons_zero, List.set_cons_succ]
        refine tk 10 ⟨some 34, .extract (.tmp 24) 0, 31, "ref.go:170", #[⟨9, .data⟩], none⟩ (.agg #[.bool ms, .int .i64 mp, .bool mw, .bool mx]) ?_
        simp only [Act.put, List.setIfInBounds_toArray, List.set_cons_zero, List.set_cons_succ]
        refine tk 11 ⟨some 35, .extract (.tmp 24) 1, 3, "ref.go:170", #[⟨9, .data⟩, { on := 13, ground := .gcOnly Departure.lateStores }], none⟩ (.int .i64 pe) ?_
        simp only [Act.put, List.setIfInBounds_toArray, List.set_cons_zero, List.set_cons_succ]
        refine wpAnyH_ready (rs := [13]) (by kernel_rfl) (by simp) (AllReadyH.cons (o := ⟨none, .store 31 (.tmp 11) (.tmp 34), 0, "ref.go:170", #[⟨12, .data⟩, ⟨10, .data⟩, ⟨8, .chain⟩, ⟨0, .phase⟩, ⟨1, .phase⟩, ⟨2, .phase⟩, ⟨3, .phase⟩, ⟨4, .phase⟩, ⟨5, .phase⟩, ⟨6, .phase⟩, ⟨7, .phase⟩, ⟨8, .phase⟩, ⟨9, .phase⟩, ⟨10, .phase⟩, { on := 11, ground := .textOnly Departure.lateStores }, ⟨12, .phase⟩], none⟩) rfl (fun KQ hK => ?_) AllReadyH.nil)
        rw [if_pos (by rfl)]
        refine wp_store_st 31 _ _ rfl g11 [.bool ms, .int .i64 mp, .bool mw, .bool mx] rfl rfl (HB6.out.get 0 rfl) size31 rfl rfl ?_
        intro w7 hc hb hs
        have HB7 : Hid (Bag W w7 [(g11, 31, [.bool ms, .int .i64 mp, .bool mw, .bool mx]), (g6, 31, [.bool false, .int .i64 0, .bool false, .bool false])]) := hid (HB6.out.put 0 rfl HG11.out (fun i q hq hn => by rcases i with _ | _ | i; exact absurd rfl hn; (simp only [List.getElem?_cons_succ, List.getElem?_cons_zero, Option.some.injEq] at hq; subst hq; exact fun e => HNE.out e.symm); (simp at hq)) hc hb)
        clear hc hb hs HB6
        refine hK.out _ _ HB7.out.below (fun hHeld => ?_)
        clear hK KQ
        try simp only [Act.put]
        refine wpAnyH_ready (rs := [14]) (by kernel_rfl) (by simp) (AllReadyH.cons (o := ⟨some 10, .assign (.tmp 35), 3, "ref.go:170", #[⟨11, .data⟩, ⟨13, .chain⟩, ⟨0, .phase⟩, ⟨1, .phase⟩, ⟨2, .phase⟩, ⟨3, .phase⟩, ⟨4, .phase⟩, ⟨5, .phase⟩, ⟨6, .phase⟩, ⟨7, .phase⟩, ⟨8, .phase⟩, ⟨9, .phase⟩, ⟨10, .phase⟩, ⟨11, .phase⟩, ⟨12, .phase⟩, ⟨13, .phase⟩], none⟩) rfl (fun KQ hK => ?_) AllReadyH.nil)
        go_simp
        refine hK.out _ _ HB7.out.below (fun hHeld => ?_)
        clear hK KQ
        try simp only [Act.put, List.setIfInBounds_toArray, List.set_cons_zero, List.set_cons_succ]
        refine wpAnyH_done (by kernel_rfl) ?_ _
        have HB9 := hid HB7.out
        clear HB7
        rcases HC.out with ⟨rfl, rfl, ⟨-, rfl, rfl⟩ | ⟨h, -⟩⟩ | ⟨rfl, rfl, ⟨-, rfl, rfl⟩ | ⟨h, -⟩⟩ | ⟨rfl, ⟨-, rfl, rfl⟩ | ⟨h, -⟩⟩ | ⟨rfl, ⟨-, rfl, rfl⟩ | ⟨h, -⟩⟩
        · clear HC
          try simp only [Mp.v]
          go_upto_region 7 with fail
          refine wp_region_held_drew (S := fun w => Bag W w [(g11, 31, [.bool ms, .int .i64 mp, .bool mw, .bool mx]), (g6, 31, [.bool false, .int .i64 0, .bool false, .bool false])]) (by kernel_rfl) (HB9.out.on (Below.refl _ _).drew) (fun hHeld => ?_)
          have HB9b := hid (HB9.out.on (Below.refl _ _).drew)
          clear HB9
          have HB9 := HB9b
          clear HB9b
          generalize World.drew _ = w7 at *
          refine tk 0 ⟨some 39, .move (.tmp 10), 3, "ref.go:174", #[], none⟩ (.int .i64 0) ?_
          simp only [Act.put, List.setIfInBounds_toArray, List.set_cons_zero, List.set_cons_succ]
          refine tk 1 ⟨some 40, .binOp .neq 3 (.tmp 39) (.const (.int .i64 0)) 3, 4, "ref.go:174", #[⟨0, .data⟩], none⟩ (.bool false) ?_
          simp only [Act.put, List.setIfInBounds_toArray, List.set_cons_zero, List.set_cons_succ]
          refine tk 2 ⟨some 41, .move (.tmp 40), 4, "ref.go:174", #[⟨1, .data⟩], none⟩ (.bool false) ?_
          simp only [Act.put, List.setIfInBounds_toArray, List.set_cons_zero, List.set_cons_succ]
          refine tk 3 ⟨some 42, .move (.tmp 0), 45, "ref.go:174", #[⟨2, .guard⟩], some (2, false)⟩ (.pointer (some ⟨p.g, 0, none⟩)) ?_
          simp only [Act.put, List.setIfInBounds_toArray, List.set_cons_zero, List.set_cons_succ]
          refine tk 4 ⟨some 43, .nilCheck (.tmp 42), 0, "ref.go:174", #[⟨3, .data⟩, ⟨2, .guard⟩], some (2, false)⟩ (.pointer (some ⟨p.g, 0, none⟩)) ?_
          simp only [Act.put, List.setIfInBounds_toArray, List.set_cons_zero, List.set_cons_succ]
          refine tk 5 ⟨some 44, .fieldAddr 70 (.tmp 43) 0, 0, "ref.go:174", #[⟨4, .data⟩, ⟨2, .guard⟩], some (2, false)⟩ (.pointer (some ⟨p.g, 0, none⟩)) ?_
          simp only [Act.put, List.setIfInBounds_toArray, List.set_cons_zero, List.set_cons_succ]
          refine tk 6 ⟨some 45, .load 40 (.tmp 44), 40, "ref.go:174", #[⟨5, .data⟩, ⟨2, .guard⟩], some (2, false)⟩ (.pointer (some ⟨p.r.g, 0, none⟩)) ?_ (hy := Or.inl ⟨by rfl, by intro w hSw; have z := HZ.out w hSw.below; go_simp⟩)
          simp only [Act.put, List.setIfInBounds_toArray, List.set_cons_zero, List.set_cons_succ]
          refine tk 7 ⟨some 46, .fieldAddr 31 (.tmp 11) 0, 0, "ref.go:174", #[⟨2, .guard⟩], some (2, false)⟩ (.pointer (some ⟨g11, 0, none⟩)) ?_
          simp only [Act.put, List.setIfInBounds_toArray, List.set_cons_zero, List.set_cons_succ]
          refine tk 8 ⟨some 47, .load 4 (.tmp 46), 4, "ref.go:174", #[⟨7, .data⟩, ⟨2, .guard⟩], some (2, false)⟩ (.bool ms) ?_ (hy := Or.inl ⟨by rfl, by intro w hSw; have z := (hSw.get 0 rfl).cell 0; simp only [List.getElem?_cons_zero] at z; go_simp⟩)
          simp only [Act.put, List.setIfInBounds_toArray, List.set_cons_zero, List.set_cons_succ]
          refine tk 9 ⟨some 48, .fieldAddr 31 (.tmp 11) 1, 0, "ref.go:174", #[⟨2, .guard⟩], some (2, false)⟩ (.pointer (some ⟨g11, 1, none⟩)) ?_
          simp only [Act.put, List.setIfInBounds_toArray, List.set_cons_zero, List.set_cons_succ]
          refine tk 10 ⟨some 49, .load 3 (.tmp 48), 3, "ref.go:174", #[⟨9, .data⟩, ⟨2, .guard⟩], some (2, false)⟩ (.int .i64 mp) ?_ (hy := Or.inl ⟨by rfl, by intro w hSw; have z := (hSw.get 0 rfl).cell 1; simp only [List.getElem?_cons_zero, List.getElem?_cons_succ] at z; go_simp⟩)
          simp only [Act.put, List.setIfInBounds_toArray, List.set_cons_zero, List.set_cons_succ]
          refine tk 11 ⟨some 50, .build 72 #[(0, .tmp 47), (1, .tmp 49)], 72, "ref.go:174", #[⟨8, .data⟩, ⟨10, .data⟩, ⟨2, .guard⟩], some (2, false)⟩ (.agg #[.bool ms, .int .i64 mp]) ?_
          simp only [Act.put, List.setIfInBounds_toArray, List.set_cons_zero, List.set_cons_succ]
          refine wpAnyH_ready (rs := [12]) (by kernel_rfl) (by simp) (AllReadyH.cons (o := ⟨some 51, .call { callee := .value (.func 94), args := #[.tmp 45, .tmp 50], argTypes := #[40, 72] }, 4, "ref.go:174", #[⟨6, .data⟩, ⟨11, .data⟩, ⟨2, .chain⟩, ⟨2, .guard⟩], some (2, false)⟩) rfl (fun KQ hK => ?_) AllReadyH.nil)
          go_simp
          refine (HH.out _ HB9.out.below).mono ?_
          rintro e w8 ⟨rfl, hb8⟩
          have HB8 := hid (HB9.out.on hb8)
          clear hb8 HB9
          go_wp2_with fail
          refine hK.out _ _ HB8.out (fun hHeld => ?_)
          clear hK KQ
          try simp only [Act.put, List.setIfInBounds_toArray, List.set_cons_zero, List.set_cons_succ]
          refine tk 13 ⟨some 52, .unOp .not 4 (.tmp 51), 4, "ref.go:174", #[⟨12, .data⟩, ⟨2, .guard⟩], some (2, false)⟩ (.bool false) ?_
          simp only [Act.put, List.setIfInBounds_toArray, List.set_cons_zero, List.set_cons_succ]
          refine tk 14 ⟨some 53, .pick (.tmp 41) (.const (.bool true)) (.tmp 52), 4, "ref.go:174", #[⟨2, .data⟩, ⟨13, .data⟩], none⟩ (.bool false) ?_
          simp only [Act.put, List.setIfInBounds_toArray, List.set_cons_zero, List.set_cons_succ]
          refine wpAnyH_done (by kernel_rfl) ?_ _
          go_wp2_with (first | (refine wpList_load_g rfl 31 _ rfl g11 rfl (HB8.out.get 0 rfl) rfl under31 size31 ?_) | (refine wpList_store_st rfl 31 _ _ rfl g6 [.bool ms, .int .i64 mp, .bool mw, .bool mx] rfl rfl (HB8.out.get 1 rfl) size31 rfl rfl ?_; intro w9 hc hb hs; have HX := hid (And.intro hc (HB8.out.below.trans (hb.below (by have := HG6.out; simp; omega) HB8.out.below.size))); clear hc hb hs))
          exact ret_st2 rfl rfl g6 _ rfl HX.out.1 under31 rfl size31 ⟨rfl, HX.out.2⟩
        · exact absurd rfl h
        · clear HC
          try simp only [Mp.v, Mp.z]
          go_upto_region 7 with fail
          refine wp_region_held_drew (S := fun w => Bag W w [(g11, 31, [.bool ms, .int .i64 mp, .bool mw, .bool mx]), (g6, 31, [.bool false, .int .i64 0, .bool false, .bool false])]) (by kernel_rfl) (HB9.out.on (Below.refl _ _).drew) (fun hHeld => ?_)
          have HB9b := hid (HB9.out.on (Below.refl _ _).drew)
          clear HB9
          have HB9 := HB9b
          clear HB9b
          generalize World.drew _ = w7 at *
          refine tk 0 ⟨some 39, .move (.tmp 10), 3, "ref.go:174", #[], none⟩ (.int .i64 0) ?_
          simp only [Act.put, List.setIfInBounds_toArray, List.set_cons_zero, List.set_cons_succ]
          refine tk 1 ⟨some 40, .binOp .neq 3 (.tmp 39) (.const (.int .i64 0)) 3, 4, "ref.go:174", #[⟨0, .data⟩], none⟩ (.bool false) ?_
          simp only [Act.put, List.setIfInBounds_toArray, List.set_cons_zero, List.set_cons_succ]
          refine tk 2 ⟨some 41, .move (.tmp 40), 4, "ref.go:174", #[⟨1, .data⟩], none⟩ (.bool false) ?_
          simp only [Act.put, List.setIfInBounds_toArray, List.set_cons_zero, List.set_cons_succ]
          refine tk 3 ⟨some 42, .move (.tmp 0), 45, "ref.go:174", #[⟨2, .guard⟩], some (2, false)⟩ (.pointer (some ⟨p.g, 0, none⟩)) ?_
          simp only [Act.put, List.setIfInBounds_toArray, List.set_cons_zero, List.set_cons_succ]
          refine tk 4 ⟨some 43, .nilCheck (.tmp 42), 0, "ref.go:174", #[⟨3, .data⟩, ⟨2, .guard⟩], some (2, false)⟩ (.pointer (some ⟨p.g, 0, none⟩)) ?_
          simp only [Act.put, List.setIfInBounds_toArray, List.set_cons_zero, List.set_cons_succ]
          refine tk 5 ⟨some 44, .fieldAddr 70 (.tmp 43) 0, 0, "ref.go:174", #[⟨4, .data⟩, ⟨2, .guard⟩], some (2, false)⟩ (.pointer (some ⟨p.g, 0, none⟩)) ?_
          simp only [Act.put, List.setIfInBounds_toArray, List.set_cons_zero, List.set_cons_succ]
          refine tk 6 ⟨some 45, .load 40 (.tmp 44), 40, "ref.go:174", #[⟨5, .data⟩, ⟨2, .guard⟩], some (2, false)⟩ (.pointer (some ⟨p.r.g, 0, none⟩)) ?_ (hy := Or.inl ⟨by rfl, by intro w hSw; have z := HZ.out w hSw.below; go_simp⟩)
          simp only [Act.put, List.setIfInBounds_toArray, List.set_cons_zero, List.set_cons_succ]
          refine tk 7 ⟨some 46, .fieldAddr 31 (.tmp 11) 0, 0, "ref.go:174", #[⟨2, .guard⟩], some (2, false)⟩ (.pointer (some ⟨g11, 0, none⟩)) ?_
          simp only [Act.put, List.setIfInBounds_toArray, List.set_cons_zero, List.set_cons_succ]
          refine tk 8 ⟨some 47, .load 4 (.tmp 46), 4, "ref.go:174", #[⟨7, .data⟩, ⟨2, .guard⟩], some (2, false)⟩ (.bool ms) ?_ (hy := Or.inl ⟨by rfl, by intro w hSw; have z := (hSw.get 0 rfl).cell 0; simp only [List.getElem?_cons_zero] at z; go_simp⟩)
          simp only [Act.put, List.setIfInBounds_toArray, List.set_cons_zero, List.set_cons_succ]
          refine tk 9 ⟨some 48, .fieldAddr 31 (.tmp 11) 1, 0, "ref.go:174", #[⟨2, .guard⟩], some (2, false)⟩ (.pointer (some ⟨g11, 1, none⟩)) ?_
          simp only [Act.put, List.setIfInBounds_toArray, List.set_cons_zero, List.set_cons_succ]
          refine tk 10 ⟨some 49, .load 3 (.tmp 48), 3, "ref.go:174", #[⟨9, .data⟩, ⟨2, .guard⟩], some (2, false)⟩ (.int .i64 mp) ?_ (hy := Or.inl ⟨by rfl, by intro w hSw; have z := (hSw.get 0 rfl).cell 1; simp only [List.getElem?_cons_zero, List.getElem?_cons_succ] at z; go_simp⟩)
          simp only [Act.put, List.setIfInBounds_toArray, List.set_cons_zero, List.set_cons_succ]
          refine tk 11 ⟨some 50, .build 72 #[(0, .tmp 47), (1, .tmp 49)], 72, "ref.go:174", #[⟨8, .data⟩, ⟨10, .data⟩, ⟨2, .guard⟩], some (2, false)⟩ (.agg #[.bool ms, .int .i64 mp]) ?_
          simp only [Act.put, List.setIfInBounds_toArray, List.set_cons_zero, List.set_cons_succ]
          refine wpAnyH_ready (rs := [12]) (by kernel_rfl) (by simp) (AllReadyH.cons (o := ⟨some 51, .call { callee := .value (.func 94), args := #[.tmp 45, .tmp 50], argTypes := #[40, 72] }, 4, "ref.go:174", #[⟨6, .data⟩, ⟨11, .data⟩, ⟨2, .chain⟩, ⟨2, .guard⟩], some (2, false)⟩) rfl (fun KQ hK => ?_) AllReadyH.nil)
          go_simp
          refine (HH.out _ HB9.out.below).mono ?_
          rintro e w8 ⟨rfl, hb8⟩
          have HB8 := hid (HB9.out.on hb8)
          clear hb8 HB9
          go_wp2_with fail
          refine hK.out _ _ HB8.out (fun hHeld => ?_)
          clear hK KQ
          try simp only [Act.put, List.setIfInBounds_toArray, List.set_cons_zero, List.set_cons_succ]
          refine tk 13 ⟨some 52, .unOp .not 4 (.tmp 51), 4, "ref.go:174", #[⟨12, .data⟩, ⟨2, .guard⟩], some (2, false)⟩ (.bool true) ?_
          simp only [Act.put, List.setIfInBounds_toArray, List.set_cons_zero, List.set_cons_succ]
          refine tk 14 ⟨some 53, .pick (.tmp 41) (.const (.bool true)) (.tmp 52), 4, "ref.go:174", #[⟨2, .data⟩, ⟨13, .data⟩], none⟩ (.bool true) ?_
          simp only [Act.put, List.setIfInBounds_toArray, List.set_cons_zero, List.set_cons_succ]
          refine wpAnyH_done (by kernel_rfl) ?_ _
          go_wp2_with (first | (refine wpList_build_z31 rfl rfl ?_) | (refine wpList_store_st rfl 31 _ _ rfl g6 [.bool false, .int .i64 0, .bool false, .bool false] rfl rfl (HB8.out.get 1 rfl) size31 rfl rfl ?_; intro w9 hc hb hs; have HX := hid (And.intro hc (HB8.out.below.trans (hb.below (by have := HG6.out; simp; omega) HB8.out.below.size))); clear hc hb hs))
          exact ret_st2 rfl rfl g6 _ rfl HX.out.1 under31 rfl size31 ⟨rfl, HX.out.2⟩
        · exact absurd rfl h
        · clear HC
          try simp only [Mp.v, Mp.z]
          go_wp2_with (first | (refine wpList_build_z31 rfl rfl ?_) | (refine wpList_store_st rfl 31 _ _ rfl g6 [.bool false, .int .i64 0, .bool false, .bool false] rfl rfl (HB9.out.get 1 rfl) size31 rfl rfl ?_; intro w9 hc hb hs; have HX := hid (And.intro hc (HB9.out.below.trans (hb.below (by have := HG6.out; simp; omega) HB9.out.below.size))); clear hc hb hs))
          exact ret_st2 rfl rfl g6 _ rfl HX.out.1 under31 rfl size31 ⟨rfl, HX.out.2⟩
        · exact absurd rfl h
        · clear HC
          try simp only [Mp.v, Mp.z]
          go_upto_region 7 with fail
          refine wp_region_held_drew (S := fun w => Bag W w [(g11, 31, [.bool ms, .int .i64 mp, .bool mw, .bool mx]), (g6, 31, [.bool false, .int .i64 0, .bool false, .bool false])]) (by kernel_rfl) (HB9.out.on (Below.refl _ _).drew) (fun hHeld => ?_)
          have HB9b := hid (HB9.out.on (Below.refl _ _).drew)
          clear HB9
          have HB9 := HB9b
          clear HB9b
          generalize World.drew _ = w7 at *
          refine tk 0 ⟨some 39, .move (.tmp 10), 3, "ref.go:174", #[], none⟩ (.int .i64 90) ?_
          simp only [Act.put, List.setIfInBounds_toArray, List.set_cons_zero, List.set_cons_succ]
          refine tk 1 ⟨some 40, .binOp .neq 3 (.tmp 39) (.const (.int .i64 0)) 3, 4, "ref.go:174", #[⟨0, .data⟩], none⟩ (.bool true) ?_
          simp only [Act.put, List.setIfInBounds_toArray, List.set_cons_zero, List.set_cons_succ]
          refine tk 2 ⟨some 41, .move (.tmp 40), 4, "ref.go:174", #[⟨1, .data⟩], none⟩ (.bool true) ?_
          simp only [Act.put, List.setIfInBounds_toArray, List.set_cons_zero, List.set_cons_succ]
          refine tk 3 ⟨some 42, .move (.tmp 0), 45, "ref.go:174", #[⟨2, .guard⟩], some (2, false)⟩ undef ?_ (hy := Or.inr ⟨by rfl, rfl⟩)
          simp only [Act.put, List.setIfInBounds_toArray, List.set_cons_zero, List.set_cons_succ]
          refine tk 4 ⟨some 43, .nilCheck (.tmp 42), 0, "ref.go:174", #[⟨3, .data⟩, ⟨2, .guard⟩], some (2, false)⟩ undef ?_ (hy := Or.inr ⟨by rfl, rfl⟩)
          simp only [Act.put, List.setIfInBounds_toArray, List.set_cons_zero, List.set_cons_succ]
          refine tk 5 ⟨some 44, .fieldAddr 70 (.tmp 43) 0, 0, "ref.go:174", #[⟨4, .data⟩, ⟨2, .guard⟩], some (2, false)⟩ undef ?_ (hy := Or.inr ⟨by rfl, rfl⟩)
          simp only [Act.put, List.setIfInBounds_toArray, List.set_cons_zero, List.set_cons_succ]
          refine tk 6 ⟨some 45, .load 40 (.tmp 44), 40, "ref.go:174", #[⟨5, .data⟩, ⟨2, .guard⟩], some (2, false)⟩ undef ?_ (hy := Or.inr ⟨by rfl, rfl⟩)
          simp only [Act.put, List.setIfInBounds_toArray, List.set_cons_zero, List.set_cons_succ]
          refine tk 7 ⟨some 46, .fieldAddr 31 (.tmp 11) 0, 0, "ref.go:174", #[⟨2, .guard⟩], some (2, false)⟩ undef ?_ (hy := Or.inr ⟨by rfl, rfl⟩)
          simp only [Act.put, List.setIfInBounds_toArray, List.set_cons_zero, List.set_cons_succ]
          refine tk 8 ⟨some 47, .load 4 (.tmp 46), 4, "ref.go:174", #[⟨7, .data⟩, ⟨2, .guard⟩], some (2, false)⟩ undef ?_ (hy := Or.inr ⟨by rfl, rfl⟩)
          simp only [Act.put, List.setIfInBounds_toArray, List.set_cons_zero, List.set_cons_succ]
          refine tk 9 ⟨some 48, .fieldAddr 31 (.tmp 11) 1, 0, "ref.go:174", #[⟨2, .guard⟩], some (2, false)⟩ undef ?_ (hy := Or.inr ⟨by rfl, rfl⟩)
          simp only [Act.put, List.setIfInBounds_toArray, List.set_cons_zero, List.set_cons_succ]
          refine tk 10 ⟨some 49, .load 3 (.tmp 48), 3, "ref.go:174", #[⟨9, .data⟩, ⟨2, .guard⟩], some (2, false)⟩ undef ?_ (hy := Or.inr ⟨by rfl, rfl⟩)
          simp only [Act.put, List.setIfInBounds_toArray, List.set_cons_zero, List.set_cons_succ]
          refine tk 11 ⟨some 50, .build 72 #[(0, .tmp 47), (1, .tmp 49)], 72, "ref.go:174", #[⟨8, .data⟩, ⟨10, .data⟩, ⟨2, .guard⟩], some (2, false)⟩ undef ?_ (hy := Or.inr ⟨by rfl, rfl⟩)
          simp only [Act.put, List.setIfInBounds_toArray, List.set_cons_zero, List.set_cons_succ]
          refine tk 12 ⟨some 51, .call { callee := .value (.func 94), args := #[.tmp 45, .tmp 50], argTypes := #[40, 72] }, 4, "ref.go:174", #[⟨6, .data⟩, ⟨11, .data⟩, ⟨2, .chain⟩, ⟨2, .guard⟩], some (2, false)⟩ undef ?_ (hy := Or.inr ⟨by rfl, rfl⟩)
          simp only [Act.put, List.setIfInBounds_toArray, List.set_cons_zero, List.set_cons_succ]
          refine tk 13 ⟨some 52, .unOp .not 4 (.tmp 51), 4, "ref.go:174", #[⟨12, .data⟩, ⟨2, .guard⟩], some (2, false)⟩ undef ?_ (hy := Or.inr ⟨by rfl, rfl⟩)
          simp only [Act.put, List.setIfInBounds_toArray, List.set_cons_zero, List.set_cons_succ]
          refine tk 14 ⟨some 53, .pick (.tmp 41) (.const (.bool true)) (.tmp 52), 4, "ref.go:174", #[⟨2, .data⟩, ⟨13, .data⟩], none⟩ (.bool true) ?_
          simp only [Act.put, List.setIfInBounds_toArray, List.set_cons_zero, List.set_cons_succ]
          refine wpAnyH_done (by kernel_rfl) ?_ _
          go_wp2_with (first | (refine wpList_build_z31 rfl rfl ?_) | (refine wpList_store_st rfl 31 _ _ rfl g6 [.bool false, .int .i64 0, .bool false, .bool false] rfl rfl (HB9.out.get 1 rfl) size31 rfl rfl ?_; intro w9 hc hb hs; have HX := hid (And.intro hc (HB9.out.below.trans (hb.below (by have := HG6.out; simp; omega) HB9.out.below.size))); clear hc hb hs))
          exact ret_st2 rfl rfl g6 _ rfl HX.out.1 under31 rfl size31 ⟨rfl, HX.out.2⟩
        · exact absurd rfl h
    · go_simp
      have HB3 : Hid (Bag W ((w2).alloc (.cells #[.bool false, .int .i64 0, .bool false, .bool false] 31)) [(w2.heap.size, 31, [.bool false, .int .i64 0, .bool false, .bool false]), (g6, 31, [.bool false, .int .i64 0, .bool false, .bool false])]) := hid (HB2.out.new 31 [.bool false, .int .i64 0, .bool false, .bool false])
      have HNE : Hid (w2.heap.size ≠ g6) := hid (by have := (HB2.out.get 0 rfl).lt; omega)
      have HG11 : Hid (W.heap.size ≤ w2.heap.size) := hid HB2.out.below.size
      clear HB2
      generalize World.alloc w2 _ = w3 at *
      generalize w2.heap.size = g11 at *
      refine hK.out _ _ HB3.out.below (fun hHeld => ?_)
      clear hK KQ
      try simp only [Act.put, List.setIfInBounds_toArray, List.set_cons_zero, List.set_cons_succ]
      refine wpAnyH_ready (rs := [5]) (by kernel_rfl) (by simp) (AllReadyH.cons (o := ⟨some 30, .call { callee := .value (.func 74), args := #[.tmp 29], argTypes := #[3] }, 72, "ref.go:170", #[⟨4, .data⟩], none⟩) rfl (fun KQ hK => ?_) AllReadyH.nil)
      go_simp
      refine (rsec_any _ pg).mono ?_
      rintro e w4 ⟨rfl, hb⟩
      have HB4 := hid (HB3.out.on hb)
      clear hb HB3
      go_wp2_with fail
      refine hK.out _ _ HB4.out.below (fun hHeld => ?_)
      clear hK KQ
      try simp only [Act.put, List.setIfInBounds_toArray, List.set_cons_zero, List.set_cons_succ]
      refine wpAnyH_ready (rs := [7]) (by kernel_rfl) (by simp) (AllReadyH.cons (o := ⟨some 32, .call { callee := .value (.func 51), args := #[.tmp 28, .tmp 30, .tmp 31], argTypes := #[40, 72, 3] }, 29, "ref.go:170", #[⟨3, .data⟩, ⟨5, .data⟩, ⟨6, .data⟩, ⟨5, .chain⟩], none⟩) rfl (fun KQ hK => ?_) AllReadyH.nil)
      go_simp
      refine (HP.out _ HB4.out.below).mono ?_
      rintro e w5 ⟨rfl, hb⟩
      have HB5 := hid (HB4.out.on hb)
      clear hb HB4
      go_wp2_with fail
      refine hK.out _ _ HB5.out.below (fun hHeld => ?_)
      clear hK KQ
      try simp only [Act.put, List.setIfInBounds_toArray, List.set_cons_zero, List.set_cons_succ]
      refine wpAnyH_ready (rs := [8]) (by kernel_rfl) (by simp) (AllReadyH.cons (o := ⟨some 33, .call { callee := .value (.func 93), args := #[.tmp 32], argTypes := #[29] }, 93, "ref.go:170", #[⟨7, .data⟩, ⟨7, .chain⟩], none⟩) rfl (fun KQ hK => ?_) AllReadyH.nil)
      go_simp
      refine (HPs.out _).mono ?_
      rintro e w6 ⟨rfl, hb⟩
      have HB6 := hid (HB5.out.on hb)
      clear hb HB5
      go_wp2_with fail
      refine hK.out _ _ HB6.out.below (fun hHeld => ?_)
      clear hK KQ
      try simp only [Act.put, List.setIfInBounds_toArray, List.set_cons_zero, List.set_cons_succ]
      refine tk 9 ⟨some 24, .move (.tmp 33), 93, "ref.go:170", #[⟨8, .data⟩], none⟩ (.tuple #[.agg #[.bool ms, .int .i64 mp, .bool mw, .bool mx], .int .i64 pe]) ?_
      simp only [Act.put, List.setIfInBounds_toArray, List.set_cons_zero, List.set_cons_succ]
      refine tk 10 ⟨some 34, .extract (.tmp 24) 0, 31, "ref.go:170", #[⟨9, .data⟩], none⟩ (.agg #[.bool ms, .int .i64 mp, .bool mw, .bool mx]) ?_
      simp only [Act.put, List.setIfInBounds_toArray, List.set_cons_zero, List.set_cons_succ]
      refine tk 11 ⟨some 35, .extract (.tmp 24) 1, 3, "ref.go:170", #[⟨9, .data⟩, { on := 13, ground := .gcOnly Departure.lateStores }], none⟩ (.int .i64 pe) ?_
      simp only [Act.put, List.setIfInBounds_toArray, List.set_cons_zero, List.set_cons_succ]
      refine wpAnyH_ready (rs := [13]) (by kernel_rfl) (by simp) (AllReadyH.cons (o := ⟨none, .store 31 (.tmp 11) (.tmp 34), 0, "ref.go:170", #[⟨12, .data⟩, ⟨10, .data⟩, ⟨8, .chain⟩, ⟨0, .phase⟩, ⟨1, .phase⟩, ⟨2, .phase⟩, ⟨3, .phase⟩, ⟨4, .phase⟩, ⟨5, .phase⟩, ⟨6, .phase⟩, ⟨7, .phase⟩, ⟨8, .phase⟩, ⟨9, .phase⟩, ⟨10, .phase⟩, { on := 11, ground := .textOnly Departure.lateStores }, ⟨12, .phase⟩], none⟩) rfl (fun KQ hK => ?_) AllReadyH.nil)
      rw [if_pos (by rfl)]
      refine wp_store_st 31 _ _ rfl g11 [.bool ms, .int .i64 mp, .bool mw, .bool mx] rfl rfl (HB6.out.get 0 rfl) size31 rfl rfl ?_
      intro w7 hc hb hs
      have HB7 : Hid (Bag W w7 [(g11, 31, [.bool ms, .int .i64 mp, .bool mw, .bool mx]), (g6, 31, [.bool false, .int .i64 0, .bool false, .bool false])]) := hid (HB6.out.put 0 rfl HG11.out (fun i q hq hn => by rcases i with _ | _ | i; exact absurd rfl hn; (simp only [List.getElem?_cons_succ, List.getElem?_cons_zero, Option.some.injEq] at hq; subst hq; exact fun e => HNE.out e.symm); (simp at hq)) hc hb)
      clear hc hb hs HB6
      refine hK.out _ _ HB7.out.below (fun hHeld => ?_)
      clear hK KQ
      try simp only [Act.put]
      refine wpAnyH_ready (rs := [14]) (by kernel_rfl) (by simp) (AllReadyH.cons (o := ⟨some 10, .assign (.tmp 35), 3, "ref.go:170", #[⟨11, .data⟩, ⟨13, .chain⟩, ⟨0, .phase⟩, ⟨1, .phase⟩, ⟨2, .phase⟩, ⟨3, .phase⟩, ⟨4, .phase⟩, ⟨5, .phase⟩, ⟨6, .phase⟩, ⟨7, .phase⟩, ⟨8, .phase⟩, ⟨9, .phase⟩, ⟨10, .phase⟩, ⟨11, .phase⟩, ⟨12, .phase⟩, ⟨13, .phase⟩], none⟩) rfl (fun KQ hK => ?_) AllReadyH.nil)
      go_simp
      refine hK.out _ _ HB7.out.below (fun hHeld => ?_)
      clear hK KQ
      try simp only [Act.put, List.setIfInBounds_toArray, List.set_cons_zero, List.set_cons_succ]
      refine wpAnyH_done (by kernel_rfl) ?_ _
      have HB9 := hid HB7.out
      clear HB7
      rcases HC.out with ⟨rfl, rfl, ⟨-, rfl, rfl⟩ | ⟨h, -⟩⟩ | ⟨rfl, rfl, ⟨-, rfl, rfl⟩ | ⟨h, -⟩⟩ | ⟨rfl, ⟨-, rfl, rfl⟩ | ⟨h, -⟩⟩ | ⟨rfl, ⟨-, rfl, rfl⟩ | ⟨h, -⟩⟩
      · clear HC
        try simp only [Mp.v]
        go_upto_region 7 with fail
        refine wp_region_held_drew (S := fun w => Bag W w [(g11, 31, [.bool ms, .int .i64 mp, .bool mw, .bool mx]), (g6, 31, [.bool false, .int .i64 0, .bool false, .bool false])]) (by kernel_rfl) (HB9.out.on (Below.refl _ _).drew) (fun hHeld => ?_)
        have HB9b := hid (HB9.out.on (Below.refl _ _).drew)
        clear HB9
        have HB9 := HB9b
        clear HB9b
        generalize World.drew _ = w7 at *
        refine tk 0 ⟨some 39, .move (.tmp 10), 3, "ref.go:174", #[], none⟩ (.int .i64 0) ?_
        simp only [Act.put, List.setIfInBounds_toArray, List.set_cons_zero, List.set_cons_succ]
        refine tk 1 ⟨some 40, .binOp .neq 3 (.tmp 39) (.const (.int .i64 0)) 3, 4, "ref.go:174", #[⟨0, .data⟩], none⟩ (.bool false) ?_
        simp only [Act.put, List.setIfInBounds_toArray, List.set_cons_zero, List.set_cons_succ]
        refine tk 2 ⟨some 41, .move (.tmp 40), 4, "ref.go:174", #[⟨1, .data⟩], none⟩ (.bool false) ?_
        simp only [Act.put, List.setIfInBounds_toArray, List.set_cons_zero, List.set_cons_succ]
        refine tk 3 ⟨some 42, .move (.tmp 0), 45, "ref.go:174", #[⟨2, .guard⟩], some (2, false)⟩ (.pointer (some ⟨p.g, 0, none⟩)) ?_
        simp only [Act.put, List.setIfInBounds_toArray, List.set_cons_zero, List.set_cons_succ]
        refine tk 4 ⟨some 43, .nilCheck (.tmp 42), 0, "ref.go:174", #[⟨3, .data⟩, ⟨2, .guard⟩], some (2, false)⟩ (.pointer (some ⟨p.g, 0, none⟩)) ?_
        simp only [Act.put, List.setIfInBounds_toArray, List.set_cons_zero, List.set_cons_succ]
        refine tk 5 ⟨some 44, .fieldAddr 70 (.tmp 43) 0, 0, "ref.go:174", #[⟨4, .data⟩, ⟨2, .guard⟩], some (2, false)⟩ (.pointer (some ⟨p.g, 0, none⟩)) ?_
        simp only [Act.put, List.setIfInBounds_toArray, List.set_cons_zero, List.set_cons_succ]
        refine tk 6 ⟨some 45, .load 40 (.tmp 44), 40, "ref.go:174", #[⟨5, .data⟩, ⟨2, .guard⟩], some (2, false)⟩ (.pointer (some ⟨p.r.g, 0, none⟩)) ?_ (hy := Or.inl ⟨by rfl, by intro w hSw; have z := HZ.out w hSw.below; go_simp⟩)
        simp only [Act.put, List.setIfInBounds_toArray, List.set_cons_zero, List.set_cons_succ]
        refine tk 7 ⟨some 46, .fieldAddr 31 (.tmp 11) 0, 0, "ref.go:174", #[⟨2, .guard⟩], some (2, false)⟩ (.pointer (some ⟨g11, 0, none⟩)) ?_
        simp only [Act.put, List.setIfInBounds_toArray, List.set_cons_zero, List.set_cons_succ]
        refine tk 8 ⟨some 47, .load 4 (.tmp 46), 4, "ref.go:174", #[⟨7, .data⟩, ⟨2, .guard⟩], some (2, false)⟩ (.bool ms) ?_ (hy := Or.inl ⟨by rfl, by intro w hSw; have z := (hSw.get 0 rfl).cell 0; simp only [List.getElem?_cons_zero] at z; go_simp⟩)
        simp only [Act.put, List.setIfInBounds_toArray, List.set_cons_zero, List.set_cons_succ]
        refine tk 9 ⟨some 48, .fieldAddr 31 (.tmp 11) 1, 0, "ref.go:174", #[⟨2, .guard⟩], some (2, false)⟩ (.pointer (some ⟨g11, 1, none⟩)) ?_
        simp only [Act.put, List.setIfInBounds_toArray, List.set_cons_zero, List.set_cons_succ]
        refine tk 10 ⟨some 49, .load 3 (.tmp 48), 3, "ref.go:174", #[⟨9, .data⟩, ⟨2, .guard⟩], some (2, false)⟩ (.int .i64 mp) ?_ (hy := Or.inl ⟨by rfl, by intro w hSw; have z := (hSw.get 0 rfl).cell 1; simp only [List.getElem?_cons_zero, List.getElem?_cons_succ] at z; go_simp⟩)
        simp only [Act.put, List.setIfInBounds_toArray, List.set_cons_zero, List.set_cons_succ]
        refine tk 11 ⟨some 50, .build 72 #[(0, .tmp 47), (1, .tmp 49)], 72, "ref.go:174", #[⟨8, .data⟩, ⟨10, .data⟩, ⟨2, .guard⟩], some (2, false)⟩ (.agg #[.bool ms, .int .i64 mp]) ?_
        simp only [Act.put, List.setIfInBounds_toArray, List.set_cons_zero, List.set_cons_succ]
        refine wpAnyH_ready (rs := [12]) (by kernel_rfl) (by simp) (AllReadyH.cons (o := ⟨some 51, .call { callee := .value (.func 94), args := #[.tmp 45, .tmp 50], argTypes := #[40, 72] }, 4, "ref.go:174", #[⟨6, .data⟩, ⟨11, .data⟩, ⟨2, .chain⟩, ⟨2, .guard⟩], some (2, false)⟩) rfl (fun KQ hK => ?_) AllReadyH.nil)
        go_simp
        refine (HH.out _ HB9.out.below).mono ?_
        rintro e w8 ⟨rfl, hb8⟩
        have HB8 := hid (HB9.out.on hb8)
        clear hb8 HB9
        go_wp2_with fail
        refine hK.out _ _ HB8.out (fun hHeld => ?_)
        clear hK KQ
        try simp only [Act.put, List.setIfInBounds_toArray, List.set_cons_zero, List.set_cons_succ]
        refine tk 13 ⟨some 52, .unOp .not 4 (.tmp 51), 4, "ref.go:174", #[⟨12, .data⟩, ⟨2, .guard⟩], some (2, false)⟩ (.bool false) ?_
        simp only [Act.put, List.setIfInBounds_toArray, List.set_cons_zero, List.set_cons_succ]
        refine tk 14 ⟨some 53, .pick (.tmp 41) (.const (.bool true)) (.tmp 52), 4, "ref.go:174", #[⟨2, .data⟩, ⟨13, .data⟩], none⟩ (.bool false) ?_
        simp only [Act.put, List.setIfInBounds_toArray, List.set_cons_zero, List.set_cons_succ]
        refine wpAnyH_done (by kernel_rfl) ?_ _
        go_wp2_with (first | (refine wpList_load_g rfl 31 _ rfl g11 rfl (HB8.out.get 0 rfl) rfl under31 size31 ?_) | (refine wpList_store_st rfl 31 _ _ rfl g6 [.bool ms, .int .i64 mp, .bool mw, .bool mx] rfl rfl (HB8.out.get 1 rfl) size31 rfl rfl ?_; intro w9 hc hb hs; have HX := hid (And.intro hc (HB8.out.below.trans (hb.below (by have := HG6.out; simp; omega) HB8.out.below.size))); clear hc hb hs))
        exact ret_st2 rfl rfl g6 _ rfl HX.out.1 under31 rfl size31 ⟨rfl, HX.out.2⟩
      · exact absurd rfl h
      · clear HC
        try simp only [Mp.v, Mp.z]
        go_upto_region 7 with fail
        refine wp_region_held_drew (S := fun w => Bag W w [(g11, 31, [.bool ms, .int .i64 mp, .bool mw, .bool mx]), (g6, 31, [.bool false, .int .i64 0, .bool false, .bool false])]) (by kernel_rfl) (HB9.out.on (Below.refl _ _).drew) (fun hHeld => ?_)
        have HB9b := hid (HB9.out.on (Below.refl _ _).drew)
        clear HB9
        have HB9 := HB9b
        clear HB9b
        generalize World.drew _ = w7 at *
        refine tk 0 ⟨some 39, .move (.tmp 10), 3, "ref.go:174", #[], none⟩ (.int .i64 0) ?_
        simp only [Act.put, List.setIfInBounds_toArray, List.set_cons_zero, List.set_cons_succ]
        refine tk 1 ⟨some 40, .binOp .neq 3 (.tmp 39) (.const (.int .i64 0)) 3, 4, "ref.go:174", #[⟨0, .data⟩], none⟩ (.bool false) ?_
        simp only [Act.put, List.setIfInBounds_toArray, List.set_cons_zero, List.set_cons_succ]
        refine tk 2 ⟨some 41, .move (.tmp 40), 4, "ref.go:174", #[⟨1, .data⟩], none⟩ (.bool false) ?_
        simp only [Act.put, List.setIfInBounds_toArray, List.set_cons_zero, List.set_cons_succ]
        refine tk 3 ⟨some 42, .move (.tmp 0), 45, "ref.go:174", #[⟨2, .guard⟩], some (2, false)⟩ (.pointer (some ⟨p.g, 0, none⟩)) ?_
        simp only [Act.put, List.setIfInBounds_toArray, List.set_cons_zero, List.set_cons_succ]
        refine tk 4 ⟨some 43, .nilCheck (.tmp 42), 0, "ref.go:174", #[⟨3, .data⟩, ⟨2, .guard⟩], some (2, false)⟩ (.pointer (some ⟨p.g, 0, none⟩)) ?_
        simp only [Act.put, List.setIfInBounds_toArray, List.set_cons_zero, List.set_cons_succ]
        refine tk 5 ⟨some 44, .fieldAddr 70 (.tmp 43) 0, 0, "ref.go:174", #[⟨4, .data⟩, ⟨2, .guard⟩], some (2, false)⟩ (.pointer (some ⟨p.g, 0, none⟩)) ?_
        simp only [Act.put, List.setIfInBounds_toArray, List.set_cons_zero, List.set_cons_succ]
        refine tk 6 ⟨some 45, .load 40 (.tmp 44), 40, "ref.go:174", #[⟨5, .data⟩, ⟨2, .guard⟩], some (2, false)⟩ (.pointer (some ⟨p.r.g, 0, none⟩)) ?_ (hy := Or.inl ⟨by rfl, by intro w hSw; have z := HZ.out w hSw.below; go_simp⟩)
        simp only [Act.put, List.setIfInBounds_toArray, List.set_cons_zero, List.set_cons_succ]
        refine tk 7 ⟨some 46, .fieldAddr 31 (.tmp 11) 0, 0, "ref.go:174", #[⟨2, .guard⟩], some (2, false)⟩ (.pointer (some ⟨g11, 0, none⟩)) ?_
        simp only [Act.put, List.setIfInBounds_toArray, List.set_cons_zero, List.set_cons_succ]
        refine tk 8 ⟨some 47, .load 4 (.tmp 46), 4, "ref.go:174", #[⟨7, .data⟩, ⟨2, .guard⟩], some (2, false)⟩ (.bool ms) ?_ (hy := Or.inl ⟨by rfl, by intro w hSw; have z := (hSw.get 0 rfl).cell 0; simp only [List.getElem?_cons_zero] at z; go_simp⟩)
        simp only [Act.put, List.setIfInBounds_toArray, List.set_cons_zero, List.set_cons_succ]
        refine tk 9 ⟨some 48, .fieldAddr 31 (.tmp 11) 1, 0, "ref.go:174", #[⟨2, .guard⟩], some (2, false)⟩ (.pointer (some ⟨g11, 1, none⟩)) ?_
        simp only [Act.put, List.setIfInBounds_toArray, List.set_cons_zero, List.set_cons_succ]
        refine tk 10 ⟨some 49, .load 3 (.tmp 48), 3, "ref.go:174", #[⟨9, .data⟩, ⟨2, .guard⟩], some (2, false)⟩ (.int .i64 mp) ?_ (hy := Or.inl ⟨by rfl, by intro w hSw; have z := (hSw.get 0 rfl).cell 1; simp only [List.getElem?_cons_zero, List.getElem?_cons_succ] at z; go_simp⟩)
        simp only [Act.put, List.setIfInBounds_toArray, List.set_cons_zero, List.set_cons_succ]
        refine tk 11 ⟨some 50, .build 72 #[(0, .tmp 47), (1, .tmp 49)], 72, "ref.go:174", #[⟨8, .data⟩, ⟨10, .data⟩, ⟨2, .guard⟩], some (2, false)⟩ (.agg #[.bool ms, .int .i64 mp]) ?_
        simp only [Act.put, List.setIfInBounds_toArray, List.set_cons_zero, List.set_cons_succ]
        refine wpAnyH_ready (rs := [12]) (by kernel_rfl) (by simp) (AllReadyH.cons (o := ⟨some 51, .call { callee := .value (.func 94), args := #[.tmp 45, .tmp 50], argTypes := #[40, 72] }, 4, "ref.go:174", #[⟨6, .data⟩, ⟨11, .data⟩, ⟨2, .chain⟩, ⟨2, .guard⟩], some (2, false)⟩) rfl (fun KQ hK => ?_) AllReadyH.nil)
        go_simp
        refine (HH.out _ HB9.out.below).mono ?_
        rintro e w8 ⟨rfl, hb8⟩
        have HB8 := hid (HB9.out.on hb8)
        clear hb8 HB9
        go_wp2_with fail
        refine hK.out _ _ HB8.out (fun hHeld => ?_)
        clear hK KQ
        try simp only [Act.put, List.setIfInBounds_toArray, List.set_cons_zero, List.set_cons_succ]
        refine tk 13 ⟨some 52, .unOp .not 4 (.tmp 51), 4, "ref.go:174", #[⟨12, .data⟩, ⟨2, .guard⟩], some (2, false)⟩ (.bool true) ?_
        simp only [Act.put, List.setIfInBounds_toArray, List.set_cons_zero, List.set_cons_succ]
        refine tk 14 ⟨some 53, .pick (.tmp 41) (.const (.bool true)) (.tmp 52), 4, "ref.go:174", #[⟨2, .data⟩, ⟨13, .data⟩], none⟩ (.bool true) ?_
        simp only [Act.put, List.setIfInBounds_toArray, List.set_cons_zero, List.set_cons_succ]
        refine wpAnyH_done (by kernel_rfl) ?_ _
        go_wp2_with (first | (refine wpList_build_z31 rfl rfl ?_) | (refine wpList_store_st rfl 31 _ _ rfl g6 [.bool false, .int .i64 0, .bool false, .bool false] rfl rfl (HB8.out.get 1 rfl) size31 rfl rfl ?_; intro w9 hc hb hs; have HX := hid (And.intro hc (HB8.out.below.trans (hb.below (by have := HG6.out; simp; omega) HB8.out.below.size))); clear hc hb hs))
        exact ret_st2 rfl rfl g6 _ rfl HX.out.1 under31 rfl size31 ⟨rfl, HX.out.2⟩
      · exact absurd rfl h
      · clear HC
        try simp only [Mp.v, Mp.z]
        go_wp2_with (first | (refine wpList_build_z31 rfl rfl ?_) | (refine wpList_store_st rfl 31 _ _ rfl g6 [.bool false, .int .i64 0, .bool false, .bool false] rfl rfl (HB9.out.get 1 rfl) size31 rfl rfl ?_; intro w9 hc hb hs; have HX := hid (And.intro hc (HB9.out.below.trans (hb.below (by have := HG6.out; simp; omega) HB9.out.below.size))); clear hc hb hs))
        exact ret_st2 rfl rfl g6 _ rfl HX.out.1 under31 rfl size31 ⟨rfl, HX.out.2⟩
      · exact absurd rfl h
      · clear HC
        try simp only [Mp.v, Mp.z]
        go_upto_region 7 with fail
        refine wp_region_held_drew (S := fun w => Bag W w [(g11, 31, [.bool ms, .int .i64 mp, .bool mw, .bool mx]), (g6, 31, [.bool false, .int .i64 0, .bool false, .bool false])]) (by kernel_rfl) (HB9.out.on (Below.refl _ _).drew) (fun hHeld => ?_)
        have HB9b := hid (HB9.out.on (Below.refl _ _).drew)
        clear HB9
        have HB9 := HB9b
        clear HB9b
        generalize World.drew _ = w7 at *
        refine tk 0 ⟨some 39, .move (.tmp 10), 3, "ref.go:174", #[], none⟩ (.int .i64 90) ?_
        simp only [Act.put, List.setIfInBounds_toArray, List.set_cons_zero, List.set_cons_succ]
        refine tk 1 ⟨some 40, .binOp .neq 3 (.tmp 39) (.const (.int .i64 0)) 3, 4, "ref.go:174", #[⟨0, .data⟩], none⟩ (.bool true) ?_
        simp only [Act.put, List.setIfInBounds_toArray, List.set_cons_zero, List.set_cons_succ]
        refine tk 2 ⟨some 41, .move (.tmp 40), 4, "ref.go:174", #[⟨1, .data⟩], none⟩ (.bool true) ?_
        simp only [Act.put, List.setIfInBounds_toArray, List.set_cons_zero, List.set_cons_succ]
        refine tk 3 ⟨some 42, .move (.tmp 0), 45, "ref.go:174", #[⟨2, .guard⟩], some (2, false)⟩ undef ?_ (hy := Or.inr ⟨by rfl, rfl⟩)
        simp only [Act.put, List.setIfInBounds_toArray, List.set_cons_zero, List.set_cons_succ]
        refine tk 4 ⟨some 43, .nilCheck (.tmp 42), 0, "ref.go:174", #[⟨3, .data⟩, ⟨2, .guard⟩], some (2, false)⟩ undef ?_ (hy := Or.inr ⟨by rfl, rfl⟩)
        simp only [Act.put, List.setIfInBounds_toArray, List.set_cons_zero, List.set_cons_succ]
        refine tk 5 ⟨some 44, .fieldAddr 70 (.tmp 43) 0, 0, "ref.go:174", #[⟨4, .data⟩, ⟨2, .guard⟩], some (2, false)⟩ undef ?_ (hy := Or.inr ⟨by rfl, rfl⟩)
        simp only [Act.put, List.setIfInBounds_toArray, List.set_cons_zero, List.set_cons_succ]
        refine tk 6 ⟨some 45, .load 40 (.tmp 44), 40, "ref.go:174", #[⟨5, .data⟩, ⟨2, .guard⟩], some (2, false)⟩ undef ?_ (hy := Or.inr ⟨by rfl, rfl⟩)
        simp only [Act.put, List.setIfInBounds_toArray, List.set_cons_zero, List.set_cons_succ]
        refine tk 7 ⟨some 46, .fieldAddr 31 (.tmp 11) 0, 0, "ref.go:174", #[⟨2, .guard⟩], some (2, false)⟩ undef ?_ (hy := Or.inr ⟨by rfl, rfl⟩)
        simp only [Act.put, List.setIfInBounds_toArray, List.set_cons_zero, List.set_cons_succ]
        refine tk 8 ⟨some 47, .load 4 (.tmp 46), 4, "ref.go:174", #[⟨7, .data⟩, ⟨2, .guard⟩], some (2, false)⟩ undef ?_ (hy := Or.inr ⟨by rfl, rfl⟩)
        simp only [Act.put, List.setIfInBounds_toArray, List.set_cons_zero, List.set_cons_succ]
        refine tk 9 ⟨some 48, .fieldAddr 31 (.tmp 11) 1, 0, "ref.go:174", #[⟨2, .guard⟩], some (2, false)⟩ undef ?_ (hy := Or.inr ⟨by rfl, rfl⟩)
        simp only [Act.put, List.setIfInBounds_toArray, List.set_cons_zero, List.set_cons_succ]
        refine tk 10 ⟨some 49, .load 3 (.tmp 48), 3, "ref.go:174", #[⟨9, .data⟩, ⟨2, .guard⟩], some (2, false)⟩ undef ?_ (hy := Or.inr ⟨by rfl, rfl⟩)
        simp only [Act.put, List.setIfInBounds_toArray, List.set_cons_zero, List.set_cons_succ]
        refine tk 11 ⟨some 50, .build 72 #[(0, .tmp 47), (1, .tmp 49)], 72, "ref.go:174", #[⟨8, .data⟩, ⟨10, .data⟩, ⟨2, .guard⟩], some (2, false)⟩ undef ?_ (hy := Or.inr ⟨by rfl, rfl⟩)
        simp only [Act.put, List.setIfInBounds_toArray, List.set_cons_zero, List.set_cons_succ]
        refine tk 12 ⟨some 51, .call { callee := .value (.func 94), args := #[.tmp 45, .tmp 50], argTypes := #[40, 72] }, 4, "ref.go:174", #[⟨6, .data⟩, ⟨11, .data⟩, ⟨2, .chain⟩, ⟨2, .guard⟩], some (2, false)⟩ undef ?_ (hy := Or.inr ⟨by rfl, rfl⟩)
        simp only [Act.put, List.setIfInBounds_toArray, List.set_cons_zero, List.set_cons_succ]
        refine tk 13 ⟨some 52, .unOp .not 4 (.tmp 51), 4, "ref.go:174", #[⟨12, .data⟩, ⟨2, .guard⟩], some (2, false)⟩ undef ?_ (hy := Or.inr ⟨by rfl, rfl⟩)
        simp only [Act.put, List.setIfInBounds_toArray, List.set_cons_zero, List.set_cons_succ]
        refine tk 14 ⟨some 53, .pick (.tmp 41) (.const (.bool true)) (.tmp 52), 4, "ref.go:174", #[⟨2, .data⟩, ⟨13, .data⟩], none⟩ (.bool true) ?_
        simp only [Act.put, List.setIfInBounds_toArray, List.set_cons_zero, List.set_cons_succ]
        refine wpAnyH_done (by kernel_rfl) ?_ _
        go_wp2_with (first | (refine wpList_build_z31 rfl rfl ?_) | (refine wpList_store_st rfl 31 _ _ rfl g6 [.bool false, .int .i64 0, .bool false, .bool false] rfl rfl (HB9.out.get 1 rfl) size31 rfl rfl ?_; intro w9 hc hb hs; have HX := hid (And.intro hc (HB9.out.below.trans (hb.below (by have := HG6.out; simp; omega) HB9.out.below.size))); clear hc hb hs))
        exact ret_st2 rfl rfl g6 _ rfl HX.out.1 under31 rfl size31 ⟨rfl, HX.out.2⟩
      · exact absurd rfl h
  · have HC2 : Hid (F = fo ∧ M = Mp.z) := hid (by rcases HC.out with ⟨_, _, h | h⟩ | ⟨_, _, h | h⟩ | ⟨_, h | h⟩ | ⟨_, h | h⟩ <;> first | exact h.2 | exact absurd h.1 hfo)
    clear HC
    have e1 := HC2.out.1
    have e2 := HC2.out.2
    clear HC2
    subst e1 e2
    rw [if_neg hfo, if_neg hfo] at HE
    have h8 : (F == 0) = false := by simpa using hfo
    simp only [Mp.z, Mp.v]
    go_enter Tryz.func41, Tryz.ntmps41
    go_upto_region 1 with fail
    generalize World.alloc W _ = w0 at *
    generalize hg6 : W.heap.size = g6 at HB0 ⊢
    have HG6 : Hid (W.heap.size ≤ g6) := hid (Nat.le_of_eq hg6)
    clear hg6
    go_wp2_with fail
    refine (HE.out _ HB0.out.below).mono ?_
    rintro e w1 ⟨rfl, hb1⟩
    have HB1 := hid (HB0.out.on hb1)
    clear hb1 HE HB0
    go_wp2_with (first | (refine wpList_build_z31 rfl rfl ?_) | (refine wpList_store_st rfl 31 _ _ rfl g6 [.bool false, .int .i64 0, .bool false, .bool false] rfl rfl (HB1.out.get 0 rfl) size31 rfl rfl ?_; intro w9 hc hb hs; have HX := hid (And.intro hc (HB1.out.below.trans (hb.below (by have := HG6.out; simp; omega) HB1.out.below.size))); clear hc hb hs))
    exact ret_st2 rfl rfl g6 _ rfl HX.out.1 under31 rfl size31 ⟨rfl, HX.out.2⟩
end Go.Proofs.YtgbpbfnpeeciaaaGreat
