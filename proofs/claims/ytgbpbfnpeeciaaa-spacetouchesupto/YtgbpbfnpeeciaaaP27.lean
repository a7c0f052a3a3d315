import Derived.Test.YtgbpbfnpeeciaaaP26
namespace Go.Proofs.Ytgbpbfnpeeciaaa
open Go.RowKit
set_option maxRecDepth 100000
set_option maxHeartbeats 4000000
def rdF (f : Fp) (pg off : Int) : Value := .func (.func 38) #[plV f pg off] #[]
def wrF (f : Fp) (pg off : Int) : Value := .func (.func 43) #[plV f pg off] #[]
def DS.isS (d : DS) (s w : Int) : Bool := decide (pfE w = 0) && d.own s (pf w) 4
theorem second2_any (W : World) (p : Dp) (d : DS) (h : DB W p d) (hU : d.m.U) (s t pg off : Int) :
    Calls Try.prog 37 #[tbV p s t, rdF p.f pg off] W fun x W' => x = .returned (.tuple #[.int .i64 (pf (d.m.word true pg off)), .bool (d.isS s (d.m.word true pg off))]) ∧ DB W' p (d.rd pg off) ∧ ButL p.f.w W W' := by
  have D0 := hid ((DG.startw h).new 90 [ptr p.g, .int .i64 s, .int .i64 t])
  have HW := hU.word true pg off
  have HR := hid (fun w (hw : DB w p d) => readd_any w p d hw pg off)
  have HF := hid (fun w => pf_any w _ HW.1 HW.2)
  have HO := hid (fun w (hw : DB w p (d.rd pg off)) => owns_any w p (d.rd pg off) hw s t (pf (d.m.word true pg off)) 4)
  rw [DS.rd_own] at HO
  unfold DS.isS rdF
  clear h hU HW
  generalize d.m.word true pg off = F at *
  generalize hO : d.own s (pf F) 4 = O at *
  clear hO
  generalize pf F = q at *
  generalize hE : pfE F = e at *
  clear hE
  simp only [tbV, ptr, plV] at *
  go_enter Try.func37, Try.ntmps37
  go_upto_region 1 with fail
  generalize W.alloc _ = X at *
  generalize hg : W.heap.size = g2 at D0 ⊢
  clear hg
  go_upto_region 2 with (first | (go_at_call 38; refine (HR.out _ D0.out.db).mono ?_; rintro x w2 ⟨rfl, hd, hb⟩; have D1 := hid (D0.out.step hd hb (fun _ hk => hk)); clear hb hd) | (go_at_call 51; refine (HF.out _).mono ?_; rintro x w3 ⟨rfl, rfl⟩))
  clear D0 HR HF
  by_cases he : e = 0
  · subst he
    go_wp2_with (first | (go_at_call 73; refine (HO.out _ D1.out.db).mono ?_; rintro x w4 ⟨rfl, hb⟩; have D2 := hid (D1.out.on hb); clear hb) | (refine wpList_load_g rfl 90 _ rfl g2 rfl (D1.out.get 0 rfl) rfl under90 size90 ?_))
    go_returns
    exact ⟨by simp, D2.out.db, D2.out.but⟩
  · go_wp2_with fail
    go_returns
    exact ⟨by simp [he], D1.out.db, D1.out.but⟩
theorem under49 : Try.prog.underlying 49 = some (.struct (Try.prog.fieldsOf 49)) := by kernel_rfl
theorem size49 : (Try.prog.info? 49).map (·.size) = some 4 := by kernel_rfl
theorem under47 : Try.prog.underlying 47 = some (.struct (Try.prog.fieldsOf 47)) := by kernel_rfl
theorem size47 : (Try.prog.info? 47).map (·.size) = some 2 := by kernel_rfl
theorem built_z49 : Try.prog.built 49 [] = some #[.bool false, .int .i64 0, .bool false, .bool false] := by kernel_rfl
theorem wpList_build_z49 {ops : Array Oper} {rest : List Oper} {o : Oper} {a : Act} {w : World} {Q : Exit → Act → World → Prop} (hgd : o.guard = none) (ho : o.op = .build 49 #[])
    (h : wpList Try.prog ops Q rest (a.put o.dst (.agg #[.bool false, .int .i64 0, .bool false, .bool false])) w) : wpList Try.prog ops Q (o :: rest) a w :=
  wpList_build_f hgd 49 _ ho #[] (by simp) _ built_z49 h
theorem wpList_load_gm {ops : Array Oper} {rest : List Oper} {o : Oper} {a : Act} {w : World} {Q : Exit → Act → World → Prop} (hw : Region.wanted o (yielded ops a.tmps) = true) (ty : TypeId) (x : Operand) (ho : o.op = .load ty x)
    (b k : Nat) (hx : a.eval x = .pointer (some ⟨b, k, none⟩)) (cs : List Value) (d : TypeDesc) (hc : w.rangeAt b k cs)
    (hu : Try.prog.underlying ty = some d) (hd : d.isRow = true) (hi : (Try.prog.info? ty).map (·.size) = some cs.length)
    (h : wpList Try.prog ops Q rest (a.put o.dst (.agg cs.toArray)) w) : wpList Try.prog ops Q (o :: rest) a w :=
  wpList_step fun K hK => by simp only [hw, if_true]; exact wp_load_mid ty x ho b k hx cs d hc hu hd hi (hK _ _ h)
theorem Cel.part {w : World} {g : Nat} {t : TypeId} {cs : List Value} (h : Cel w g t cs) (k : Nat) (ds : List Value) (hd : ∀ j v, ds[j]? = some v → cs[k + j]? = some v) : w.rangeAt g k ds := fun j v hv => by rw [h.cell (k + j)]; exact hd j v hv
def Mp.cs (m : Mp) : List Value := [.bool m.s, .int .i64 m.p, .bool m.wr, .bool m.ex]
theorem Cel.frm {w : World} {g : Nat} {t : TypeId} {m : Mp} (h : Cel w g t [.bool m.s, .int .i64 m.p, .bool m.wr, .bool m.ex]) : w.rangeAt g 0 [.bool m.s, .int .i64 m.p] := h.part 0 _ (fun j v hv => by
  match j with
  | 0 => simpa using hv
  | 1 => simpa using hv
  | j + 2 => simp at hv)
def MS.mE (m : MS) (w : Int) : Int := if psE w = 0 then (if (m.at (ps w).s (ps w).p).isSome then 0 else 90) else psE w
def MS.mM (m : MS) (w : Int) : Mp := if m.mE w = 0 then ps w else Mp.z
theorem ps_z {w : Int} (h : psE w ≠ 0) : ps w = Mp.z := by
  unfold ps psE at *
  by_cases h0 : w = 0
  · subst h0; rw [if_neg (by decide)]
  · rw [if_neg h0] at h
    by_cases h1 : PsOk w
    · rw [if_pos h1] at h; exact absurd rfl h
    · rw [if_neg h1]
theorem mapped2_any (W : World) (p : Dp) (d : DS) (h : DB W p d) (hU : d.m.U) (pg off : Int) :
    Calls Try.prog 41 #[ptr p.f.gm, rdF p.f pg off] W fun x W' => x = .returned (.tuple #[(d.m.mM (d.m.word true pg off)).v, .int .i64 (d.m.mE (d.m.word true pg off))]) ∧ DB W' p (d.rd pg off) ∧ ButL p.f.w W W' := by
  have D0 := hid ((DG.startw h).new 49 [.bool false, .int .i64 0, .bool false, .bool false])
  have HW := hU.word true pg off
  have HR := hid (fun w (hw : DB w p d) => readd_any w p d hw pg off)
  have HF := hid (fun w => ps_any w _ HW.1 HW.2)
  have HH := hid (fun w (hw : DB w p (d.rd pg off)) => has_any w p.f _ hw.mem (ps (d.m.word true pg off)).s (ps (d.m.word true pg off)).p)
  rw [show (d.rd pg off).m = d.m.read true pg off from rfl, MS.read_at] at HH
  unfold MS.mM MS.mE rdF
  clear h hU HW
  have hz := @ps_z (d.m.word true pg off)
  generalize d.m.word true pg off = F at *
  generalize ps F = M at *
  generalize psE F = e at *
  generalize (d.m.at M.s M.p).isSome = O at *
  simp only [ptr, plV, Mp.v, fr] at *
  go_enter Try.func41, Try.ntmps41
  go_upto_region 1 with fail
  generalize W.alloc _ = X at *
  generalize hg : W.heap.size = g4 at D0 ⊢
  clear hg
  go_upto_region 2 with (first | (go_at_call 38; refine (HR.out _ D0.out.db).mono ?_; rintro x w2 ⟨rfl, hd, hb⟩; have D1 := hid (D0.out.step hd hb (fun _ hk => hk)); clear hb hd) | (go_at_call 53; refine (HF.out _).mono ?_; rintro x w3 ⟨rfl, hb⟩; have D2 := hid ((D1.out.on hb).new 49 [.bool M.s, .int .i64 M.p, .bool M.wr, .bool M.ex]); have HN : Hid (w3.heap.size ≠ g4) := hid (fun e => by have := ((D1.out.on hb).get 0 rfl).lt; omega); clear hb))
  clear D0 D1 HR HF
  generalize w3.alloc _ = w4 at *
  generalize w3.heap.size = g6 at *
  by_cases he : e = 0
  · subst he
    cases O with
    | true =>
      go_wp2_with (first | (go_at_call 46; refine (HH.out _ D2.out.db).mono ?_; rintro x w5 ⟨rfl, hb⟩; have D3 := hid (D2.out.on hb); clear hb) | (refine wpList_load_gm rfl 47 _ rfl g6 0 rfl _ _ (D2.out.get 0 rfl).frm under47 rfl size47 ?_) | (refine wpList_load_g rfl 49 _ rfl g6 rfl (D3.out.get 0 rfl) rfl under49 size49 ?_) | (refine wpList_store_st rfl 49 _ _ rfl g4 [.bool M.s, .int .i64 M.p, .bool M.wr, .bool M.ex] rfl rfl (D3.out.get 1 rfl) size49 rfl rfl ?_; intro w6 hc hb hs; have D4 := hid (D3.out.tail.put (by simp) hc hb); have HC := hid hc; clear hc hb hs))
      exact ret_st2 rfl rfl g4 _ rfl HC.out under49 rfl size49 ⟨rfl, D4.out.db, D4.out.but⟩
    | false =>
      go_wp2_with (first | (go_at_call 46; refine (HH.out _ D2.out.db).mono ?_; rintro x w5 ⟨rfl, hb⟩; have D3 := hid (D2.out.on hb); clear hb) | (refine wpList_build_z49 rfl rfl ?_) | (refine wpList_load_gm rfl 47 _ rfl g6 0 rfl _ _ (D2.out.get 0 rfl).frm under47 rfl size47 ?_) | (refine wpList_store_st rfl 49 _ _ rfl g4 [.bool false, .int .i64 0, .bool false, .bool false] rfl rfl (D3.out.get 1 rfl) size49 rfl rfl ?_; intro w6 hc hb hs; have D4 := hid (D3.out.tail.put (by simp) hc hb); have HC := hid hc; clear hc hb hs))
      exact ret_st2 rfl rfl g4 _ rfl HC.out under49 rfl size49 ⟨rfl, D4.out.db, D4.out.but⟩
  · obtain rfl := hz he
    go_wp2_with (first | (refine wpList_load_g rfl 49 _ rfl g6 rfl (D2.out.get 0 rfl) rfl under49 size49 ?_) | (refine wpList_store_st rfl 49 _ _ rfl g4 [.bool Mp.z.s, .int .i64 Mp.z.p, .bool Mp.z.wr, .bool Mp.z.ex] rfl rfl (D2.out.get 1 rfl) size49 rfl rfl ?_; intro w6 hc hb hs; have D4 := hid (D2.out.tail.put (by simp) hc hb); have HC := hid hc; clear hc hb hs))
    exact ret_st2 rfl rfl g4 _ rfl HC.out under49 rfl size49 ⟨rfl, D4.out.db, D4.out.but⟩
end Go.Proofs.Ytgbpbfnpeeciaaa
