import Derived.Test.YtgbpbfnpeeciaaaGreatP26
namespace Go.Proofs.YtgbpbfnpeeciaaaGreat
open Go.RowKit
set_option maxRecDepth 100000
set_option maxHeartbeats 4000000
def filW (x w : Int) : Int := if x = 0 then w else 0
def filE (x e : Int) : Int := if x = 0 then e else 140
def empE (x : Int) : Int := if x = 0 then 92 else 0
theorem fill82_any (W : World) (x : Int) (m : Mp) (b1 b2 : Nat) (h1 : Cel W b1 161 [fnV 88]) (h2 : Cel W b2 88 m.cs) :
    Calls Tryz.prog 114 #[.int .u32 x, ptr b1, ptr b2] W fun e W' => e = .returned (.tuple #[.int .u32 (filW x m.enc), .int .i64 (filE x m.err)]) ∧ Below W.heap.size W W' := by
  unfold filW filE
  have HS := hid (fun w => second_any w m)
  have c1 := h1.cell 0
  have HC := hid h2
  unfold Mp.cs at HC
  clear h1 h2
  simp only [List.getElem?_cons_zero, fnV, ptr, Mp.v] at *
  by_cases hx : x = 0
  · subst hx
    generalize m.enc = A at *
    generalize m.err = B at *
    go_enter Tryz.func114, Tryz.ntmps114
    go_wp2_with (first | (go_at_call 88; refine (HS.out _).mono ?_; rintro y w2 ⟨rfl, hb⟩; have HB := hid hb; clear hb) | (refine wpList_load_g rfl 88 _ rfl b2 rfl HC.out rfl under49 size49 ?_))
    go_returns
    exact ⟨rfl, HB.out⟩
  · rw [if_neg hx, if_neg hx]
    go_enter Tryz.func114, Tryz.ntmps114
    go_wp2_with fail
    go_returns
    exact ⟨rfl, Below.refl _ _⟩
theorem fill99_any (W : World) (x q : Int) (b1 b2 : Nat) (h1 : Cel W b1 154 [fnV 82]) (h2 : Cel W b2 3 [.int .i64 q]) :
    Calls Tryz.prog 109 #[.int .u32 x, ptr b1, ptr b2] W fun e W' => e = .returned (.tuple #[.int .u32 (filW x (fW q)), .int .i64 (filE x (fE q))]) ∧ Below W.heap.size W W' := by
  unfold filW filE
  have HS := hid (fun w => first_any w q)
  have c1 := h1.cell 0
  have c2 := h2.cell 0
  clear h1 h2
  simp only [List.getElem?_cons_zero, fnV, ptr] at *
  by_cases hx : x = 0
  · subst hx
    generalize fW q = A at *
    generalize fE q = B at *
    go_enter Tryz.func109, Tryz.ntmps109
    go_wp2_with (first | (go_at_call 82; refine (HS.out _).mono ?_; rintro y w2 ⟨rfl, rfl⟩))
    go_returns
    exact ⟨rfl, Below.refl _ _⟩
  · rw [if_neg hx, if_neg hx]
    go_enter Tryz.func109, Tryz.ntmps109
    go_wp2_with fail
    go_returns
    exact ⟨rfl, Below.refl _ _⟩
theorem filled45_any (W : World) (m : Mp) :
    Calls Tryz.prog 87 #[fnV 88, m.v] W fun e W' => ∃ b1 b2, e = .returned (.func (.func 114) #[] #[ptr b1, ptr b2]) ∧ Bag W W' [(b2, 88, m.cs), (b1, 161, [fnV 88])] ∧ W.heap.size ≤ b1 ∧ W.heap.size ≤ b2 := by
  have B0 := hid (Bag.two W 161 88 [fnV 88] m.cs)
  unfold Mp.cs fnV at B0
  unfold Mp.v fnV Mp.cs
  go_enter Tryz.func87, Tryz.ntmps87
  go_wp2_with fail
  go_returns
  exact ⟨W.heap.size, W.heap.size + 1, rfl, B0.out, Nat.le_refl _, Nat.le_succ _⟩
theorem filled75_any (W : World) (q : Int) :
    Calls Tryz.prog 81 #[fnV 82, .int .i64 q] W fun e W' => ∃ b1 b2, e = .returned (.func (.func 109) #[] #[ptr b1, ptr b2]) ∧ Bag W W' [(b2, 3, [.int .i64 q]), (b1, 154, [fnV 82])] ∧ W.heap.size ≤ b1 ∧ W.heap.size ≤ b2 := by
  have B0 := hid (Bag.two W 154 3 [fnV 82] [.int .i64 q])
  unfold fnV at B0
  unfold fnV
  go_enter Tryz.func81, Tryz.ntmps81
  go_wp2_with fail
  go_returns
  exact ⟨W.heap.size, W.heap.size + 1, rfl, B0.out, Nat.le_refl _, Nat.le_succ _⟩
def DS.tn (d : DS) (pg off w e : Int) : DS := if e = 0 then (d.rd pg off).wr pg off w else d.rd pg off
theorem turn82_any (W : World) (p : Dp) (d : DS) (h : DB W p d) (pg off : Int) (m : Mp) (b1 b2 : Nat) (h1 : Cel W b1 161 [fnV 88]) (h2 : Cel W b2 88 m.cs) :
    Calls Tryz.prog 78 #[rdF p.f pg off, wrF p.f pg off, .func (.func 114) #[] #[ptr b1, ptr b2]] W fun x W' => x = .returned (.int .i64 (filE (d.m.word true pg off) m.err)) ∧ DB W' p (d.tn pg off (filW (d.m.word true pg off) m.enc) (filE (d.m.word true pg off) m.err)) ∧ ButL p.f.w W W' := by
  have HR := hid (readd_any W p d h pg off)
  have HL := hid (fun w (hw : DB w p (d.rd pg off)) v => layd_any w p (d.rd pg off) hw pg off v)
  have HX := hid (fun w (hb : ButL p.f.w W w) => fill82_any w (d.m.word true pg off) m b1 b2 (h1.but hb (fun hk => h.mem.off h1 (by decide) (Fp.w_all hk))) (h2.but hb (fun hk => h.mem.off h2 (by decide) (Fp.w_all hk))))
  clear h1 h2
  unfold DS.tn
  clear h
  generalize d.m.word true pg off = F at *
  generalize hA : filW F m.enc = A at *
  clear hA
  generalize filE F m.err = E at *
  simp only [rdF, wrF, ptr, plV] at *
  by_cases hE : E = 0
  · subst hE
    rw [if_pos rfl]
    go_enter Tryz.func78, Tryz.ntmps78
    go_wp2_with (first | (go_at_call 79; refine HR.out.mono ?_; rintro x w2 ⟨rfl, hd, hb⟩; have HD := hid hd; have HB := hid hb; clear hb hd) | (go_at_call 114; refine (HX.out _ HB.out).mono ?_; rintro x w3 ⟨rfl, hb⟩; have HD2 := hid (HD.out.on hb); have HB2 := hid (HB.out.on hb); clear hb) | (go_at_call 80; refine (HL.out _ HD2.out A).mono ?_; rintro x w4 ⟨rfl, hd, hb⟩; have HD3 := hid hd; have HB3 := hid (HB2.out.trans hb); clear hb hd))
    go_returns
    exact ⟨rfl, HD3.out, HB3.out⟩
  · rw [if_neg hE]
    go_enter Tryz.func78, Tryz.ntmps78
    go_wp2_with (first | (go_at_call 79; refine HR.out.mono ?_; rintro x w2 ⟨rfl, hd, hb⟩; have HD := hid hd; have HB := hid hb; clear hb hd) | (go_at_call 114; refine (HX.out _ HB.out).mono ?_; rintro x w3 ⟨rfl, hb⟩; have HD2 := hid (HD.out.on hb); have HB2 := hid (HB.out.on hb); clear hb))
    go_returns
    exact ⟨rfl, HD2.out, HB2.out⟩
theorem turn99_any (W : World) (p : Dp) (d : DS) (h : DB W p d) (pg off : Int) (q : Int) (b1 b2 : Nat) (h1 : Cel W b1 154 [fnV 82]) (h2 : Cel W b2 3 [.int .i64 q]) :
    Calls Tryz.prog 78 #[rdF p.f pg off, wrF p.f pg off, .func (.func 109) #[] #[ptr b1, ptr b2]] W fun x W' => x = .returned (.int .i64 (filE (d.m.word true pg off) (fE q))) ∧ DB W' p (d.tn pg off (filW (d.m.word true pg off) (fW q)) (filE (d.m.word true pg off) (fE q))) ∧ ButL p.f.w W W' := by
  have HR := hid (readd_any W p d h pg off)
  have HL := hid (fun w (hw : DB w p (d.rd pg off)) v => layd_any w p (d.rd pg off) hw pg off v)
  have HX := hid (fun w (hb : ButL p.f.w W w) => fill99_any w (d.m.word true pg off) q b1 b2 (h1.but hb (fun hk => h.mem.off h1 (by decide) (Fp.w_all hk))) (h2.but hb (fun hk => h.mem.off h2 (by decide) (Fp.w_all hk))))
  clear h1 h2
  unfold DS.tn
  clear h
  generalize d.m.word true pg off = F at *
  generalize hA : filW F (fW q) = A at *
  clear hA
  generalize filE F (fE q) = E at *
  simp only [rdF, wrF, ptr, plV] at *
  by_cases hE : E = 0
  · subst hE
    rw [if_pos rfl]
    go_enter Tryz.func78, Tryz.ntmps78
    go_wp2_with (first | (go_at_call 79; refine HR.out.mono ?_; rintro x w2 ⟨rfl, hd, hb⟩; have HD := hid hd; have HB := hid hb; clear hb hd) | (go_at_call 109; refine (HX.out _ HB.out).mono ?_; rintro x w3 ⟨rfl, hb⟩; have HD2 := hid (HD.out.on hb); have HB2 := hid (HB.out.on hb); clear hb) | (go_at_call 80; refine (HL.out _ HD2.out A).mono ?_; rintro x w4 ⟨rfl, hd, hb⟩; have HD3 := hid hd; have HB3 := hid (HB2.out.trans hb); clear hb hd))
    go_returns
    exact ⟨rfl, HD3.out, HB3.out⟩
  · rw [if_neg hE]
    go_enter Tryz.func78, Tryz.ntmps78
    go_wp2_with (first | (go_at_call 79; refine HR.out.mono ?_; rintro x w2 ⟨rfl, hd, hb⟩; have HD := hid hd; have HB := hid hb; clear hb hd) | (go_at_call 109; refine (HX.out _ HB.out).mono ?_; rintro x w3 ⟨rfl, hb⟩; have HD2 := hid (HD.out.on hb); have HB2 := hid (HB.out.on hb); clear hb))
    go_returns
    exact ⟨rfl, HD2.out, HB2.out⟩
end Go.Proofs.YtgbpbfnpeeciaaaGreat
